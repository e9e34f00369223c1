/- All generators: one step of each kind. · All generators: the next word of each kind. -/
import Derived.Test.YtadcihkpnpemeaaGreatGsL
import Derived.Test.YtadcihkpnpemeaaGreatPkF
import Derived.Deep.RegionHeld3
import Derived.BigQuiet
namespace Go.Proofs.YtadcihkpnpemeaaGreat
open Go.RowKit Go.Bv
set_option linter.unusedVariables false
set_option maxRecDepth 100000
/-- one step of a state's words -/
def StC (k : Int) (q q' : W4) : Prop := ∀ (w : World) (g : Gn), IsGen w k g → Calls Tryz.prog g.st.1 (#[.agg q.cells] ++ g.st.2) w fun e w' => e = .returned (.agg q'.cells) ∧ New w w'
def m9 (q : W4) : W4 := ⟨q.a ^^^ (q.d ^^^ q.b), q.b ^^^ (q.c ^^^ q.a), (q.c ^^^ q.a) ^^^ q.b <<< 17, (q.d ^^^ q.b).rotateLeft 45⟩
set_option maxHeartbeats 1000000 in
theorem st1_any (b : Nat) (s : BitVec 64) (w : World) (h : w.heap[b]? = some (.cells #[.func (Fn.func 53) #[] #[]] 60 (0, 0))) :
    Calls Tryz.prog 57 #[.agg (q1 s).cells, ptv b] w fun e w' => e = .returned (.agg (q1 (s + Gm)).cells) ∧ New w w' := by
  unfold ptv
  have hz := two_blocksG w (.cells (q1 s).cells 66) (.cells zw 66)
  have c0 := cell_of_row _ _ 0 _ _ _ ((hz.2.2.block _ (lt_of_block h)).trans h)
  have HZ := Lib.hid hz
  have HX := Lib.hid (fun w => nx1_any s w)
  clear h hz
  go_enter Tryz.func57, Tryz.ntmps57
  go_wp2_with fail
  refine (HX.out _).mono ?_
  rintro e w1 ⟨rfl, n1⟩
  have n2 := n1.alloc (.cells (q1 (s + Gm)).cells 66)
  have hy := (n2.block _ (lt_of_block HZ.out.2.1)).trans HZ.out.2.1
  have d0 := cell_of_row _ _ 0 _ _ _ hy
  have d1 := cell_of_row _ _ 1 _ _ _ hy
  have d2 := cell_of_row _ _ 2 _ _ _ hy
  have d3 := cell_of_row _ _ 3 _ _ _ hy
  have df := fun i => frozen_of_row _ _ i _ _ hy
  have HN := Lib.hid (HZ.out.2.2.trans n2)
  clear hy n1 n2 HZ
  go_wp2_with fail
  refine bodyPost_ret (by simp [results, Tryz.results57, go_sem, d0, d1, d2, d3]; try rfl) rfl ?_
  exact ⟨rfl, (((HN.out.setCell (by show w.heap.size ≤ w.heap.size + 1; omega) _).setCell (by show w.heap.size ≤ w.heap.size + 1; omega) _).setCell (by show w.heap.size ≤ w.heap.size + 1; omega) _).setCell (by show w.heap.size ≤ w.heap.size + 1; omega) _⟩
theorem st1 (s : BitVec 64) : StC 1 (q1 s) (q1 (s + Gm)) := by
  intro w g h
  cases h with
  | split b h => exact st1_any b s w h
  | xosh k hk b h => omega
  | xoro k hk b b4 b5 b6 h h4 h5 h6 => omega
set_option maxHeartbeats 1000000 in
theorem stX_any (q : W4) (w : World) : Calls Tryz.prog 66 #[.agg q.cells] w fun e w' => e = .returned (.agg (m9 q).cells) ∧ New w w' := by
  have hz := two_blocksG w (.cells q.cells 66) (.cells zw 66)
  have HZ := Lib.hid hz
  clear hz
  go_enter Tryz.func66, Tryz.ntmps66
  go_wp2_with fail
  refine (step_any9 _ _ _ _ _).mono ?_
  rintro e w' ⟨rfl, hn⟩
  have hy := (hn.block _ (lt_of_block HZ.out.2.1)).trans HZ.out.2.1
  have d0 := cell_of_row _ _ 0 _ _ _ hy
  have d1 := cell_of_row _ _ 1 _ _ _ hy
  have d2 := cell_of_row _ _ 2 _ _ _ hy
  have d3 := cell_of_row _ _ 3 _ _ _ hy
  have df := fun i => frozen_of_row _ _ i _ _ hy
  have HN := Lib.hid (HZ.out.2.2.trans hn)
  clear hy hn HZ
  go_wp2_with fail
  refine bodyPost_ret (by simp [results, Tryz.results66, go_sem, d0, d1, d2, d3]; try rfl) rfl ?_
  exact ⟨rfl, (((HN.out.setCell (by show w.heap.size ≤ w.heap.size + 1; omega) _).setCell (by show w.heap.size ≤ w.heap.size + 1; omega) _).setCell (by show w.heap.size ≤ w.heap.size + 1; omega) _).setCell (by show w.heap.size ≤ w.heap.size + 1; omega) _⟩
theorem stX (k : Int) (hk : k = 2 ∨ k = 3 ∨ k = 4) (q : W4) : StC k q (m9 q) := by
  intro w g h
  cases h with
  | split b h => omega
  | xosh k hk b h => exact stX_any q w
  | xoro k hk b b4 b5 b6 h h4 h5 h6 => omega
  | pcg32 => omega
  | pcg64 => omega
set_option maxHeartbeats 2000000 in
theorem stO_any (k : Int) (f : Q2 → Q2) (hf : Mv2 72 k f) (q : Q2) (b b4 b5 : Nat) (w : World) (h : w.heap[b]? = some (.cells #[.int .i64 k] 3 (0, 0)))
      (h4 : w.heap[b4]? = some (.cells #[.func (Fn.func 69) #[] #[]] 104 (0, 0)))
      (h5 : w.heap[b5]? = some (.cells #[.func (Fn.func 70) #[] #[]] 105 (0, 0))) :
    Calls Tryz.prog 71 #[.agg (w10 q).cells, ptv b5, ptv b, ptv b4] w fun e w' => e = .returned (.agg (w10 (f q)).cells) ∧ New w w' := by
  unfold ptv
  rw [w10_cells q]
  have n0 : New w ((w.alloc (.cells #[.int .u64 (W64 q.a), .int .u64 (W64 q.b), .int .u64 0, .int .u64 0] 66)).alloc (.cells zw 66)) := ((New.refl w).alloc _).alloc _
  have hz := two_blocksG w (.cells #[.int .u64 (W64 q.a), .int .u64 (W64 q.b), .int .u64 0, .int .u64 0] 66) (.cells zw 66)
  have HF := Lib.hid (fun w => four_any (f q) w)
  have HT : Hid (∀ w, Calls Tryz.prog 69 #[.agg #[.int .u64 (W64 q.a), .int .u64 (W64 q.b), .int .u64 0, .int .u64 0]] w fun e w' => e = .returned (.agg #[.int .u64 (W64 q.a), .int .u64 (W64 q.b)]) ∧ New w w') := Lib.hid (fun w => by
    have h := two_any (w10 q) w
    rw [w10_cells] at h
    exact h)
  have HS := Lib.hid (fun w => hf q w)
  have n1 : New w (w.alloc (.cells #[.int .u64 (W64 q.a), .int .u64 (W64 q.b), .int .u64 0, .int .u64 0] 66)) := (New.refl w).alloc _
  have hx := heap_alloc_new w (.cells #[.int .u64 (W64 q.a), .int .u64 (W64 q.b), .int .u64 0, .int .u64 0] 66)
  have n13 : New (w.alloc (.cells #[.int .u64 (W64 q.a), .int .u64 (W64 q.b), .int .u64 0, .int .u64 0] 66)) ((w.alloc (.cells #[.int .u64 (W64 q.a), .int .u64 (W64 q.b), .int .u64 0, .int .u64 0] 66)).alloc (.cells zw 66)) := (New.refl _).alloc _
  have hs1 : (w.alloc (.cells #[.int .u64 (W64 q.a), .int .u64 (W64 q.b), .int .u64 0, .int .u64 0] 66)).heap.size ≤ w.heap.size + 1 := by simp
  have h := (n1.block _ (lt_of_block h)).trans h
  have h4 := (n1.block _ (lt_of_block h4)).trans h4
  have h5 := (n1.block _ (lt_of_block h5)).trans h5
  go_enter Tryz.func71, Tryz.ntmps71
  go_wp2_with fail
  generalize (w.alloc (.cells #[.int .u64 (W64 q.a), .int .u64 (W64 q.b), .int .u64 0, .int .u64 0] 66)).alloc (.cells #[.int .u64 0, .int .u64 0, .int .u64 0, .int .u64 0] 66) = w3 at *
  generalize w.alloc (.cells #[.int .u64 (W64 q.a), .int .u64 (W64 q.b), .int .u64 0, .int .u64 0] 66) = w1 at *
  have HZ := Lib.hid hz
  have HX := Lib.hid hx
  have HH := Lib.hid h
  have HH4 := Lib.hid h4
  have HH5 := Lib.hid h5
  have HN3 := Lib.hid n0
  have H13 := Lib.hid n13
  have HS1 := Lib.hid hs1
  clear hz hx n0 h h4 h5 n13 hs1 n1
  have HLE : Hid (w1.heap.size ≤ (⟨w.heap.size + 1, 0, none⟩ : Addr).block) := Lib.hid HS1.out
  have SK : Hid (∀ w', New w1 w' → New w1 w' ∧ w'.cell? ⟨b5, 0, none⟩ = some (.func (Fn.func 70) #[] #[]) ∧ w'.cell? ⟨b, 0, none⟩ = some (.int .i64 k) ∧ w'.cell? ⟨b4, 0, none⟩ = some (.func (Fn.func 69) #[] #[]) ∧ w'.cell? ⟨w.heap.size, 0, none⟩ = some (.int .u64 (W64 q.a)) ∧ w'.cell? ⟨w.heap.size, 1, none⟩ = some (.int .u64 (W64 q.b)) ∧ w'.cell? ⟨w.heap.size, 2, none⟩ = some (.int .u64 0) ∧ w'.cell? ⟨w.heap.size, 3, none⟩ = some (.int .u64 0)) := Lib.hid (fun w' hn => ⟨hn, cell_of_row _ _ 0 _ _ _ ((hn.block _ (lt_of_block HH5.out)).trans HH5.out), cell_of_row _ _ 0 _ _ _ ((hn.block _ (lt_of_block HH.out)).trans HH.out), cell_of_row _ _ 0 _ _ _ ((hn.block _ (lt_of_block HH4.out)).trans HH4.out), cell_of_row _ _ 0 _ _ _ ((hn.block _ (lt_of_block HX.out)).trans HX.out), cell_of_row _ _ 1 _ _ _ ((hn.block _ (lt_of_block HX.out)).trans HX.out), cell_of_row _ _ 2 _ _ _ ((hn.block _ (lt_of_block HX.out)).trans HX.out), cell_of_row _ _ 3 _ _ _ ((hn.block _ (lt_of_block HX.out)).trans HX.out)⟩)
  have hw0 : New w1 w3 := H13.out
  obtain ⟨_, ce0, ce1, ce2, ce3, ce4, ce5, ce6⟩ := SK.out w3 hw0
  go_region_held3 (fun w' => New w1 w' ∧ w'.cell? ⟨b5, 0, none⟩ = some (.func (Fn.func 70) #[] #[]) ∧ w'.cell? ⟨b, 0, none⟩ = some (.int .i64 k) ∧ w'.cell? ⟨b4, 0, none⟩ = some (.func (Fn.func 69) #[] #[]) ∧ w'.cell? ⟨w.heap.size, 0, none⟩ = some (.int .u64 (W64 q.a)) ∧ w'.cell? ⟨w.heap.size, 1, none⟩ = some (.int .u64 (W64 q.b)) ∧ w'.cell? ⟨w.heap.size, 2, none⟩ = some (.int .u64 0) ∧ w'.cell? ⟨w.heap.size, 3, none⟩ = some (.int .u64 0))
    ((refine SK.out _ ?_; repeat (first | with_reducible assumption | with_reducible exact New.refl _ | with_reducible refine New.drew ?_ | (with_reducible refine New.setCell ?_ HLE.out _))))
    (first
    | (go_at_call 69
       refine (HT.out _).mono ?_
       rintro e q0 ⟨rfl, hc0⟩
       have hg0 : New w3 q0 := by first | with_reducible exact hg1.trans hc0 | with_reducible exact hg1.drew.trans hc0 | with_reducible exact hg2.trans hc0 | with_reducible exact hg2.drew.trans hc0 | with_reducible exact (New.refl w3).drew.trans hc0 | with_reducible exact hc0
       have hw1 : New w1 q0 := H13.out.trans hg0
       have hz0 := (hg0.block _ (lt_of_block HZ.out.2.1)).trans HZ.out.2.1
       have d0 := cell_of_row _ _ 0 _ _ _ hz0
       have d1 := cell_of_row _ _ 1 _ _ _ hz0
       have d2 := cell_of_row _ _ 2 _ _ _ hz0
       have d3 := cell_of_row _ _ 3 _ _ _ hz0
       have df := fun i => frozen_of_row _ _ i _ _ hz0
       have HG := Lib.hid (HN3.out.trans hg0)
       clear hz0
       clear hc0)
    | (go_at_call 72
       refine (HS.out _).mono ?_
       rintro e q1 ⟨rfl, hc1⟩
       have hg1 : New w3 q1 := by first | with_reducible exact hg0.trans hc1 | with_reducible exact hg0.drew.trans hc1 | with_reducible exact hg2.trans hc1 | with_reducible exact hg2.drew.trans hc1 | with_reducible exact (New.refl w3).drew.trans hc1 | with_reducible exact hc1
       have hw2 : New w1 q1 := H13.out.trans hg1
       have hz1 := (hg1.block _ (lt_of_block HZ.out.2.1)).trans HZ.out.2.1
       have d0 := cell_of_row _ _ 0 _ _ _ hz1
       have d1 := cell_of_row _ _ 1 _ _ _ hz1
       have d2 := cell_of_row _ _ 2 _ _ _ hz1
       have d3 := cell_of_row _ _ 3 _ _ _ hz1
       have df := fun i => frozen_of_row _ _ i _ _ hz1
       have HG := Lib.hid (HN3.out.trans hg1)
       clear hz1
       clear hc1)
    | (go_at_call 70
       refine (HF.out _).mono ?_
       rintro e q2 ⟨rfl, hc2⟩
       have hg2 : New w3 q2 := by first | with_reducible exact hg0.trans hc2 | with_reducible exact hg0.drew.trans hc2 | with_reducible exact hg1.trans hc2 | with_reducible exact hg1.drew.trans hc2 | with_reducible exact (New.refl w3).drew.trans hc2 | with_reducible exact hc2
       have hw3 : New w1 q2 := H13.out.trans hg2
       have hz2 := (hg2.block _ (lt_of_block HZ.out.2.1)).trans HZ.out.2.1
       have d0 := cell_of_row _ _ 0 _ _ _ hz2
       have d1 := cell_of_row _ _ 1 _ _ _ hz2
       have d2 := cell_of_row _ _ 2 _ _ _ hz2
       have d3 := cell_of_row _ _ 3 _ _ _ hz2
       have df := fun i => frozen_of_row _ _ i _ _ hz2
       have HG := Lib.hid (HN3.out.trans hg2)
       clear hz2
       clear hc2))
  all_goals
    go_wp2
    refine bodyPost_ret (by simp [results, Tryz.results71, go_sem, d0, d1, d2, d3]; try rfl) rfl ?_
    first | exact ⟨rfl, ((((((((HG.out).setCell (by show w.heap.size ≤ w.heap.size + 1; omega) _)).setCell (by show w.heap.size ≤ w.heap.size + 1; omega) _)).setCell (by show w.heap.size ≤ w.heap.size + 1; omega) _)).setCell (by show w.heap.size ≤ w.heap.size + 1; omega) _)⟩ | exact ⟨rfl, (((((((((HG.out).setCell (by show w.heap.size ≤ w.heap.size + 1; omega) _)).setCell (by show w.heap.size ≤ w.heap.size + 1; omega) _)).setCell (by show w.heap.size ≤ w.heap.size + 1; omega) _)).setCell (by show w.heap.size ≤ w.heap.size + 1; omega) _)).drew⟩
/-- the step of kinds 5 and 6 -/
def mo (k : Int) : Q2 → Q2 := if k = 5 then stp 24 16 37 else stp 49 21 28
theorem mo_st (k : Int) (hk : k = 5 ∨ k = 6) : Mv2 72 k (mo k) := by
  rcases hk with rfl | rfl
  · exact step_5
  · exact step_6
theorem stO (k : Int) (hk : k = 5 ∨ k = 6) (q : Q2) : StC k (w10 q) (w10 (mo k q)) := by
  intro w g h
  cases h with
  | split b h => omega
  | xosh k hk b h => omega
  | xoro k hk b b4 b5 b6 h h4 h5 h6 => exact stO_any k (mo k) (mo_st k hk) q b b4 b5 w h h4 h5
  | pcg32 => omega
  | pcg64 => omega
def p7 (q : Q2) : Q2 := ⟨step13 q.a q.b, q.b⟩
theorem q2a (x y : BitVec 64) : (Q2.mk x y).a = x := rfl
theorem q2b (x y : BitVec 64) : (Q2.mk x y).b = y := rfl
theorem p7_a (q : Q2) : (p7 q).a = step13 q.a q.b := q2a _ _
theorem p7_b (q : Q2) : (p7 q).b = q.b := q2b _ _
set_option maxHeartbeats 2000000 in
theorem stP_raw (qa qb pa : BitVec 64) (hpa : step13 qa qb = pa) (w : World) : Calls Tryz.prog 83 #[.agg #[.int .u64 (W64 qa), .int .u64 (W64 qb), .int .u64 0, .int .u64 0]] w fun e w' => e = .returned (.agg #[.int .u64 (W64 pa), .int .u64 (W64 qb), .int .u64 0, .int .u64 0]) ∧ New w w' := by
  have HS := Lib.hid (fun w => step_any (W64 qa) (W64 qb) w)
  rw [ofInt_W64, ofInt_W64, hpa] at HS
  clear hpa
  have n0 : New w ((w.alloc (.cells #[.int .u64 (W64 qa), .int .u64 (W64 qb), .int .u64 0, .int .u64 0] 66)).alloc (.cells zw 66)) := ((New.refl w).alloc _).alloc _
  have hz := two_blocksG w (.cells #[.int .u64 (W64 qa), .int .u64 (W64 qb), .int .u64 0, .int .u64 0] 66) (.cells zw 66)
  go_enter Tryz.func83, Tryz.ntmps83
  go_wp2_with fail
  generalize (w.alloc (.cells #[.int .u64 (W64 qa), .int .u64 (W64 qb), .int .u64 0, .int .u64 0] 66)).alloc (.cells #[.int .u64 0, .int .u64 0, .int .u64 0, .int .u64 0] 66) = w3 at *
  have c0 := cell_of_row _ _ 0 _ _ _ hz.1
  have c1 := cell_of_row _ _ 1 _ _ _ hz.1
  have d0 := cell_of_row _ _ 0 _ _ _ hz.2.1
  have d1 := cell_of_row _ _ 1 _ _ _ hz.2.1
  have d2 := cell_of_row _ _ 2 _ _ _ hz.2.1
  have d3 := cell_of_row _ _ 3 _ _ _ hz.2.1
  have df := fun i => frozen_of_row _ _ i _ _ hz.2.1
  have HN := Lib.hid n0.drew
  clear hz n0
  go_region_held3 (fun w' => w'.cell? ⟨w.heap.size, 0, none⟩ = some (.int .u64 (W64 qa)) ∧ w'.cell? ⟨w.heap.size, 1, none⟩ = some (.int .u64 (W64 qb))) (go_keep)
    (first | (go_at_call 108; refine (HS.out _).mono ?_; rintro e w' ⟨rfl, rfl⟩))
  go_wp2
  refine bodyPost_ret (by simp [results, Tryz.results83, go_sem, d0, d1, d2, d3]; try rfl) rfl ?_
  exact ⟨rfl, (((HN.out.setCell (by show w.heap.size ≤ w.heap.size + 1; omega) _).setCell (by show w.heap.size ≤ w.heap.size + 1; omega) _).setCell (by show w.heap.size ≤ w.heap.size + 1; omega) _).setCell (by show w.heap.size ≤ w.heap.size + 1; omega) _⟩
theorem stP_any (q : Q2) (w : World) : Calls Tryz.prog 83 #[.agg (w10 q).cells] w fun e w' => e = .returned (.agg (w10 (p7 q)).cells) ∧ New w w' := by
  obtain ⟨p, hp⟩ : ∃ p, p7 q = p := ⟨_, rfl⟩
  have ha : step13 q.a q.b = p.a := by rw [← hp, p7_a]
  have hb : q.b = p.b := by rw [← hp, p7_b]
  rw [hp]
  have h := stP_raw q.a q.b p.a ha w
  rw [w10_cells q, w10_cells p, ← hb]
  exact h
theorem stP (q : Q2) : StC 7 (w10 q) (w10 (p7 q)) := by
  intro w g h
  cases h with
  | xosh k hk b h => omega
  | xoro k hk b b4 b5 b6 h h4 h5 h6 => omega
  | pcg32 => exact stP_any q w
def m14 (q : W4) : BitVec 128 := stp14 (join128 q.b q.a) (join128 q.d q.c)
def w14 (q : W4) : W4 := ⟨lo128 (m14 q), hi128 (m14 q), q.c, q.d⟩
theorem w4a (x y z t : BitVec 64) : (W4.mk x y z t).a = x := rfl
theorem w4b (x y z t : BitVec 64) : (W4.mk x y z t).b = y := rfl
theorem w4c (x y z t : BitVec 64) : (W4.mk x y z t).c = z := rfl
theorem w4d (x y z t : BitVec 64) : (W4.mk x y z t).d = t := rfl
theorem w14_a (q : W4) : (w14 q).a = lo128 (m14 q) := w4a _ _ _ _
theorem w14_b (q : W4) : (w14 q).b = hi128 (m14 q) := w4b _ _ _ _
theorem w14_c (q : W4) : (w14 q).c = q.c := w4c _ _ _ _
theorem w14_d (q : W4) : (w14 q).d = q.d := w4d _ _ _ _
def o14 (q : W4) : BitVec 64 := out14 (m14 q)
theorem nx14_raw (q p : W4) (o : BitVec 64) (hp : w14 q = p) (ho : o14 q = o) (w : World) : Calls Tryz.prog 115 #[.agg #[.int .u64 (W64 q.b), .int .u64 (W64 q.a)], .agg #[.int .u64 (W64 q.d), .int .u64 (W64 q.c)]] w fun e w' => e = .returned (.tuple #[.int .u64 (W64 o), .agg #[.int .u64 (W64 p.b), .int .u64 (W64 p.a)]]) ∧ New w w' := by
  have h := next14 (join128 q.b q.a) (join128 q.d q.c) w
  rw [hi_join, lo_join, hi_join, lo_join] at h
  have e1 : hi128 (stp14 (join128 q.b q.a) (join128 q.d q.c)) = p.b := by rw [← hp, w14_b]; rfl
  have e2 : lo128 (stp14 (join128 q.b q.a) (join128 q.d q.c)) = p.a := by rw [← hp, w14_a]; rfl
  have e3 : out14 (stp14 (join128 q.b q.a) (join128 q.d q.c)) = o := by rw [← ho]; rfl
  rw [e1, e2, e3] at h
  exact h
set_option maxHeartbeats 2000000 in
theorem nxQ_raw (q p : W4) (o : BitVec 64) (hp : w14 q = p) (ho : o14 q = o) (w : World) : Calls Tryz.prog 92 #[.agg q.cells] w fun e w' => e = .returned (.tuple #[.int .u64 (W64 o), .agg p.cells]) ∧ New w w' := by
  have hz := two_blocksG w (.cells q.cells 66) (.cells zw 66)
  have HZ := Lib.hid hz
  have HX := Lib.hid (fun w => nx14_raw q p o hp ho w)
  have hc : p.c = q.c := by rw [← hp, w14_c]
  have hd : p.d = q.d := by rw [← hp, w14_d]
  obtain ⟨pa, pb, pc, pd⟩ := p
  replace hc : pc = q.c := hc
  replace hd : pd = q.d := hd
  subst hc hd
  clear hp ho
  have HP := Lib.hid (fun w => parts_any q w)
  clear hz
  go_enter Tryz.func92, Tryz.ntmps92
  go_wp2_with fail
  refine (HP.out _).mono ?_
  rintro e w1 ⟨rfl, n1⟩
  have h2 := two_blocksG w1 (.cells #[.int .u64 (W64 q.b), .int .u64 (W64 q.a)] 77) (.cells #[.int .u64 (W64 q.d), .int .u64 (W64 q.c)] 77)
  have N2 := HZ.out.2.2.trans (n1.trans h2.2.2)
  have N1 := n1.trans h2.2.2
  have HI := Lib.hid h2
  have HN2 := Lib.hid N2
  have HN1 := Lib.hid N1
  clear h2 n1 N1 N2
  go_wp2_with fail
  refine (HX.out _).mono ?_
  rintro e w4 ⟨rfl, n4⟩
  have hb := heap_alloc_new w4 (.cells #[.int .u64 (W64 pb), .int .u64 (W64 pa)] 77)
  have n5 := n4.alloc (.cells #[.int .u64 (W64 pb), .int .u64 (W64 pa)] 77)
  have hi := (n5.block _ (lt_of_block HI.out.2.1)).trans HI.out.2.1
  have hy := ((HN1.out.trans n5).block _ (lt_of_block HZ.out.2.1)).trans HZ.out.2.1
  have HN := Lib.hid (HN2.out.trans n5).drew
  have c0 := cell_of_row _ _ 0 _ _ _ hb
  have c1 := cell_of_row _ _ 1 _ _ _ hb
  have e0 := cell_of_row _ _ 0 _ _ _ hi
  have e1 := cell_of_row _ _ 1 _ _ _ hi
  have d0 := cell_of_row _ _ 0 _ _ _ hy
  have d1 := cell_of_row _ _ 1 _ _ _ hy
  have d2 := cell_of_row _ _ 2 _ _ _ hy
  have d3 := cell_of_row _ _ 3 _ _ _ hy
  have df := fun i => frozen_of_row _ _ i _ _ hy
  clear hb hi hy n4 n5 HI HN1 HN2
  go_wp2_with fail
  generalize hw5 : World.alloc w4 _ = w5 at *
  clear hw5
  go_region
  go_wp2
  refine bodyPost_ret (by simp [results, Tryz.results92, go_sem, d0, d1, d2, d3]; try rfl) rfl ?_
  exact ⟨rfl, (((HN.out.setCell (by show w.heap.size ≤ w.heap.size + 1; omega) _).setCell (by show w.heap.size ≤ w.heap.size + 1; omega) _).setCell (by show w.heap.size ≤ w.heap.size + 1; omega) _).setCell (by show w.heap.size ≤ w.heap.size + 1; omega) _⟩
theorem nxQ_any (q : W4) (w : World) : Calls Tryz.prog 92 #[.agg q.cells] w fun e w' => e = .returned (.tuple #[.int .u64 (W64 (o14 q)), .agg (w14 q).cells]) ∧ New w w' := nxQ_raw q _ _ rfl rfl w
set_option maxHeartbeats 1000000 in
theorem stQ_raw (q p : W4) (o : BitVec 64) (hp : w14 q = p) (ho : o14 q = o) (w : World) : Calls Tryz.prog 91 #[.agg q.cells] w fun e w' => e = .returned (.agg p.cells) ∧ New w w' := by
  have hz := two_blocksG w (.cells q.cells 66) (.cells zw 66)
  have HZ := Lib.hid hz
  have HX := Lib.hid (fun w => nxQ_raw q p o hp ho w)
  clear hp ho
  clear hz
  go_enter Tryz.func91, Tryz.ntmps91
  go_wp2_with fail
  refine (HX.out _).mono ?_
  rintro e w1 ⟨rfl, n1⟩
  have n2 := n1.alloc (.cells p.cells 66)
  have hy := (n2.block _ (lt_of_block HZ.out.2.1)).trans HZ.out.2.1
  have d0 := cell_of_row _ _ 0 _ _ _ hy
  have d1 := cell_of_row _ _ 1 _ _ _ hy
  have d2 := cell_of_row _ _ 2 _ _ _ hy
  have d3 := cell_of_row _ _ 3 _ _ _ hy
  have df := fun i => frozen_of_row _ _ i _ _ hy
  have HN := Lib.hid (HZ.out.2.2.trans n2)
  clear hy n1 n2 HZ
  go_wp2_with fail
  refine bodyPost_ret (by simp [results, Tryz.results91, go_sem, d0, d1, d2, d3]; try rfl) rfl ?_
  exact ⟨rfl, (((HN.out.setCell (by show w.heap.size ≤ w.heap.size + 1; omega) _).setCell (by show w.heap.size ≤ w.heap.size + 1; omega) _).setCell (by show w.heap.size ≤ w.heap.size + 1; omega) _).setCell (by show w.heap.size ≤ w.heap.size + 1; omega) _⟩
theorem stQ_any (q : W4) (w : World) : Calls Tryz.prog 91 #[.agg q.cells] w fun e w' => e = .returned (.agg (w14 q).cells) ∧ New w w' := stQ_raw q _ _ rfl rfl w
theorem stQ (q : W4) : StC 8 q (w14 q) := by
  intro w g h
  cases h with
  | xosh k hk b h => omega
  | xoro k hk b b4 b5 b6 h h4 h5 h6 => omega
  | pcg64 => exact stQ_any q w
end Go.Proofs.YtadcihkpnpemeaaGreat
namespace Go.Proofs.YtadcihkpnpemeaaGreat
open Go.RowKit Go.Bv
set_option linter.unusedVariables false
set_option maxRecDepth 100000
/-- all blocks of old but one are as they were -/
def Kb (W : World) (r : Nat) (w : World) : Prop := W.heap.size ≤ w.heap.size ∧ ∀ j, j < W.heap.size → j ≠ r → w.heap[j]? = W.heap[j]?
theorem Kb.refl (W : World) (r : Nat) : Kb W r W := ⟨Nat.le_refl _, fun _ _ _ => rfl⟩
theorem Kb.drew {W w : World} {r : Nat} (h : Kb W r w) : Kb W r w.drew := h
theorem Kb.new {W w w' : World} {r : Nat} (h : Kb W r w) (hn : New w w') : Kb W r w' := ⟨Nat.le_trans h.1 hn.le, fun j hj hr => (hn.block j (Nat.lt_of_lt_of_le hj h.1)).trans (h.2 j hj hr)⟩
theorem Kb.set {W w : World} {r : Nat} (h : Kb W r w) (i : Nat) (v : Value) : Kb W r (w.setCell ⟨r, i, none⟩ v) := ⟨by simpa using h.1, fun j hj hr => (heap_setCell_other _ _ _ _ hr).trans (h.2 j hj hr)⟩
theorem Kb.block {W w : World} {r b : Nat} {o : Obj} (h : Kb W r w) (hb : W.heap[b]? = some o) (hr : b ≠ r) : w.heap[b]? = some o := (h.2 b (lt_of_block hb) hr).trans hb
def o9 (k : Int) (q : W4) : BitVec 64 := if k = 2 then ss9 q.b else if k = 3 then pp9 q.a q.d else q.a + q.d
set_option maxHeartbeats 2000000 in
theorem nxX2 (b : Nat) (q : W4) (w : World) (h : w.heap[b]? = some (.cells #[.func (Fn.func 61) #[] #[]] 100 (0, 0))) :
    Calls Tryz.prog 67 #[.agg q.cells, ptv b] w fun e w' => e = .returned (.tuple #[.int .u64 (W64 (o9 2 q)), .agg (m9 q).cells]) ∧ New w w' := by
  unfold ptv
  have HNE : Hid (b ≠ w.heap.size + 1) := Lib.hid (by have := lt_of_block h; omega)
  have hz := two_blocksG w (.cells q.cells 66) (.cells zw 66)
  have h := (hz.2.2.block _ (lt_of_block h)).trans h
  have HS := Lib.hid (fun w => stX_any q w)
  have HO := Lib.hid (fun w => ss_any q.a q.b q.c q.d w)
  go_enter Tryz.func67, Tryz.ntmps67
  go_wp2_with fail
  generalize (w.alloc (.cells q.cells 66)).alloc (.cells #[.int .u64 0, .int .u64 0, .int .u64 0, .int .u64 0] 66) = w3 at *
  have HZ := Lib.hid hz
  have HH := Lib.hid h
  have HN3 := Lib.hid hz.2.2
  clear hz h
  have SK : Hid (∀ w', Kb w3 (w.heap.size + 1) w' → Kb w3 (w.heap.size + 1) w' ∧ w'.cell? ⟨b, 0, none⟩ = some (.func (Fn.func 61) #[] #[]) ∧ w'.cell? ⟨w.heap.size, 0, none⟩ = some (.int .u64 (W64 q.a)) ∧ w'.cell? ⟨w.heap.size, 1, none⟩ = some (.int .u64 (W64 q.b)) ∧ w'.cell? ⟨w.heap.size, 2, none⟩ = some (.int .u64 (W64 q.c)) ∧ w'.cell? ⟨w.heap.size, 3, none⟩ = some (.int .u64 (W64 q.d))) := Lib.hid (fun w' hn => ⟨hn, cell_of_row _ _ 0 _ _ _ (hn.block HH.out (HNE.out)), cell_of_row _ _ 0 _ _ _ (hn.block HZ.out.1 (by omega)), cell_of_row _ _ 1 _ _ _ (hn.block HZ.out.1 (by omega)), cell_of_row _ _ 2 _ _ _ (hn.block HZ.out.1 (by omega)), cell_of_row _ _ 3 _ _ _ (hn.block HZ.out.1 (by omega))⟩)
  obtain ⟨_, ce0, ce1, ce2, ce3, ce4⟩ := SK.out w3 (Kb.refl _ _)
  go_region_held3 (fun w' => Kb w3 (w.heap.size + 1) w' ∧ w'.cell? ⟨b, 0, none⟩ = some (.func (Fn.func 61) #[] #[]) ∧ w'.cell? ⟨w.heap.size, 0, none⟩ = some (.int .u64 (W64 q.a)) ∧ w'.cell? ⟨w.heap.size, 1, none⟩ = some (.int .u64 (W64 q.b)) ∧ w'.cell? ⟨w.heap.size, 2, none⟩ = some (.int .u64 (W64 q.c)) ∧ w'.cell? ⟨w.heap.size, 3, none⟩ = some (.int .u64 (W64 q.d)))
    ((refine SK.out _ ?_; repeat (first | with_reducible assumption | with_reducible exact Kb.refl _ _ | with_reducible refine Kb.drew ?_ | with_reducible refine Kb.set ?_ _ _)))
    (first
    | (go_at_call 61
       refine (HO.out _).mono ?_
       rintro e q0 ⟨rfl, hc0⟩
       have hg0 : New w3 q0 := by first | with_reducible exact hg1.trans hc0 | with_reducible exact hg1.drew.trans hc0 | with_reducible exact (New.refl w3).drew.trans hc0 | with_reducible exact hc0
       have hw1 : Kb w3 (w.heap.size + 1) q0 := (Kb.refl _ _).new hg0
       have hz0 := (hg0.block _ (lt_of_block HZ.out.2.1)).trans HZ.out.2.1
       have d0 := cell_of_row _ _ 0 _ _ _ hz0
       have d1 := cell_of_row _ _ 1 _ _ _ hz0
       have d2 := cell_of_row _ _ 2 _ _ _ hz0
       have d3 := cell_of_row _ _ 3 _ _ _ hz0
       have df := fun i => frozen_of_row _ _ i _ _ hz0
       have HG := Lib.hid (HN3.out.trans hg0)
       clear hz0
       clear hc0)
    | (go_at_call 66
       refine (HS.out _).mono ?_
       rintro e q1 ⟨rfl, hc1⟩
       have hg1 : New w3 q1 := by first | with_reducible exact hg0.trans hc1 | with_reducible exact hg0.drew.trans hc1 | with_reducible exact (New.refl w3).drew.trans hc1 | with_reducible exact hc1
       have hw2 : Kb w3 (w.heap.size + 1) q1 := (Kb.refl _ _).new hg1
       have hz1 := (hg1.block _ (lt_of_block HZ.out.2.1)).trans HZ.out.2.1
       have d0 := cell_of_row _ _ 0 _ _ _ hz1
       have d1 := cell_of_row _ _ 1 _ _ _ hz1
       have d2 := cell_of_row _ _ 2 _ _ _ hz1
       have d3 := cell_of_row _ _ 3 _ _ _ hz1
       have df := fun i => frozen_of_row _ _ i _ _ hz1
       have HG := Lib.hid (HN3.out.trans hg1)
       clear hz1
       clear hc1))
  all_goals
    go_wp2
    refine bodyPost_ret (by simp [results, Tryz.results67, go_sem, d0, d1, d2, d3]; try rfl) rfl ?_
    first | exact ⟨rfl, ((((((((HG.out).setCell (by show w.heap.size ≤ w.heap.size + 1; omega) _)).setCell (by show w.heap.size ≤ w.heap.size + 1; omega) _)).setCell (by show w.heap.size ≤ w.heap.size + 1; omega) _)).setCell (by show w.heap.size ≤ w.heap.size + 1; omega) _)⟩ | exact ⟨rfl, (((((((((HG.out).setCell (by show w.heap.size ≤ w.heap.size + 1; omega) _)).setCell (by show w.heap.size ≤ w.heap.size + 1; omega) _)).setCell (by show w.heap.size ≤ w.heap.size + 1; omega) _)).setCell (by show w.heap.size ≤ w.heap.size + 1; omega) _)).drew⟩
set_option maxHeartbeats 2000000 in
theorem nxX3 (b : Nat) (q : W4) (w : World) (h : w.heap[b]? = some (.cells #[.func (Fn.func 62) #[] #[]] 100 (0, 0))) :
    Calls Tryz.prog 67 #[.agg q.cells, ptv b] w fun e w' => e = .returned (.tuple #[.int .u64 (W64 (o9 3 q)), .agg (m9 q).cells]) ∧ New w w' := by
  unfold ptv
  have HNE : Hid (b ≠ w.heap.size + 1) := Lib.hid (by have := lt_of_block h; omega)
  have hz := two_blocksG w (.cells q.cells 66) (.cells zw 66)
  have h := (hz.2.2.block _ (lt_of_block h)).trans h
  have HS := Lib.hid (fun w => stX_any q w)
  have HO := Lib.hid (fun w => pp_any q.a q.b q.c q.d w)
  go_enter Tryz.func67, Tryz.ntmps67
  go_wp2_with fail
  generalize (w.alloc (.cells q.cells 66)).alloc (.cells #[.int .u64 0, .int .u64 0, .int .u64 0, .int .u64 0] 66) = w3 at *
  have HZ := Lib.hid hz
  have HH := Lib.hid h
  have HN3 := Lib.hid hz.2.2
  clear hz h
  have SK : Hid (∀ w', Kb w3 (w.heap.size + 1) w' → Kb w3 (w.heap.size + 1) w' ∧ w'.cell? ⟨b, 0, none⟩ = some (.func (Fn.func 62) #[] #[]) ∧ w'.cell? ⟨w.heap.size, 0, none⟩ = some (.int .u64 (W64 q.a)) ∧ w'.cell? ⟨w.heap.size, 1, none⟩ = some (.int .u64 (W64 q.b)) ∧ w'.cell? ⟨w.heap.size, 2, none⟩ = some (.int .u64 (W64 q.c)) ∧ w'.cell? ⟨w.heap.size, 3, none⟩ = some (.int .u64 (W64 q.d))) := Lib.hid (fun w' hn => ⟨hn, cell_of_row _ _ 0 _ _ _ (hn.block HH.out (HNE.out)), cell_of_row _ _ 0 _ _ _ (hn.block HZ.out.1 (by omega)), cell_of_row _ _ 1 _ _ _ (hn.block HZ.out.1 (by omega)), cell_of_row _ _ 2 _ _ _ (hn.block HZ.out.1 (by omega)), cell_of_row _ _ 3 _ _ _ (hn.block HZ.out.1 (by omega))⟩)
  obtain ⟨_, ce0, ce1, ce2, ce3, ce4⟩ := SK.out w3 (Kb.refl _ _)
  go_region_held3 (fun w' => Kb w3 (w.heap.size + 1) w' ∧ w'.cell? ⟨b, 0, none⟩ = some (.func (Fn.func 62) #[] #[]) ∧ w'.cell? ⟨w.heap.size, 0, none⟩ = some (.int .u64 (W64 q.a)) ∧ w'.cell? ⟨w.heap.size, 1, none⟩ = some (.int .u64 (W64 q.b)) ∧ w'.cell? ⟨w.heap.size, 2, none⟩ = some (.int .u64 (W64 q.c)) ∧ w'.cell? ⟨w.heap.size, 3, none⟩ = some (.int .u64 (W64 q.d)))
    ((refine SK.out _ ?_; repeat (first | with_reducible assumption | with_reducible exact Kb.refl _ _ | with_reducible refine Kb.drew ?_ | with_reducible refine Kb.set ?_ _ _)))
    (first
    | (go_at_call 62
       refine (HO.out _).mono ?_
       rintro e q0 ⟨rfl, hc0⟩
       have hg0 : New w3 q0 := by first | with_reducible exact hg1.trans hc0 | with_reducible exact hg1.drew.trans hc0 | with_reducible exact (New.refl w3).drew.trans hc0 | with_reducible exact hc0
       have hw1 : Kb w3 (w.heap.size + 1) q0 := (Kb.refl _ _).new hg0
       have hz0 := (hg0.block _ (lt_of_block HZ.out.2.1)).trans HZ.out.2.1
       have d0 := cell_of_row _ _ 0 _ _ _ hz0
       have d1 := cell_of_row _ _ 1 _ _ _ hz0
       have d2 := cell_of_row _ _ 2 _ _ _ hz0
       have d3 := cell_of_row _ _ 3 _ _ _ hz0
       have df := fun i => frozen_of_row _ _ i _ _ hz0
       have HG := Lib.hid (HN3.out.trans hg0)
       clear hz0
       clear hc0)
    | (go_at_call 66
       refine (HS.out _).mono ?_
       rintro e q1 ⟨rfl, hc1⟩
       have hg1 : New w3 q1 := by first | with_reducible exact hg0.trans hc1 | with_reducible exact hg0.drew.trans hc1 | with_reducible exact (New.refl w3).drew.trans hc1 | with_reducible exact hc1
       have hw2 : Kb w3 (w.heap.size + 1) q1 := (Kb.refl _ _).new hg1
       have hz1 := (hg1.block _ (lt_of_block HZ.out.2.1)).trans HZ.out.2.1
       have d0 := cell_of_row _ _ 0 _ _ _ hz1
       have d1 := cell_of_row _ _ 1 _ _ _ hz1
       have d2 := cell_of_row _ _ 2 _ _ _ hz1
       have d3 := cell_of_row _ _ 3 _ _ _ hz1
       have df := fun i => frozen_of_row _ _ i _ _ hz1
       have HG := Lib.hid (HN3.out.trans hg1)
       clear hz1
       clear hc1))
  all_goals
    go_wp2
    refine bodyPost_ret (by simp [results, Tryz.results67, go_sem, d0, d1, d2, d3]; try rfl) rfl ?_
    first | exact ⟨rfl, ((((((((HG.out).setCell (by show w.heap.size ≤ w.heap.size + 1; omega) _)).setCell (by show w.heap.size ≤ w.heap.size + 1; omega) _)).setCell (by show w.heap.size ≤ w.heap.size + 1; omega) _)).setCell (by show w.heap.size ≤ w.heap.size + 1; omega) _)⟩ | exact ⟨rfl, (((((((((HG.out).setCell (by show w.heap.size ≤ w.heap.size + 1; omega) _)).setCell (by show w.heap.size ≤ w.heap.size + 1; omega) _)).setCell (by show w.heap.size ≤ w.heap.size + 1; omega) _)).setCell (by show w.heap.size ≤ w.heap.size + 1; omega) _)).drew⟩
set_option maxHeartbeats 2000000 in
theorem nxX4 (b : Nat) (q : W4) (w : World) (h : w.heap[b]? = some (.cells #[.func (Fn.func 60) #[] #[]] 100 (0, 0))) :
    Calls Tryz.prog 67 #[.agg q.cells, ptv b] w fun e w' => e = .returned (.tuple #[.int .u64 (W64 (o9 4 q)), .agg (m9 q).cells]) ∧ New w w' := by
  unfold ptv
  have HNE : Hid (b ≠ w.heap.size + 1) := Lib.hid (by have := lt_of_block h; omega)
  have hz := two_blocksG w (.cells q.cells 66) (.cells zw 66)
  have h := (hz.2.2.block _ (lt_of_block h)).trans h
  have HS := Lib.hid (fun w => stX_any q w)
  have HO := Lib.hid (fun w => p_any q.a q.b q.c q.d w)
  go_enter Tryz.func67, Tryz.ntmps67
  go_wp2_with fail
  generalize (w.alloc (.cells q.cells 66)).alloc (.cells #[.int .u64 0, .int .u64 0, .int .u64 0, .int .u64 0] 66) = w3 at *
  have HZ := Lib.hid hz
  have HH := Lib.hid h
  have HN3 := Lib.hid hz.2.2
  clear hz h
  have SK : Hid (∀ w', Kb w3 (w.heap.size + 1) w' → Kb w3 (w.heap.size + 1) w' ∧ w'.cell? ⟨b, 0, none⟩ = some (.func (Fn.func 60) #[] #[]) ∧ w'.cell? ⟨w.heap.size, 0, none⟩ = some (.int .u64 (W64 q.a)) ∧ w'.cell? ⟨w.heap.size, 1, none⟩ = some (.int .u64 (W64 q.b)) ∧ w'.cell? ⟨w.heap.size, 2, none⟩ = some (.int .u64 (W64 q.c)) ∧ w'.cell? ⟨w.heap.size, 3, none⟩ = some (.int .u64 (W64 q.d))) := Lib.hid (fun w' hn => ⟨hn, cell_of_row _ _ 0 _ _ _ (hn.block HH.out (HNE.out)), cell_of_row _ _ 0 _ _ _ (hn.block HZ.out.1 (by omega)), cell_of_row _ _ 1 _ _ _ (hn.block HZ.out.1 (by omega)), cell_of_row _ _ 2 _ _ _ (hn.block HZ.out.1 (by omega)), cell_of_row _ _ 3 _ _ _ (hn.block HZ.out.1 (by omega))⟩)
  obtain ⟨_, ce0, ce1, ce2, ce3, ce4⟩ := SK.out w3 (Kb.refl _ _)
  go_region_held3 (fun w' => Kb w3 (w.heap.size + 1) w' ∧ w'.cell? ⟨b, 0, none⟩ = some (.func (Fn.func 60) #[] #[]) ∧ w'.cell? ⟨w.heap.size, 0, none⟩ = some (.int .u64 (W64 q.a)) ∧ w'.cell? ⟨w.heap.size, 1, none⟩ = some (.int .u64 (W64 q.b)) ∧ w'.cell? ⟨w.heap.size, 2, none⟩ = some (.int .u64 (W64 q.c)) ∧ w'.cell? ⟨w.heap.size, 3, none⟩ = some (.int .u64 (W64 q.d)))
    ((refine SK.out _ ?_; repeat (first | with_reducible assumption | with_reducible exact Kb.refl _ _ | with_reducible refine Kb.drew ?_ | with_reducible refine Kb.set ?_ _ _)))
    (first
    | (go_at_call 60
       refine (HO.out _).mono ?_
       rintro e q0 ⟨rfl, hc0⟩
       have hg0 : New w3 q0 := by first | with_reducible exact hg1.trans hc0 | with_reducible exact hg1.drew.trans hc0 | with_reducible exact (New.refl w3).drew.trans hc0 | with_reducible exact hc0
       have hw1 : Kb w3 (w.heap.size + 1) q0 := (Kb.refl _ _).new hg0
       have hz0 := (hg0.block _ (lt_of_block HZ.out.2.1)).trans HZ.out.2.1
       have d0 := cell_of_row _ _ 0 _ _ _ hz0
       have d1 := cell_of_row _ _ 1 _ _ _ hz0
       have d2 := cell_of_row _ _ 2 _ _ _ hz0
       have d3 := cell_of_row _ _ 3 _ _ _ hz0
       have df := fun i => frozen_of_row _ _ i _ _ hz0
       have HG := Lib.hid (HN3.out.trans hg0)
       clear hz0
       clear hc0)
    | (go_at_call 66
       refine (HS.out _).mono ?_
       rintro e q1 ⟨rfl, hc1⟩
       have hg1 : New w3 q1 := by first | with_reducible exact hg0.trans hc1 | with_reducible exact hg0.drew.trans hc1 | with_reducible exact (New.refl w3).drew.trans hc1 | with_reducible exact hc1
       have hw2 : Kb w3 (w.heap.size + 1) q1 := (Kb.refl _ _).new hg1
       have hz1 := (hg1.block _ (lt_of_block HZ.out.2.1)).trans HZ.out.2.1
       have d0 := cell_of_row _ _ 0 _ _ _ hz1
       have d1 := cell_of_row _ _ 1 _ _ _ hz1
       have d2 := cell_of_row _ _ 2 _ _ _ hz1
       have d3 := cell_of_row _ _ 3 _ _ _ hz1
       have df := fun i => frozen_of_row _ _ i _ _ hz1
       have HG := Lib.hid (HN3.out.trans hg1)
       clear hz1
       clear hc1))
  all_goals
    go_wp2
    refine bodyPost_ret (by simp [results, Tryz.results67, go_sem, d0, d1, d2, d3]; try rfl) rfl ?_
    first | exact ⟨rfl, ((((((((HG.out).setCell (by show w.heap.size ≤ w.heap.size + 1; omega) _)).setCell (by show w.heap.size ≤ w.heap.size + 1; omega) _)).setCell (by show w.heap.size ≤ w.heap.size + 1; omega) _)).setCell (by show w.heap.size ≤ w.heap.size + 1; omega) _)⟩ | exact ⟨rfl, (((((((((HG.out).setCell (by show w.heap.size ≤ w.heap.size + 1; omega) _)).setCell (by show w.heap.size ≤ w.heap.size + 1; omega) _)).setCell (by show w.heap.size ≤ w.heap.size + 1; omega) _)).setCell (by show w.heap.size ≤ w.heap.size + 1; omega) _)).drew⟩
theorem nxX (k : Int) (hk : k = 2 ∨ k = 3 ∨ k = 4) (q : W4) : NxC k q (o9 k q) (m9 q) := by
  intro w g h
  cases h with
  | split b h => omega
  | xosh k hk b h =>
    rcases hk with rfl | rfl | rfl
    · exact nxX2 b q w h
    · exact nxX3 b q w h
    · exact nxX4 b q w h
  | xoro k hk b b4 b5 b6 h h4 h5 h6 => omega
  | pcg32 => omega
  | pcg64 => omega
def uo (k : Int) (q : Q2) : BitVec 64 := if k = 5 then ss9 q.a else (q.a + q.b).rotateLeft 17 + q.a
theorem uo_ot (k : Int) (hk : k = 5 ∨ k = 6) : Ot2 76 k (uo k) := by
  rcases hk with rfl | rfl
  · exact out_5
  · exact out_6
set_option maxHeartbeats 2000000 in
theorem nxO_any (k : Int) (f : Q2 → Q2) (g : Q2 → BitVec 64) (hf : Mv2 72 k f) (hg : Ot2 76 k g) (q : Q2) (b b4 b5 b6 : Nat) (w : World) (h : w.heap[b]? = some (.cells #[.int .i64 k] 3 (0, 0)))
      (h4 : w.heap[b4]? = some (.cells #[.func (Fn.func 69) #[] #[]] 104 (0, 0)))
      (h5 : w.heap[b5]? = some (.cells #[.func (Fn.func 70) #[] #[]] 105 (0, 0)))
      (h6 : w.heap[b6]? = some (.cells #[.func (Fn.func 71) #[] #[ptv b5, ptv b, ptv b4]] 59 (0, 0))) :
    Calls Tryz.prog 75 #[.agg (w10 q).cells, ptv b, ptv b4, ptv b6] w fun e w' => e = .returned (.tuple #[.int .u64 (W64 (g q)), .agg (w10 (f q)).cells]) ∧ New w w' := by
  have HT : Hid (∀ w, Calls Tryz.prog 69 #[.agg #[.int .u64 (W64 q.a), .int .u64 (W64 q.b), .int .u64 0, .int .u64 0]] w fun e w' => e = .returned (.agg #[.int .u64 (W64 q.a), .int .u64 (W64 q.b)]) ∧ New w w') := Lib.hid (fun w => by
    have h := two_any (w10 q) w
    rw [w10_cells] at h
    exact h)
  have n0 : New w ((w.alloc (.cells #[.int .u64 (W64 q.a), .int .u64 (W64 q.b), .int .u64 0, .int .u64 0] 66)).alloc (.cells zw 66)) := ((New.refl w).alloc _).alloc _
  have HNE : Hid (b ≠ w.heap.size + 1 ∧ b4 ≠ w.heap.size + 1 ∧ b6 ≠ w.heap.size + 1) := Lib.hid (by have := lt_of_block h; have := lt_of_block h4; have := lt_of_block h6; omega)
  have h := (n0.block _ (lt_of_block h)).trans h
  have h4 := (n0.block _ (lt_of_block h4)).trans h4
  have h5 := (n0.block _ (lt_of_block h5)).trans h5
  have h6 := (n0.block _ (lt_of_block h6)).trans h6
  have HST : Hid (∀ w', New ((w.alloc (.cells #[.int .u64 (W64 q.a), .int .u64 (W64 q.b), .int .u64 0, .int .u64 0] 66)).alloc (.cells zw 66)) w' → Calls Tryz.prog 71 #[.agg #[.int .u64 (W64 q.a), .int .u64 (W64 q.b), .int .u64 0, .int .u64 0], .pointer (some ⟨b5, 0, none⟩), .pointer (some ⟨b, 0, none⟩), .pointer (some ⟨b4, 0, none⟩)] w' fun e w2 => e = .returned (.agg (w10 (f q)).cells) ∧ New w' w2) := Lib.hid (fun w' hn => by
    have hh := stO_any k f hf q b b4 b5 w' ((hn.block _ (lt_of_block h)).trans h) ((hn.block _ (lt_of_block h4)).trans h4) ((hn.block _ (lt_of_block h5)).trans h5)
    rw [w10_cells q] at hh
    exact hh)
  unfold ptv at h6 ⊢
  rw [w10_cells q]
  have hz := two_blocksG w (.cells #[.int .u64 (W64 q.a), .int .u64 (W64 q.b), .int .u64 0, .int .u64 0] 66) (.cells zw 66)
  have HG2 := Lib.hid (fun w => hg q w)
  go_enter Tryz.func75, Tryz.ntmps75
  go_wp2_with fail
  generalize (w.alloc (.cells #[.int .u64 (W64 q.a), .int .u64 (W64 q.b), .int .u64 0, .int .u64 0] 66)).alloc (.cells #[.int .u64 0, .int .u64 0, .int .u64 0, .int .u64 0] 66) = w3 at *
  have HZ := Lib.hid hz
  have HH := Lib.hid h
  have HH4 := Lib.hid h4
  have HH6 := Lib.hid h6
  have HN3 := Lib.hid n0
  clear hz n0 h h4 h5 h6
  have SK : Hid (∀ w', Kb w3 (w.heap.size + 1) w' → Kb w3 (w.heap.size + 1) w' ∧ w'.cell? ⟨b, 0, none⟩ = some (.int .i64 k) ∧ w'.cell? ⟨b4, 0, none⟩ = some (.func (Fn.func 69) #[] #[]) ∧ w'.cell? ⟨b6, 0, none⟩ = some (.func (Fn.func 71) #[] #[.pointer (some ⟨b5, 0, none⟩), .pointer (some ⟨b, 0, none⟩), .pointer (some ⟨b4, 0, none⟩)]) ∧ w'.cell? ⟨w.heap.size, 0, none⟩ = some (.int .u64 (W64 q.a)) ∧ w'.cell? ⟨w.heap.size, 1, none⟩ = some (.int .u64 (W64 q.b)) ∧ w'.cell? ⟨w.heap.size, 2, none⟩ = some (.int .u64 0) ∧ w'.cell? ⟨w.heap.size, 3, none⟩ = some (.int .u64 0)) := Lib.hid (fun w' hn => ⟨hn, cell_of_row _ _ 0 _ _ _ (hn.block HH.out (HNE.out.1)), cell_of_row _ _ 0 _ _ _ (hn.block HH4.out (HNE.out.2.1)), cell_of_row _ _ 0 _ _ _ (hn.block HH6.out (HNE.out.2.2)), cell_of_row _ _ 0 _ _ _ (hn.block HZ.out.1 (by omega)), cell_of_row _ _ 1 _ _ _ (hn.block HZ.out.1 (by omega)), cell_of_row _ _ 2 _ _ _ (hn.block HZ.out.1 (by omega)), cell_of_row _ _ 3 _ _ _ (hn.block HZ.out.1 (by omega))⟩)
  obtain ⟨_, ce0, ce1, ce2, ce3, ce4, ce5, ce6⟩ := SK.out w3 (Kb.refl _ _)
  go_region_held3 (fun w' => Kb w3 (w.heap.size + 1) w' ∧ w'.cell? ⟨b, 0, none⟩ = some (.int .i64 k) ∧ w'.cell? ⟨b4, 0, none⟩ = some (.func (Fn.func 69) #[] #[]) ∧ w'.cell? ⟨b6, 0, none⟩ = some (.func (Fn.func 71) #[] #[.pointer (some ⟨b5, 0, none⟩), .pointer (some ⟨b, 0, none⟩), .pointer (some ⟨b4, 0, none⟩)]) ∧ w'.cell? ⟨w.heap.size, 0, none⟩ = some (.int .u64 (W64 q.a)) ∧ w'.cell? ⟨w.heap.size, 1, none⟩ = some (.int .u64 (W64 q.b)) ∧ w'.cell? ⟨w.heap.size, 2, none⟩ = some (.int .u64 0) ∧ w'.cell? ⟨w.heap.size, 3, none⟩ = some (.int .u64 0))
    ((refine SK.out _ ?_; repeat (first | with_reducible assumption | with_reducible exact Kb.refl _ _ | with_reducible refine Kb.drew ?_ | with_reducible refine Kb.set ?_ _ _)))
    (first
    | (go_at_call 69
       refine (HT.out _).mono ?_
       rintro e q0 ⟨rfl, hc0⟩
       have hg0 : New w3 q0 := by first | with_reducible exact hg1.trans hc0 | with_reducible exact hg1.drew.trans hc0 | with_reducible exact hg2.trans hc0 | with_reducible exact hg2.drew.trans hc0 | with_reducible exact (New.refl w3).drew.trans hc0 | with_reducible exact hc0
       have hw1 : Kb w3 (w.heap.size + 1) q0 := (Kb.refl _ _).new hg0
       have hz0 := (hg0.block _ (lt_of_block HZ.out.2.1)).trans HZ.out.2.1
       have d0 := cell_of_row _ _ 0 _ _ _ hz0
       have d1 := cell_of_row _ _ 1 _ _ _ hz0
       have d2 := cell_of_row _ _ 2 _ _ _ hz0
       have d3 := cell_of_row _ _ 3 _ _ _ hz0
       have df := fun i => frozen_of_row _ _ i _ _ hz0
       have HG := Lib.hid (HN3.out.trans hg0)
       clear hz0
       clear hc0)
    | (go_at_call 76
       refine (HG2.out _).mono ?_
       rintro e q1 ⟨rfl, hc1⟩
       have hg1 : New w3 q1 := by first | with_reducible exact hg0.trans hc1 | with_reducible exact hg0.drew.trans hc1 | with_reducible exact hg2.trans hc1 | with_reducible exact hg2.drew.trans hc1 | with_reducible exact (New.refl w3).drew.trans hc1 | with_reducible exact hc1
       have hw2 : Kb w3 (w.heap.size + 1) q1 := (Kb.refl _ _).new hg1
       have hz1 := (hg1.block _ (lt_of_block HZ.out.2.1)).trans HZ.out.2.1
       have d0 := cell_of_row _ _ 0 _ _ _ hz1
       have d1 := cell_of_row _ _ 1 _ _ _ hz1
       have d2 := cell_of_row _ _ 2 _ _ _ hz1
       have d3 := cell_of_row _ _ 3 _ _ _ hz1
       have df := fun i => frozen_of_row _ _ i _ _ hz1
       have HG := Lib.hid (HN3.out.trans hg1)
       clear hz1
       clear hc1)
    | (go_at_call 71
       refine (HST.out _ (by first | with_reducible exact (New.refl _).drew | with_reducible assumption | with_reducible exact New.drew (by with_reducible assumption))).mono ?_
       rintro e q2 ⟨rfl, hc2⟩
       have hg2 : New w3 q2 := by first | with_reducible exact hg0.trans hc2 | with_reducible exact hg0.drew.trans hc2 | with_reducible exact hg1.trans hc2 | with_reducible exact hg1.drew.trans hc2 | with_reducible exact (New.refl w3).drew.trans hc2 | with_reducible exact hc2
       have hw3 : Kb w3 (w.heap.size + 1) q2 := (Kb.refl _ _).new hg2
       have hz2 := (hg2.block _ (lt_of_block HZ.out.2.1)).trans HZ.out.2.1
       have d0 := cell_of_row _ _ 0 _ _ _ hz2
       have d1 := cell_of_row _ _ 1 _ _ _ hz2
       have d2 := cell_of_row _ _ 2 _ _ _ hz2
       have d3 := cell_of_row _ _ 3 _ _ _ hz2
       have df := fun i => frozen_of_row _ _ i _ _ hz2
       have HG := Lib.hid (HN3.out.trans hg2)
       clear hz2
       clear hc2))
  all_goals
    go_wp2
    refine bodyPost_ret (by simp [results, Tryz.results75, go_sem, d0, d1, d2, d3]; try rfl) rfl ?_
    first | exact ⟨rfl, ((((((((HG.out).setCell (by show w.heap.size ≤ w.heap.size + 1; omega) _)).setCell (by show w.heap.size ≤ w.heap.size + 1; omega) _)).setCell (by show w.heap.size ≤ w.heap.size + 1; omega) _)).setCell (by show w.heap.size ≤ w.heap.size + 1; omega) _)⟩ | exact ⟨rfl, (((((((((HG.out).setCell (by show w.heap.size ≤ w.heap.size + 1; omega) _)).setCell (by show w.heap.size ≤ w.heap.size + 1; omega) _)).setCell (by show w.heap.size ≤ w.heap.size + 1; omega) _)).setCell (by show w.heap.size ≤ w.heap.size + 1; omega) _)).drew⟩
theorem nxO (k : Int) (hk : k = 5 ∨ k = 6) (q : Q2) : NxC k (w10 q) (uo k q) (w10 (mo k q)) := by
  intro w g h
  cases h with
  | split b h => omega
  | xosh k hk b h => omega
  | xoro k hk b b4 b5 b6 h h4 h5 h6 => exact nxO_any k (mo k) (uo k) (mo_st k hk) (uo_ot k hk) q b b4 b5 b6 w h h4 h5 h6
  | pcg32 => omega
  | pcg64 => omega
def o7 (q : Q2) : BitVec 64 := (out13 q.a).setWidth 64 ||| (out13 (step13 q.a q.b)).setWidth 64 <<< 32
set_option maxHeartbeats 2000000 in
theorem nxP_any (q : Q2) (w : World) : Calls Tryz.prog 84 #[.agg (w10 q).cells] w fun e w' => e = .returned (.tuple #[.int .u64 (W64 (o7 q)), .agg (w10 (p7 (p7 q))).cells]) ∧ New w w' := by
  have HS : Hid (∀ q p w, p7 q = p → Calls Tryz.prog 83 #[.agg #[.int .u64 (W64 q.a), .int .u64 (W64 q.b), .int .u64 0, .int .u64 0]] w fun e w' => e = .returned (.agg #[.int .u64 (W64 p.a), .int .u64 (W64 p.b), .int .u64 0, .int .u64 0]) ∧ New w w') := Lib.hid (fun q p w hp => by
    have h := stP_raw q.a q.b p.a (by rw [← hp, p7_a]) w
    rw [show p.b = q.b from by rw [← hp, p7_b]]
    exact h)
  have hz := two_blocksG w (.cells #[.int .u64 (W64 q.a), .int .u64 (W64 q.b), .int .u64 0, .int .u64 0] 66) (.cells zw 66)
  have HZ := Lib.hid hz
  have HO : Hid (∀ x w, Calls Tryz.prog 109 #[.int .u64 (W64 x)] w fun e w' => e = .returned (.int .u32 (W32 (out13 x))) ∧ New w w') := Lib.hid (fun x w => by
    have h := out_any (W64 x) (b64 _) w
    rw [ofInt_W64] at h
    exact h.mono (by rintro e w' ⟨rfl, rfl⟩; exact ⟨rfl, New.refl _⟩))
  have ea : (p7 q).a = step13 q.a q.b := p7_a q
  obtain ⟨pq, hpq⟩ : ∃ z, p7 q = z := ⟨_, rfl⟩
  rw [hpq] at ea ⊢
  obtain ⟨pp, hpp⟩ : ∃ z, p7 pq = z := ⟨_, rfl⟩
  rw [hpp]
  have HSA := Lib.hid (fun w => HS.out q pq w hpq)
  have HSB := Lib.hid (fun w => HS.out pq pp w hpp)
  rw [w10_cells q, w10_cells pp]
  clear hz hpq hpp HS
  have HEA := Lib.hid ea
  clear ea
  go_enter Tryz.func84, Tryz.ntmps84
  go_wp2_with fail
  refine (HSA.out _).mono ?_
  rintro e w1 ⟨rfl, n1⟩
  have hb := heap_alloc_new w1 (.cells #[.int .u64 (W64 pq.a), .int .u64 (W64 pq.b), .int .u64 0, .int .u64 0] 66)
  have n2 := n1.alloc (.cells #[.int .u64 (W64 pq.a), .int .u64 (W64 pq.b), .int .u64 0, .int .u64 0] 66)
  have hx := (n2.block _ (lt_of_block HZ.out.1)).trans HZ.out.1
  have hy := (n2.block _ (lt_of_block HZ.out.2.1)).trans HZ.out.2.1
  have hN := HZ.out.2.2.trans n2
  have HNG : Hid (w1.heap.size ≠ w.heap.size + 1) := Lib.hid (by have := lt_of_block ((n1.block _ (lt_of_block HZ.out.2.1)).trans HZ.out.2.1); omega)
  go_wp2_with fail
  generalize hw3 : World.alloc w1 _ = w3 at *
  generalize hg : w1.heap.size = g at *
  have HB := Lib.hid hb
  have HX := Lib.hid hx
  have HY := Lib.hid hy
  have HN3 := Lib.hid hN
  clear hb hx hy hN hw3 n1 n2 hg HZ HSA
  have SK : Hid (∀ w', Kb w3 (w.heap.size + 1) w' → Kb w3 (w.heap.size + 1) w' ∧ w'.cell? ⟨w.heap.size, 0, none⟩ = some (.int .u64 (W64 q.a)) ∧ w'.cell? ⟨g, 0, none⟩ = some (.int .u64 (W64 pq.a)) ∧ w'.cell? ⟨g, 1, none⟩ = some (.int .u64 (W64 pq.b)) ∧ w'.cell? ⟨g, 2, none⟩ = some (.int .u64 0) ∧ w'.cell? ⟨g, 3, none⟩ = some (.int .u64 0)) := Lib.hid (fun w' hn => ⟨hn, cell_of_row _ _ 0 _ _ _ (hn.block HX.out (by omega)), cell_of_row _ _ 0 _ _ _ (hn.block HB.out (HNG.out)), cell_of_row _ _ 1 _ _ _ (hn.block HB.out (HNG.out)), cell_of_row _ _ 2 _ _ _ (hn.block HB.out (HNG.out)), cell_of_row _ _ 3 _ _ _ (hn.block HB.out (HNG.out))⟩)
  obtain ⟨_, ce0, ce1, ce2, ce3, ce4⟩ := SK.out w3 (Kb.refl _ _)
  go_region_held3 (fun w' => Kb w3 (w.heap.size + 1) w' ∧ w'.cell? ⟨w.heap.size, 0, none⟩ = some (.int .u64 (W64 q.a)) ∧ w'.cell? ⟨g, 0, none⟩ = some (.int .u64 (W64 pq.a)) ∧ w'.cell? ⟨g, 1, none⟩ = some (.int .u64 (W64 pq.b)) ∧ w'.cell? ⟨g, 2, none⟩ = some (.int .u64 0) ∧ w'.cell? ⟨g, 3, none⟩ = some (.int .u64 0))
    ((refine SK.out _ ?_; repeat (first | with_reducible assumption | with_reducible exact Kb.refl _ _ | with_reducible refine Kb.drew ?_ | with_reducible refine Kb.set ?_ _ _)))
    (first
    | (go_at_call_of 109 (Value.int IntKind.u64 (W64 q.a))
       refine (HO.out q.a _).mono ?_
       rintro e q0 ⟨rfl, hc0⟩
       have hg0 : New w3 q0 := by first | with_reducible exact hg1.trans hc0 | with_reducible exact hg1.drew.trans hc0 | with_reducible exact hg2.trans hc0 | with_reducible exact hg2.drew.trans hc0 | with_reducible exact (New.refl w3).drew.trans hc0 | with_reducible exact hc0
       have hw1 : Kb w3 (w.heap.size + 1) q0 := (Kb.refl _ _).new hg0
       have hz0 := (hg0.block _ (lt_of_block HY.out)).trans HY.out
       have d0 := cell_of_row _ _ 0 _ _ _ hz0
       have d1 := cell_of_row _ _ 1 _ _ _ hz0
       have d2 := cell_of_row _ _ 2 _ _ _ hz0
       have d3 := cell_of_row _ _ 3 _ _ _ hz0
       have df := fun i => frozen_of_row _ _ i _ _ hz0
       have HG := Lib.hid (HN3.out.trans hg0)
       clear hz0
       clear hc0)
    | (go_at_call_of 109 (Value.int IntKind.u64 (W64 pq.a))
       refine (HO.out pq.a _).mono ?_
       rintro e q1 ⟨rfl, hc1⟩
       have hg1 : New w3 q1 := by first | with_reducible exact hg0.trans hc1 | with_reducible exact hg0.drew.trans hc1 | with_reducible exact hg2.trans hc1 | with_reducible exact hg2.drew.trans hc1 | with_reducible exact (New.refl w3).drew.trans hc1 | with_reducible exact hc1
       have hw2 : Kb w3 (w.heap.size + 1) q1 := (Kb.refl _ _).new hg1
       have hz1 := (hg1.block _ (lt_of_block HY.out)).trans HY.out
       have d0 := cell_of_row _ _ 0 _ _ _ hz1
       have d1 := cell_of_row _ _ 1 _ _ _ hz1
       have d2 := cell_of_row _ _ 2 _ _ _ hz1
       have d3 := cell_of_row _ _ 3 _ _ _ hz1
       have df := fun i => frozen_of_row _ _ i _ _ hz1
       have HG := Lib.hid (HN3.out.trans hg1)
       clear hz1
       clear hc1)
    | (go_at_call 83
       refine (HSB.out _).mono ?_
       rintro e q2 ⟨rfl, hc2⟩
       have hg2 : New w3 q2 := by first | with_reducible exact hg0.trans hc2 | with_reducible exact hg0.drew.trans hc2 | with_reducible exact hg1.trans hc2 | with_reducible exact hg1.drew.trans hc2 | with_reducible exact (New.refl w3).drew.trans hc2 | with_reducible exact hc2
       have hw3 : Kb w3 (w.heap.size + 1) q2 := (Kb.refl _ _).new hg2
       have hz2 := (hg2.block _ (lt_of_block HY.out)).trans HY.out
       have d0 := cell_of_row _ _ 0 _ _ _ hz2
       have d1 := cell_of_row _ _ 1 _ _ _ hz2
       have d2 := cell_of_row _ _ 2 _ _ _ hz2
       have d3 := cell_of_row _ _ 3 _ _ _ hz2
       have df := fun i => frozen_of_row _ _ i _ _ hz2
       have HG := Lib.hid (HN3.out.trans hg2)
       clear hz2
       clear hc2))
  all_goals
    go_wp2
    refine bodyPost_ret (by simp [results, Tryz.results84, go_sem, d0, d1, d2, d3]; try rfl) rfl ?_
    first | exact ⟨by unfold o7; rw [← HEA.out], ((((((((HG.out).setCell (by show w.heap.size ≤ w.heap.size + 1; omega) _)).setCell (by show w.heap.size ≤ w.heap.size + 1; omega) _)).setCell (by show w.heap.size ≤ w.heap.size + 1; omega) _)).setCell (by show w.heap.size ≤ w.heap.size + 1; omega) _)⟩ | exact ⟨by unfold o7; rw [← HEA.out], (((((((((HG.out).setCell (by show w.heap.size ≤ w.heap.size + 1; omega) _)).setCell (by show w.heap.size ≤ w.heap.size + 1; omega) _)).setCell (by show w.heap.size ≤ w.heap.size + 1; omega) _)).setCell (by show w.heap.size ≤ w.heap.size + 1; omega) _)).drew⟩
theorem nxP (q : Q2) : NxC 7 (w10 q) (o7 q) (w10 (p7 (p7 q))) := by
  intro w g h
  cases h with
  | xosh k hk b h => omega
  | xoro k hk b b4 b5 b6 h h4 h5 h6 => omega
  | pcg32 => exact nxP_any q w
theorem nxQ (q : W4) : NxC 8 q (o14 q) (w14 q) := by
  intro w g h
  cases h with
  | xosh k hk b h => omega
  | xoro k hk b b4 b5 b6 h h4 h5 h6 => omega
  | pcg64 => exact nxQ_any q w
/-- a step, a word and what is behind it, of any kind -/
def stK (k : Int) (q : W4) : W4 := if k = 1 then q1 (q.a + Gm) else if k ≤ 4 then m9 q else if k ≤ 6 then w10 (mo k ⟨q.a, q.b⟩) else if k = 7 then w10 (p7 ⟨q.a, q.b⟩) else w14 q
def ouK (k : Int) (q : W4) : BitVec 64 := if k = 1 then split (q.a + Gm) else if k ≤ 4 then o9 k q else if k ≤ 6 then uo k ⟨q.a, q.b⟩ else if k = 7 then o7 ⟨q.a, q.b⟩ else o14 q
def nxK (k : Int) (q : W4) : W4 := if k = 7 then stK k (stK k q) else stK k q
theorem fits {k : Int} {q : W4} (h : chkK k q = 0) : okK k = true ∧ (k = 1 → q = q1 q.a) ∧ (k = 5 ∨ k = 6 ∨ k = 7 → q = w10 ⟨q.a, q.b⟩) ∧ badK k q = false := by
  unfold chkK at h
  rcases ho : okK k with _ | _
  · rw [ho] at h; simp at h
  · rw [ho] at h; simp at h
    rcases hf : formK k q with _ | _
    · rw [hf] at h; simp at h
      refine ⟨rfl, ?_, ?_, ?_⟩
      · rintro rfl
        obtain ⟨a, b, c, d⟩ := q
        simp [formK, szK] at hf
        obtain ⟨rfl, rfl, rfl⟩ := hf
        rfl
      · intro hk
        obtain ⟨a, b, c, d⟩ := q
        have hs : szK k = 2 := by rcases hk with rfl | rfl | rfl <;> rfl
        simp [formK, hs] at hf
        obtain ⟨rfl, rfl⟩ := hf
        rfl
      · rcases hb : badK k q with _ | _
        · rfl
        · rw [hb] at h; simp at h
    · rw [hf] at h; simp at h
theorem kind8 {k : Int} (h : okK k = true) : k = 1 ∨ (k = 2 ∨ k = 3 ∨ k = 4) ∨ (k = 5 ∨ k = 6) ∨ k = 7 ∨ k = 8 := by
  unfold okK at h; simp at h; omega
theorem st_all {k : Int} {q : W4} (h : chkK k q = 0) : StC k q (stK k q) := by
  obtain ⟨ho, f1, f2, -⟩ := fits h
  rcases kind8 ho with hk | hk | hk | hk | hk
  · subst hk
    rw [f1 rfl]
    exact st1 _
  · have e : stK k q = m9 q := by unfold stK; rw [if_neg (by omega), if_pos (by omega)]
    rw [e]; exact stX k hk q
  · have e : stK k q = w10 (mo k ⟨q.a, q.b⟩) := by unfold stK; rw [if_neg (by omega), if_neg (by omega), if_pos (by omega)]
    rw [e]
    have := stO k hk ⟨q.a, q.b⟩
    rwa [← f2 (by omega)] at this
  · subst hk
    have e : stK 7 q = w10 (p7 ⟨q.a, q.b⟩) := rfl
    rw [e]
    have := stP ⟨q.a, q.b⟩
    rwa [← f2 (by omega)] at this
  · subst hk
    exact stQ q
theorem nx_all {k : Int} {q : W4} (h : chkK k q = 0) : NxC k q (ouK k q) (nxK k q) := by
  obtain ⟨ho, f1, f2, -⟩ := fits h
  rcases kind8 ho with hk | hk | hk | hk | hk
  · subst hk
    rw [f1 rfl]
    exact nx1 _
  · have e : nxK k q = m9 q := by unfold nxK stK; rw [if_neg (by omega), if_neg (by omega), if_pos (by omega)]
    have e2 : ouK k q = o9 k q := by unfold ouK; rw [if_neg (by omega), if_pos (by omega)]
    rw [e, e2]; exact nxX k hk q
  · have e : nxK k q = w10 (mo k ⟨q.a, q.b⟩) := by unfold nxK stK; rw [if_neg (by omega), if_neg (by omega), if_neg (by omega), if_pos (by omega)]
    have e2 : ouK k q = uo k ⟨q.a, q.b⟩ := by unfold ouK; rw [if_neg (by omega), if_neg (by omega), if_pos (by omega)]
    rw [e, e2]
    have := nxO k hk ⟨q.a, q.b⟩
    rwa [← f2 (by omega)] at this
  · subst hk
    have := nxP ⟨q.a, q.b⟩
    rwa [← f2 (by omega)] at this
  · subst hk
    exact nxQ q
end Go.Proofs.YtadcihkpnpemeaaGreat
