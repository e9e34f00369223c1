import Derived.Test.YtfaobdmoifnglaaGreatZJmM
import Derived.Deep.RegionHeld3
import Derived.BigQuiet
/- All generators: the jump of each kind. -/
namespace Go.Proofs.YtfaobdmoifnglaaGreat
open Go.RowKit Go.Bv Go.G2
set_option linter.unusedVariables false
set_option maxRecDepth 100000
/-- a number of 256 bits -/
abbrev uc (a0 a1 a2 a3 : BitVec 64) : Array Value := #[.int .u64 (W64 a0), .int .u64 (W64 a1), .int .u64 (W64 a2), .int .u64 (W64 a3)]
/-- the jump of a state's words -/
def JpC (k : Int) (q q' : W4) (a0 a1 a2 a3 : BitVec 64) : Prop := ∀ (w : World) (g : Gn), IsGen w k g → Calls Tryz.prog g.jp.1 (#[.agg q.cells, .agg (uc a0 a1 a2 a3)] ++ g.jp.2) w fun e w' => e = .returned (.agg q'.cells) ∧ New w w'
theorem j3 (w : World) (A B C : Obj) : ∃ W3, ((w.alloc A).alloc B).alloc C = W3 ∧ W3.heap[w.heap.size]? = some A ∧ W3.heap[w.heap.size + 1]? = some B ∧ W3.heap[w.heap.size + 1 + 1]? = some C ∧ New w W3 :=
  ⟨_, rfl, three_blocks w A B C⟩
set_option maxHeartbeats 400000 in
theorem jump8 (s n : BitVec 64) (w : World) :
    Calls Tryz.prog 64 #[.int .u64 (W64 s), .int .u64 (W64 n)] w fun e w' => e = .returned (.int .u64 (W64 (s + n * Gm))) ∧ w' = w := by
  go_enter Tryz.func64, Tryz.ntmps64
  go_wp2
  go_ret
  exact ⟨ret64 rfl, rfl⟩
set_option maxHeartbeats 1000000 in
theorem jp1_raw (s p a0 a1 a2 a3 : BitVec 64) (HS : Hid (∀ w, Calls Tryz.prog 64 #[.int .u64 (W64 s), .int .u64 (W64 a0)] w fun e w' => e = .returned (.int .u64 (W64 p)) ∧ w' = w)) (w : World) : Calls Tryz.prog 63 #[.agg #[.int .u64 (W64 s), .int .u64 0, .int .u64 0, .int .u64 0], .agg (uc a0 a1 a2 a3)] w fun e w' => e = .returned (.agg #[.int .u64 (W64 p), .int .u64 0, .int .u64 0, .int .u64 0]) ∧ New w w' := by
  obtain ⟨W3, hW3, b1, b2, b3, hn3⟩ := j3 w (.cells #[.int .u64 (W64 s), .int .u64 0, .int .u64 0, .int .u64 0] 69) (.cells (uc a0 a1 a2 a3) 49) (.cells zw 69)
  have HW3 := Lib.hid hW3
  have HB1 := Lib.hid b1
  have HB2 := Lib.hid b2
  have HB3 := Lib.hid b3
  have HN3 := Lib.hid hn3
  clear hW3 b1 b2 b3 hn3
  go_enter Tryz.func63, Tryz.ntmps63
  go_wp2_with fail
  rw [HW3.out]
  clear HW3
  refine (HS.out _).mono ?_
  rintro e w1 ⟨rfl, hw⟩
  replace hw := hw.symm
  subst hw
  have d0 := cell_of_row _ _ 0 _ _ _ HB3.out
  have d1 := cell_of_row _ _ 1 _ _ _ HB3.out
  have d2 := cell_of_row _ _ 2 _ _ _ HB3.out
  have d3 := cell_of_row _ _ 3 _ _ _ HB3.out
  have df := fun i => frozen_of_row _ _ i _ _ HB3.out
  clear HB1 HB2 HB3
  go_wp2_with fail
  refine bodyPost_ret (by simp [results, Tryz.results63, go_sem, d0, d1, d2, d3]; try rfl) rfl ?_
  exact ⟨rfl, ((((((((HN3.out).setCell (by show w.heap.size ≤ w.heap.size + 1 + 1; omega) _)).setCell (by show w.heap.size ≤ w.heap.size + 1 + 1; omega) _)).setCell (by show w.heap.size ≤ w.heap.size + 1 + 1; omega) _)).setCell (by show w.heap.size ≤ w.heap.size + 1 + 1; omega) _)⟩
theorem jp1 (s a0 a1 a2 a3 : BitVec 64) : JpC 1 (q1 s) (itK 1 (four a0 a1 a2 a3) (q1 s)) a0 a1 a2 a3 := by
  intro w g h
  rw [it_1c]
  obtain ⟨p, hp⟩ : ∃ p, s + a0 * Gm = p := ⟨_, rfl⟩
  have HS := Lib.hid (fun w => jump8 s a0 w)
  rw [hp] at HS ⊢
  cases h with
  | split b h =>
    have h := jp1_raw s p a0 a1 a2 a3 HS w
    rw [← q1_cells, ← q1_cells] at h
    exact h
  | xosh k hk b h => omega
  | xoro k hk b b4 b5 b6 h h4 h5 h6 => omega
set_option maxHeartbeats 1000000 in
theorem jpX_raw (q p : W4) (a0 a1 a2 a3 : BitVec 64) (HS : Hid (∀ w, Calls Tryz.prog 109 #[.agg q.cells, .agg (uc a0 a1 a2 a3)] w fun e w' => e = .returned (.agg p.cells) ∧ New w w')) (w : World) : Calls Tryz.prog 73 #[.agg q.cells, .agg (uc a0 a1 a2 a3)] w fun e w' => e = .returned (.agg p.cells) ∧ New w w' := by
  obtain ⟨W3, hW3, b1, b2, b3, hn3⟩ := j3 w (.cells q.cells 69) (.cells (uc a0 a1 a2 a3) 49) (.cells zw 69)
  have HW3 := Lib.hid hW3
  have HB1 := Lib.hid b1
  have HB2 := Lib.hid b2
  have HB3 := Lib.hid b3
  have HN3 := Lib.hid hn3
  clear hW3 b1 b2 b3 hn3
  go_enter Tryz.func73, Tryz.ntmps73
  go_wp2_with fail
  rw [HW3.out]
  clear HW3
  refine (HS.out _).mono ?_
  rintro e w1 ⟨rfl, hn⟩
  have hy := (hn.block _ (lt_of_block HB3.out)).trans HB3.out
  have d0 := cell_of_row _ _ 0 _ _ _ hy
  have d1 := cell_of_row _ _ 1 _ _ _ hy
  have d2 := cell_of_row _ _ 2 _ _ _ hy
  have d3 := cell_of_row _ _ 3 _ _ _ hy
  have df := fun i => frozen_of_row _ _ i _ _ hy
  have HN := Lib.hid (HN3.out.trans hn)
  clear hy hn HB1 HB2 HB3
  go_wp2_with fail
  refine bodyPost_ret (by simp [results, Tryz.results73, go_sem, d0, d1, d2, d3]; try rfl) rfl ?_
  exact ⟨rfl, ((((((((HN.out).setCell (by show w.heap.size ≤ w.heap.size + 1 + 1; omega) _)).setCell (by show w.heap.size ≤ w.heap.size + 1 + 1; omega) _)).setCell (by show w.heap.size ≤ w.heap.size + 1 + 1; omega) _)).setCell (by show w.heap.size ≤ w.heap.size + 1 + 1; omega) _)⟩
theorem jpX (k : Int) (hk : k = 2 ∨ k = 3 ∨ k = 4) (q : W4) (a0 a1 a2 a3 : BitVec 64) : JpC k q (itK k (four a0 a1 a2 a3) q) a0 a1 a2 a3 := by
  intro w g h
  rw [it_V _ k hk]
  have HS := fun w => jump4_q (toV q) a0 a1 a2 a3 w
  obtain ⟨p, hp⟩ : ∃ p, LV4.it (four a0 a1 a2 a3) (toV q) = p := ⟨_, rfl⟩
  rw [hp] at HS ⊢
  cases h with
  | split b h => omega
  | xosh k hk b h => exact jpX_raw q (ofV p) a0 a1 a2 a3 (Lib.hid HS) w
  | xoro k hk b b4 b5 b6 h h4 h5 h6 => omega
  | pcg32 => omega
  | pcg64 => omega
set_option maxHeartbeats 2000000 in
theorem jpO_raw (k : Int) (q p : Q2) (b b4 b5 : Nat) (a0 a1 a2 a3 : BitVec 64) (HS : Hid (∀ w, Calls Tryz.prog 83 #[.int .i64 k, .agg #[.int .u64 (W64 q.a), .int .u64 (W64 q.b)], .agg (uc a0 a1 a2 a3)] w fun e w' => e = .returned (.agg #[.int .u64 (W64 p.a), .int .u64 (W64 p.b)]) ∧ New w w')) (w : World) (h : w.heap[b]? = some (.cells #[.int .i64 k] 3 (0, 0)))
      (h4 : w.heap[b4]? = some (.cells #[.func (Fn.func 74) #[] #[]] 104 (0, 0)))
      (h5 : w.heap[b5]? = some (.cells #[.func (Fn.func 75) #[] #[]] 105 (0, 0))) :
    Calls Tryz.prog 82 #[.agg #[.int .u64 (W64 q.a), .int .u64 (W64 q.b), .int .u64 0, .int .u64 0], .agg (uc a0 a1 a2 a3), ptv b5, ptv b, ptv b4] w fun e w' => e = .returned (.agg #[.int .u64 (W64 p.a), .int .u64 (W64 p.b), .int .u64 0, .int .u64 0]) ∧ New w w' := by
  unfold ptv
  have HF := Lib.hid (fun w => four_any p w)
  have HT := Lib.hid (fun w => two_any (w10 q) w)
  rw [w10_cells] at HF
  rw [w10_cells, w10a, w10b] at HT
  obtain ⟨W3, hW3, b1, b2, b3, hn3⟩ := j3 w (.cells #[.int .u64 (W64 q.a), .int .u64 (W64 q.b), .int .u64 0, .int .u64 0] 69) (.cells (uc a0 a1 a2 a3) 49) (.cells zw 69)
  have HW3 := Lib.hid hW3
  have HB1 := Lib.hid b1
  have HB2 := Lib.hid b2
  have HB3 := Lib.hid b3
  have HN3 := Lib.hid hn3
  clear hW3 b1 b2 b3 hn3
  have HH := Lib.hid ((HN3.out.block _ (lt_of_block h)).trans h)
  have HH4 := Lib.hid ((HN3.out.block _ (lt_of_block h4)).trans h4)
  have HH5 := Lib.hid ((HN3.out.block _ (lt_of_block h5)).trans h5)
  have HNE := Lib.hid (show b ≠ w.heap.size + 1 + 1 by have := lt_of_block h; omega)
  have HNE4 := Lib.hid (show b4 ≠ w.heap.size + 1 + 1 by have := lt_of_block h4; omega)
  have HNE5 := Lib.hid (show b5 ≠ w.heap.size + 1 + 1 by have := lt_of_block h5; omega)
  clear h h4 h5
  go_enter Tryz.func82, Tryz.ntmps82
  go_wp2_with fail
  rw [HW3.out]
  clear HW3
  have SK : Hid (∀ w', Kb W3 (w.heap.size + 1 + 1) w' → Kb W3 (w.heap.size + 1 + 1) w' ∧ w'.cell? ⟨b5, 0, none⟩ = some (.func (Fn.func 75) #[] #[]) ∧ w'.cell? ⟨b, 0, none⟩ = some (.int .i64 k) ∧ w'.cell? ⟨b4, 0, none⟩ = some (.func (Fn.func 74) #[] #[]) ∧ w'.cell? ⟨w.heap.size, 0, none⟩ = some (.int .u64 (W64 q.a)) ∧ w'.cell? ⟨w.heap.size, 1, none⟩ = some (.int .u64 (W64 q.b)) ∧ w'.cell? ⟨w.heap.size, 2, none⟩ = some (.int .u64 0) ∧ w'.cell? ⟨w.heap.size, 3, none⟩ = some (.int .u64 0) ∧ w'.cell? ⟨w.heap.size + 1, 0, none⟩ = some (.int .u64 (W64 a0)) ∧ w'.cell? ⟨w.heap.size + 1, 1, none⟩ = some (.int .u64 (W64 a1)) ∧ w'.cell? ⟨w.heap.size + 1, 2, none⟩ = some (.int .u64 (W64 a2)) ∧ w'.cell? ⟨w.heap.size + 1, 3, none⟩ = some (.int .u64 (W64 a3))) := Lib.hid (fun w' hn => ⟨hn, cell_of_row _ _ 0 _ _ _ (hn.block HH5.out (HNE5.out)), cell_of_row _ _ 0 _ _ _ (hn.block HH.out (HNE.out)), cell_of_row _ _ 0 _ _ _ (hn.block HH4.out (HNE4.out)), cell_of_row _ _ 0 _ _ _ (hn.block HB1.out (by omega)), cell_of_row _ _ 1 _ _ _ (hn.block HB1.out (by omega)), cell_of_row _ _ 2 _ _ _ (hn.block HB1.out (by omega)), cell_of_row _ _ 3 _ _ _ (hn.block HB1.out (by omega)), cell_of_row _ _ 0 _ _ _ (hn.block HB2.out (by omega)), cell_of_row _ _ 1 _ _ _ (hn.block HB2.out (by omega)), cell_of_row _ _ 2 _ _ _ (hn.block HB2.out (by omega)), cell_of_row _ _ 3 _ _ _ (hn.block HB2.out (by omega))⟩)
  obtain ⟨_, ce0, ce1, ce2, ce3, ce4, ce5, ce6, ce7, ce8, ce9, ce10⟩ := SK.out W3 (Kb.refl _ _)
  go_region_held3 (fun w' => Kb W3 (w.heap.size + 1 + 1) w' ∧ w'.cell? ⟨b5, 0, none⟩ = some (.func (Fn.func 75) #[] #[]) ∧ w'.cell? ⟨b, 0, none⟩ = some (.int .i64 k) ∧ w'.cell? ⟨b4, 0, none⟩ = some (.func (Fn.func 74) #[] #[]) ∧ w'.cell? ⟨w.heap.size, 0, none⟩ = some (.int .u64 (W64 q.a)) ∧ w'.cell? ⟨w.heap.size, 1, none⟩ = some (.int .u64 (W64 q.b)) ∧ w'.cell? ⟨w.heap.size, 2, none⟩ = some (.int .u64 0) ∧ w'.cell? ⟨w.heap.size, 3, none⟩ = some (.int .u64 0) ∧ w'.cell? ⟨w.heap.size + 1, 0, none⟩ = some (.int .u64 (W64 a0)) ∧ w'.cell? ⟨w.heap.size + 1, 1, none⟩ = some (.int .u64 (W64 a1)) ∧ w'.cell? ⟨w.heap.size + 1, 2, none⟩ = some (.int .u64 (W64 a2)) ∧ w'.cell? ⟨w.heap.size + 1, 3, none⟩ = some (.int .u64 (W64 a3)))
    ((refine SK.out _ ?_; repeat (first | with_reducible assumption | with_reducible exact Kb.refl _ _ | with_reducible refine Kb.drew ?_ | with_reducible refine Kb.set ?_ _ _)))
    (first
    | (go_at_call 74
       refine (HT.out _).mono ?_
       rintro e q0 ⟨rfl, hc0⟩
       have hg0 : New W3 q0 := by first | with_reducible exact hg1.trans hc0 | with_reducible exact hg1.drew.trans hc0 | with_reducible exact hg2.trans hc0 | with_reducible exact hg2.drew.trans hc0 | with_reducible exact (New.refl W3).drew.trans hc0 | with_reducible exact hc0
       have hw1 : Kb W3 (w.heap.size + 1 + 1) q0 := (Kb.refl _ _).new hg0
       have hz0 := (hg0.block _ (lt_of_block HB3.out)).trans HB3.out
       have d0 := cell_of_row _ _ 0 _ _ _ hz0
       have d1 := cell_of_row _ _ 1 _ _ _ hz0
       have d2 := cell_of_row _ _ 2 _ _ _ hz0
       have d3 := cell_of_row _ _ 3 _ _ _ hz0
       have df := fun i => frozen_of_row _ _ i _ _ hz0
       have HG := Lib.hid (HN3.out.trans hg0)
       clear hz0
       clear hc0)
    | (go_at_call 83
       refine (HS.out _).mono ?_
       rintro e q1 ⟨rfl, hc1⟩
       have hg1 : New W3 q1 := by first | with_reducible exact hg0.trans hc1 | with_reducible exact hg0.drew.trans hc1 | with_reducible exact hg2.trans hc1 | with_reducible exact hg2.drew.trans hc1 | with_reducible exact (New.refl W3).drew.trans hc1 | with_reducible exact hc1
       have hw2 : Kb W3 (w.heap.size + 1 + 1) q1 := (Kb.refl _ _).new hg1
       have hz1 := (hg1.block _ (lt_of_block HB3.out)).trans HB3.out
       have d0 := cell_of_row _ _ 0 _ _ _ hz1
       have d1 := cell_of_row _ _ 1 _ _ _ hz1
       have d2 := cell_of_row _ _ 2 _ _ _ hz1
       have d3 := cell_of_row _ _ 3 _ _ _ hz1
       have df := fun i => frozen_of_row _ _ i _ _ hz1
       have HG := Lib.hid (HN3.out.trans hg1)
       clear hz1
       clear hc1)
    | (go_at_call 75
       refine (HF.out _).mono ?_
       rintro e q2 ⟨rfl, hc2⟩
       have hg2 : New W3 q2 := by first | with_reducible exact hg0.trans hc2 | with_reducible exact hg0.drew.trans hc2 | with_reducible exact hg1.trans hc2 | with_reducible exact hg1.drew.trans hc2 | with_reducible exact (New.refl W3).drew.trans hc2 | with_reducible exact hc2
       have hw3 : Kb W3 (w.heap.size + 1 + 1) q2 := (Kb.refl _ _).new hg2
       have hz2 := (hg2.block _ (lt_of_block HB3.out)).trans HB3.out
       have d0 := cell_of_row _ _ 0 _ _ _ hz2
       have d1 := cell_of_row _ _ 1 _ _ _ hz2
       have d2 := cell_of_row _ _ 2 _ _ _ hz2
       have d3 := cell_of_row _ _ 3 _ _ _ hz2
       have df := fun i => frozen_of_row _ _ i _ _ hz2
       have HG := Lib.hid (HN3.out.trans hg2)
       clear hz2
       clear hc2))
  all_goals
    go_wp2
    refine bodyPost_ret (by simp [results, Tryz.results82, go_sem, d0, d1, d2, d3]; try rfl) rfl ?_
    first | exact ⟨rfl, ((((((((HG.out).setCell (by show w.heap.size ≤ w.heap.size + 1 + 1; omega) _)).setCell (by show w.heap.size ≤ w.heap.size + 1 + 1; omega) _)).setCell (by show w.heap.size ≤ w.heap.size + 1 + 1; omega) _)).setCell (by show w.heap.size ≤ w.heap.size + 1 + 1; omega) _)⟩ | exact ⟨rfl, (((((((((HG.out).setCell (by show w.heap.size ≤ w.heap.size + 1 + 1; omega) _)).setCell (by show w.heap.size ≤ w.heap.size + 1 + 1; omega) _)).setCell (by show w.heap.size ≤ w.heap.size + 1 + 1; omega) _)).setCell (by show w.heap.size ≤ w.heap.size + 1 + 1; omega) _)).drew⟩
theorem jpO5 (q : Q2) (a0 a1 a2 a3 : BitVec 64) : JpC 5 (w10 q) (itK 5 (four a0 a1 a2 a3) (w10 q)) a0 a1 a2 a3 := by
  intro w g h
  rw [it_5]
  have HS := fun w => jump2S (toV2 q) a0 a1 a2 a3 w
  obtain ⟨p, hp⟩ : ∃ p, Lin.it (LV2 24 16 37 (by decide) (by decide)) (four a0 a1 a2 a3) (toV2 q) = p := ⟨_, rfl⟩
  rw [hp] at HS ⊢
  generalize hk5 : (5 : Int) = k at *
  cases h with
  | split b h => omega
  | xosh k hk b h => omega
  | xoro k hk b b4 b5 b6 h h4 h5 h6 =>
    have h := jpO_raw k q (ofV2 p) b b4 b5 a0 a1 a2 a3 (Lib.hid HS) w h h4 h5
    rw [← w10_cells q, ← w10_cells (ofV2 p)] at h
    exact h
  | pcg32 => omega
  | pcg64 => omega
theorem jpO6 (q : Q2) (a0 a1 a2 a3 : BitVec 64) : JpC 6 (w10 q) (itK 6 (four a0 a1 a2 a3) (w10 q)) a0 a1 a2 a3 := by
  intro w g h
  rw [it_6]
  have HS := fun w => jump2P (toV2 q) a0 a1 a2 a3 w
  obtain ⟨p, hp⟩ : ∃ p, Lin.it (LV2 49 21 28 (by decide) (by decide)) (four a0 a1 a2 a3) (toV2 q) = p := ⟨_, rfl⟩
  rw [hp] at HS ⊢
  generalize hk5 : (6 : Int) = k at *
  cases h with
  | split b h => omega
  | xosh k hk b h => omega
  | xoro k hk b b4 b5 b6 h h4 h5 h6 =>
    have h := jpO_raw k q (ofV2 p) b b4 b5 a0 a1 a2 a3 (Lib.hid HS) w h h4 h5
    rw [← w10_cells q, ← w10_cells (ofV2 p)] at h
    exact h
  | pcg32 => omega
  | pcg64 => omega
set_option maxHeartbeats 2000000 in
theorem jp7_raw (x i p a0 a1 a2 a3 : BitVec 64) (HS : Hid (∀ w, Calls Tryz.prog 91 #[.int .u64 (W64 x), .int .u64 (W64 i), .int .u64 (W64 a0)] w fun e w' => e = .returned (.int .u64 (W64 p)) ∧ New w w')) (w : World) : Calls Tryz.prog 90 #[.agg #[.int .u64 (W64 x), .int .u64 (W64 i), .int .u64 0, .int .u64 0], .agg (uc a0 a1 a2 a3)] w fun e w' => e = .returned (.agg #[.int .u64 (W64 p), .int .u64 (W64 i), .int .u64 0, .int .u64 0]) ∧ New w w' := by
  obtain ⟨W3, hW3, b1, b2, b3, hn3⟩ := j3 w (.cells #[.int .u64 (W64 x), .int .u64 (W64 i), .int .u64 0, .int .u64 0] 69) (.cells (uc a0 a1 a2 a3) 49) (.cells zw 69)
  have HW3 := Lib.hid hW3
  have HB1 := Lib.hid b1
  have HB2 := Lib.hid b2
  have HB3 := Lib.hid b3
  have HN3 := Lib.hid hn3
  clear hW3 b1 b2 b3 hn3
  go_enter Tryz.func90, Tryz.ntmps90
  go_wp2_with fail
  rw [HW3.out]
  clear HW3
  have SK : Hid (∀ w', Kb W3 (w.heap.size + 1 + 1) w' → Kb W3 (w.heap.size + 1 + 1) w' ∧ w'.cell? ⟨w.heap.size, 0, none⟩ = some (.int .u64 (W64 x)) ∧ w'.cell? ⟨w.heap.size, 1, none⟩ = some (.int .u64 (W64 i)) ∧ w'.cell? ⟨w.heap.size + 1, 0, none⟩ = some (.int .u64 (W64 a0))) := Lib.hid (fun w' hn => ⟨hn, cell_of_row _ _ 0 _ _ _ (hn.block HB1.out (by omega)), cell_of_row _ _ 1 _ _ _ (hn.block HB1.out (by omega)), cell_of_row _ _ 0 _ _ _ (hn.block HB2.out (by omega))⟩)
  obtain ⟨_, ce0, ce1, ce2⟩ := SK.out W3 (Kb.refl _ _)
  go_region_held3 (fun w' => Kb W3 (w.heap.size + 1 + 1) w' ∧ w'.cell? ⟨w.heap.size, 0, none⟩ = some (.int .u64 (W64 x)) ∧ w'.cell? ⟨w.heap.size, 1, none⟩ = some (.int .u64 (W64 i)) ∧ w'.cell? ⟨w.heap.size + 1, 0, none⟩ = some (.int .u64 (W64 a0)))
    ((refine SK.out _ ?_; repeat (first | with_reducible assumption | with_reducible exact Kb.refl _ _ | with_reducible refine Kb.drew ?_ | with_reducible refine Kb.set ?_ _ _)))
    (first
    | (go_at_call 91
       refine (HS.out _).mono ?_
       rintro e q0 ⟨rfl, hc0⟩
       have hg0 : New W3 q0 := by first | with_reducible exact (New.refl W3).drew.trans hc0 | with_reducible exact hc0
       have hw1 : Kb W3 (w.heap.size + 1 + 1) q0 := (Kb.refl _ _).new hg0
       have hz0 := (hg0.block _ (lt_of_block HB3.out)).trans HB3.out
       have d0 := cell_of_row _ _ 0 _ _ _ hz0
       have d1 := cell_of_row _ _ 1 _ _ _ hz0
       have d2 := cell_of_row _ _ 2 _ _ _ hz0
       have d3 := cell_of_row _ _ 3 _ _ _ hz0
       have df := fun i => frozen_of_row _ _ i _ _ hz0
       have HG := Lib.hid (HN3.out.trans hg0)
       clear hz0
       clear hc0))
  all_goals
    go_wp2
    refine bodyPost_ret (by simp [results, Tryz.results90, go_sem, d0, d1, d2, d3]; try rfl) rfl ?_
    first | exact ⟨rfl, ((((((((HG.out).setCell (by show w.heap.size ≤ w.heap.size + 1 + 1; omega) _)).setCell (by show w.heap.size ≤ w.heap.size + 1 + 1; omega) _)).setCell (by show w.heap.size ≤ w.heap.size + 1 + 1; omega) _)).setCell (by show w.heap.size ≤ w.heap.size + 1 + 1; omega) _)⟩ | exact ⟨rfl, (((((((((HG.out).setCell (by show w.heap.size ≤ w.heap.size + 1 + 1; omega) _)).setCell (by show w.heap.size ≤ w.heap.size + 1 + 1; omega) _)).setCell (by show w.heap.size ≤ w.heap.size + 1 + 1; omega) _)).setCell (by show w.heap.size ≤ w.heap.size + 1 + 1; omega) _)).drew⟩
theorem jp7 (x i a0 a1 a2 a3 : BitVec 64) : JpC 7 (w10 ⟨x, i⟩) (itK 7 (four a0 a1 a2 a3) (w10 ⟨x, i⟩)) a0 a1 a2 a3 := by
  intro w g h
  rw [it_7c]
  have HS := fun w => advance_any (W64 x) (W64 i) (W64 a0) (b64 _) (b64 _) w
  rw [ofInt_W64, ofInt_W64, show (W64 a0).toNat = a0.toNat from toNat_W64 a0] at HS
  obtain ⟨p, hp⟩ : ∃ p, adv13 i a0.toNat x = p := ⟨_, rfl⟩
  rw [hp] at HS ⊢
  cases h with
  | xosh k hk b h => omega
  | xoro k hk b b4 b5 b6 h h4 h5 h6 => omega
  | pcg32 =>
    have h := jp7_raw x i p a0 a1 a2 a3 (Lib.hid fun w => (HS w).mono fun e w' h => ⟨h.1, h.2 ▸ New.refl w⟩) w
    have e1 := w10_cells ⟨x, i⟩
    have e2 := w10_cells ⟨p, i⟩
    rw [q2a, q2b] at e1 e2
    rw [← e1, ← e2] at h
    exact h
set_option maxHeartbeats 2000000 in
theorem jp8_raw (xl xh il ih pl ph a0 a1 a2 a3 : BitVec 64) (HS : Hid (∀ w, Calls Tryz.prog 99 #[.agg #[.int .u64 (W64 xh), .int .u64 (W64 xl)], .agg #[.int .u64 (W64 ih), .int .u64 (W64 il)], .agg #[.int .u64 (W64 a1), .int .u64 (W64 a0)]] w fun e w' => e = .returned (.agg #[.int .u64 (W64 ph), .int .u64 (W64 pl)]) ∧ New w w')) (w : World) : Calls Tryz.prog 98 #[.agg #[.int .u64 (W64 xl), .int .u64 (W64 xh), .int .u64 (W64 il), .int .u64 (W64 ih)], .agg (uc a0 a1 a2 a3)] w fun e w' => e = .returned (.agg #[.int .u64 (W64 pl), .int .u64 (W64 ph), .int .u64 (W64 il), .int .u64 (W64 ih)]) ∧ New w w' := by
  have HP : Hid (∀ w, Calls Tryz.prog 95 #[.agg #[.int .u64 (W64 xl), .int .u64 (W64 xh), .int .u64 (W64 il), .int .u64 (W64 ih)]] w fun e w' => e = .returned (.tuple #[.agg #[.int .u64 (W64 xh), .int .u64 (W64 xl)], .agg #[.int .u64 (W64 ih), .int .u64 (W64 il)]]) ∧ New w w') := Lib.hid (fun w => parts_any ⟨xl, xh, il, ih⟩ w)
  obtain ⟨W3, hW3, b1, b2, b3, hn3⟩ := j3 w (.cells #[.int .u64 (W64 xl), .int .u64 (W64 xh), .int .u64 (W64 il), .int .u64 (W64 ih)] 69) (.cells (uc a0 a1 a2 a3) 49) (.cells zw 69)
  have HW3 := Lib.hid hW3
  have HB1 := Lib.hid b1
  have HB2 := Lib.hid b2
  have HB3 := Lib.hid b3
  have HN3 := Lib.hid hn3
  clear hW3 b1 b2 b3 hn3
  go_enter Tryz.func98, Tryz.ntmps98
  go_wp2_with fail
  rw [HW3.out]
  clear HW3
  refine (HP.out _).mono ?_
  rintro e w1 ⟨rfl, n1⟩
  have h2 := two_blocksG w1 (.cells #[.int .u64 (W64 xh), .int .u64 (W64 xl)] 74) (.cells #[.int .u64 (W64 ih), .int .u64 (W64 il)] 74)
  have u := ((n1.trans h2.2.2).block _ (lt_of_block HB2.out)).trans HB2.out
  have u0 := cell_of_row _ _ 0 _ _ _ u
  have u1 := cell_of_row _ _ 1 _ _ _ u
  have HI := Lib.hid h2
  have HN1 := Lib.hid (n1.trans h2.2.2)
  have HLT := Lib.hid (show w.heap.size + 1 + 1 < w1.heap.size by have := lt_of_block HB3.out; have := n1.le; omega)
  clear u h2 n1
  go_wp2_with fail
  refine (HS.out _).mono ?_
  rintro e w4 ⟨rfl, n4⟩
  have hs := (n4.block _ (lt_of_block HI.out.1)).trans HI.out.1
  have hi := (n4.block _ (lt_of_block HI.out.2.1)).trans HI.out.2.1
  have hy := ((HN1.out.trans n4).block _ (lt_of_block HB3.out)).trans HB3.out
  have HN := Lib.hid (HN3.out.trans (HN1.out.trans n4))
  have hlt1 : w.heap.size + 1 + 1 ≠ w1.heap.size := by have := HLT.out; omega
  have hlt2 := hlt1.symm
  have s0 := cell_of_row _ _ 0 _ _ _ hs
  have s1 := cell_of_row _ _ 1 _ _ _ hs
  have sf := fun i => frozen_of_row _ _ i _ _ hs
  have i0 := cell_of_row _ _ 0 _ _ _ hi
  have i1 := cell_of_row _ _ 1 _ _ _ hi
  have d0 := cell_of_row _ _ 0 _ _ _ hy
  have d1 := cell_of_row _ _ 1 _ _ _ hy
  have d2 := cell_of_row _ _ 2 _ _ _ hy
  have d3 := cell_of_row _ _ 3 _ _ _ hy
  have df := fun i => frozen_of_row _ _ i _ _ hy
  clear hs hi hy n4 HI HN1 HB1 HB2 HB3 u0 u1
  go_wp2_with fail
  refine bodyPost_ret (by simp [results, Tryz.results98, go_sem, d0, d1, d2, d3]; try rfl) rfl ?_
  exact ⟨rfl, ((((((((((HN.out.setCell (by show w.heap.size ≤ w1.heap.size; have := HLT.out; omega) _).setCell (by show w.heap.size ≤ w1.heap.size; have := HLT.out; omega) _)).setCell (by show w.heap.size ≤ w.heap.size + 1 + 1; omega) _)).setCell (by show w.heap.size ≤ w.heap.size + 1 + 1; omega) _)).setCell (by show w.heap.size ≤ w.heap.size + 1 + 1; omega) _)).setCell (by show w.heap.size ≤ w.heap.size + 1 + 1; omega) _)⟩
theorem jp8 (x i : BitVec 128) (a0 a1 a2 a3 : BitVec 64) : JpC 8 (mk8 x i) (itK 8 (four a0 a1 a2 a3) (mk8 x i)) a0 a1 a2 a3 := by
  intro w g h
  rw [it_8c]
  have HS := fun w => advance14 x i (join128 a1 a0) w
  rw [hi_join, lo_join] at HS
  obtain ⟨p, hp⟩ : ∃ p, aff T14 (i ||| 1#128) (join128 a1 a0).toNat x = p := ⟨_, rfl⟩
  rw [hp] at HS ⊢
  cases h with
  | xosh k hk b h => omega
  | xoro k hk b b4 b5 b6 h h4 h5 h6 => omega
  | pcg64 => exact jp8_raw (lo128 x) (hi128 x) (lo128 i) (hi128 i) (lo128 p) (hi128 p) a0 a1 a2 a3 (Lib.hid HS) w
/-- the jump of any kind -/
theorem jp_all {k : Int} {q : W4} (h : chkK k q = 0) (a0 a1 a2 a3 : BitVec 64) : JpC k q (itK k (four a0 a1 a2 a3) q) a0 a1 a2 a3 := by
  obtain ⟨ho, f1, f2, -⟩ := fits h
  rcases kind8 ho with hk | hk | hk | hk | hk
  · subst hk
    rw [f1 rfl]
    exact jp1 _ _ _ _ _
  · exact jpX k hk q a0 a1 a2 a3
  · have hq := f2 (by omega)
    rw [hq]
    rcases hk with rfl | rfl
    · exact jpO5 _ _ _ _ _
    · exact jpO6 _ _ _ _ _
  · subst hk
    have hq := f2 (by omega)
    rw [hq]
    exact jp7 _ _ _ _ _ _
  · subst hk
    have h := jp8 (join128 q.b q.a) (join128 q.d q.c) a0 a1 a2 a3
    rw [mk8_of] at h
    exact h
end Go.Proofs.YtfaobdmoifnglaaGreat
