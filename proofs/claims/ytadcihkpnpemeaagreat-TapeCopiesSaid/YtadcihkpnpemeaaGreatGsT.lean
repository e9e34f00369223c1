/- All generators: the document's Step. -/
import Derived.Test.YtadcihkpnpemeaaGreatGsR
import Derived.Test.YtadcihkpnpemeaaGreatGsO
namespace Go.Proofs.YtadcihkpnpemeaaGreat
open Go.RowKit Go.Bv
set_option linter.unusedVariables false
set_option maxRecDepth 100000
theorem stc_q1 (s : BitVec 64) : stc 1 (q1 s) = #[.int .i64 1, .int .u64 (W64 s), .int .u64 0, .int .u64 0, .int .u64 0] := by
  show #[Value.int .i64 1, .int .u64 (W64 s), .int .u64 (W64 0#64), .int .u64 (W64 0#64), .int .u64 (W64 0#64)] = _
  rw [W64z]
theorem stc_w10 (k : Int) (q : Q2) : stc k (w10 q) = #[.int .i64 k, .int .u64 (W64 q.a), .int .u64 (W64 q.b), .int .u64 0, .int .u64 0] := by
  show #[Value.int .i64 k, .int .u64 (W64 q.a), .int .u64 (W64 q.b), .int .u64 (W64 0#64), .int .u64 (W64 0#64)] = _
  rw [W64z]
set_option maxHeartbeats 2000000 in
theorem rst1 (s : BitVec 64) (w : World) : Calls Tryz.prog 27 #[.agg (stc 1 (q1 s))] w fun e w' => e = .returned (.agg (stc 1 (q1 (s + Gm)))) ∧ New w w' := by
  rw [stc_q1, stc_q1]
  go_enter Tryz.func27, Tryz.ntmps27
  go_wp2_with fail
  go_returns
  exact ⟨rfl, ((New.refl w).alloc _).alloc _⟩
set_option maxHeartbeats 2000000 in
theorem rstX (k : Int) (hk : 2 ≤ k ∧ k ≤ 4) (q : W4) (w : World) : Calls Tryz.prog 27 #[.agg (stc k q)] w fun e w' => e = .returned (.agg (stc k (m9 q))) ∧ New w w' := by
  have k1 : (k == 1) = false := by rw [beq_eq_false_iff_ne]; omega
  have k2 : 2 ≤ k := by omega
  have k3 : k ≤ 4 := by omega
  have k5 : (k == 5) = false := by rw [beq_eq_false_iff_ne]; omega
  have k6 : (k == 6) = false := by rw [beq_eq_false_iff_ne]; omega
  have k7 : (k == 7) = false := by rw [beq_eq_false_iff_ne]; omega
  have k8 : (k == 8) = false := by rw [beq_eq_false_iff_ne]; omega
  have hz := two_blocksG w (.cells (stc k q) 25) (.cells zst 25)
  have HZ := Lib.hid hz
  clear hz
  go_enter Tryz.func27, Tryz.ntmps27
  go_wp2_with fail
  refine (step_ref9 _ _ _ _ _).mono ?_
  rintro e w3 ⟨rfl, n3⟩
  have hr := (n3.block _ (lt_of_block HZ.out.2.1)).trans HZ.out.2.1
  have hg := (n3.block _ (lt_of_block HZ.out.1)).trans HZ.out.1
  have y0 := cell_of_row _ _ 0 _ _ _ hr
  have y1 := cell_of_row _ _ 1 _ _ _ hr
  have y2 := cell_of_row _ _ 2 _ _ _ hr
  have y3 := cell_of_row _ _ 3 _ _ _ hr
  have y4 := cell_of_row _ _ 4 _ _ _ hr
  have yf := fun i => frozen_of_row _ _ i _ _ hr
  have g0 := cell_of_row _ _ 0 _ _ _ hg
  have g1 := cell_of_row _ _ 1 _ _ _ hg
  have g2 := cell_of_row _ _ 2 _ _ _ hg
  have g3 := cell_of_row _ _ 3 _ _ _ hg
  have g4 := cell_of_row _ _ 4 _ _ _ hg
  have gf := fun i => frozen_of_row _ _ i _ _ hg
  have HN := Lib.hid (HZ.out.2.2.trans n3)
  have HX := Lib.hid hr
  clear hr hg n3 HZ
  go_wp2_with fail
  have hne : w.heap.size + 1 ≠ w.heap.size := by omega
  have hp := put5_facts (.int .i64 k) (.int .u64 (W64 (m9 q).a)) (.int .u64 (W64 (m9 q).b)) (.int .u64 (W64 (m9 q).c)) (.int .u64 (W64 (m9 q).d)) ((put4_keep hne (.int .u64 (W64 (m9 q).a)) (.int .u64 (W64 (m9 q).b)) (.int .u64 (W64 (m9 q).c)) (.int .u64 (W64 (m9 q).d))).trans HX.out)
  refine bodyPost_ret (by simp [results, Tryz.results27, go_sem, y0, y1, y2, y3, y4]; try rfl) rfl ?_
  exact ⟨rfl, hp.2.2.1 _ (put4_newk HN.out (by omega) _ _ _ _) (by omega)⟩
set_option maxHeartbeats 2000000 in
theorem rst5 (q : Q2) (w : World) : Calls Tryz.prog 27 #[.agg (stc 5 (w10 q))] w fun e w' => e = .returned (.agg (stc 5 (w10 (mo 5 q)))) ∧ New w w' := by
  have hmo : mo 5 q = stp 24 16 37 q := rfl
  rw [hmo]
  obtain ⟨p, hp⟩ : ∃ p, stp 24 16 37 q = p := ⟨_, rfl⟩
  rw [hp, stc_w10 5 q, stc_w10 5 p]
  have hz := two_blocksG w (.cells #[.int .i64 5, .int .u64 (W64 q.a), .int .u64 (W64 q.b), .int .u64 0, .int .u64 0] 25) (.cells zst 25)
  have HZ := Lib.hid hz
  have HS := Lib.hid (fun w => stepr_5 q w)
  rw [hp] at HS
  clear hz hmo hp
  go_enter Tryz.func27, Tryz.ntmps27
  go_wp2_with fail
  refine (HS.out _).mono ?_
  rintro e w1 ⟨rfl, n1⟩
  have n3 := n1.alloc (.cells #[.int .u64 (W64 p.a), .int .u64 (W64 p.b)] 73)
  have hr := (n3.block _ (lt_of_block HZ.out.2.1)).trans HZ.out.2.1
  have hg := (n3.block _ (lt_of_block HZ.out.1)).trans HZ.out.1
  have hlt1 : w.heap.size ≠ w1.heap.size := by have := lt_of_block ((n1.block _ (lt_of_block HZ.out.1)).trans HZ.out.1); omega
  have hlt2 := hlt1.symm
  have y0 := cell_of_row _ _ 0 _ _ _ hr
  have y1 := cell_of_row _ _ 1 _ _ _ hr
  have y2 := cell_of_row _ _ 2 _ _ _ hr
  have y3 := cell_of_row _ _ 3 _ _ _ hr
  have y4 := cell_of_row _ _ 4 _ _ _ hr
  have yf := fun i => frozen_of_row _ _ i _ _ hr
  have g0 := cell_of_row _ _ 0 _ _ _ hg
  have g1 := cell_of_row _ _ 1 _ _ _ hg
  have g2 := cell_of_row _ _ 2 _ _ _ hg
  have g3 := cell_of_row _ _ 3 _ _ _ hg
  have g4 := cell_of_row _ _ 4 _ _ _ hg
  have gf := fun i => frozen_of_row _ _ i _ _ hg
  have HN := Lib.hid (HZ.out.2.2.trans n3)
  have HX := Lib.hid hr
  have HG := Lib.hid hg
  clear hr hg n3 n1 HZ HS
  go_wp2_with fail
  have hne : w.heap.size + 1 ≠ w.heap.size := by omega
  have e1 : ∀ v1 v2 : Value, (((w1.alloc (.cells #[.int .u64 (W64 p.a), .int .u64 (W64 p.b)] 73)).setCell ⟨w.heap.size, 1, none⟩ v1).setCell ⟨w.heap.size, 2, none⟩ v2).heap[w.heap.size + 1]? = some (.cells zst 25 (0, 0)) := fun v1 v2 => (heap_setCell_other _ _ _ _ hne).trans ((heap_setCell_other _ _ _ _ hne).trans HX.out)
  have hp := put5_facts (.int .i64 5) (.int .u64 (W64 p.a)) (.int .u64 (W64 p.b)) (.int .u64 0) (.int .u64 0) (e1 (.int .u64 (W64 p.a)) (.int .u64 (W64 p.b)))
  refine bodyPost_ret (by simp [results, Tryz.results27, go_sem, y0, y1, y2, y3, y4]; try rfl) rfl ?_
  exact ⟨rfl, hp.2.2.1 _ ((HN.out.setCell (by show w.heap.size ≤ w.heap.size; omega) _).setCell (by show w.heap.size ≤ w.heap.size; omega) _) (by omega)⟩
set_option maxHeartbeats 2000000 in
theorem rst6 (q : Q2) (w : World) : Calls Tryz.prog 27 #[.agg (stc 6 (w10 q))] w fun e w' => e = .returned (.agg (stc 6 (w10 (mo 6 q)))) ∧ New w w' := by
  have hmo : mo 6 q = stp 49 21 28 q := rfl
  rw [hmo]
  obtain ⟨p, hp⟩ : ∃ p, stp 49 21 28 q = p := ⟨_, rfl⟩
  rw [hp, stc_w10 6 q, stc_w10 6 p]
  have hz := two_blocksG w (.cells #[.int .i64 6, .int .u64 (W64 q.a), .int .u64 (W64 q.b), .int .u64 0, .int .u64 0] 25) (.cells zst 25)
  have HZ := Lib.hid hz
  have HS := Lib.hid (fun w => stepr_6 q w)
  rw [hp] at HS
  clear hz hmo hp
  go_enter Tryz.func27, Tryz.ntmps27
  go_wp2_with fail
  refine (HS.out _).mono ?_
  rintro e w1 ⟨rfl, n1⟩
  have n3 := n1.alloc (.cells #[.int .u64 (W64 p.a), .int .u64 (W64 p.b)] 73)
  have hr := (n3.block _ (lt_of_block HZ.out.2.1)).trans HZ.out.2.1
  have hg := (n3.block _ (lt_of_block HZ.out.1)).trans HZ.out.1
  have hlt1 : w.heap.size ≠ w1.heap.size := by have := lt_of_block ((n1.block _ (lt_of_block HZ.out.1)).trans HZ.out.1); omega
  have hlt2 := hlt1.symm
  have y0 := cell_of_row _ _ 0 _ _ _ hr
  have y1 := cell_of_row _ _ 1 _ _ _ hr
  have y2 := cell_of_row _ _ 2 _ _ _ hr
  have y3 := cell_of_row _ _ 3 _ _ _ hr
  have y4 := cell_of_row _ _ 4 _ _ _ hr
  have yf := fun i => frozen_of_row _ _ i _ _ hr
  have g0 := cell_of_row _ _ 0 _ _ _ hg
  have g1 := cell_of_row _ _ 1 _ _ _ hg
  have g2 := cell_of_row _ _ 2 _ _ _ hg
  have g3 := cell_of_row _ _ 3 _ _ _ hg
  have g4 := cell_of_row _ _ 4 _ _ _ hg
  have gf := fun i => frozen_of_row _ _ i _ _ hg
  have HN := Lib.hid (HZ.out.2.2.trans n3)
  have HX := Lib.hid hr
  have HG := Lib.hid hg
  clear hr hg n3 n1 HZ HS
  go_wp2_with fail
  have hne : w.heap.size + 1 ≠ w.heap.size := by omega
  have e1 : ∀ v1 v2 : Value, (((w1.alloc (.cells #[.int .u64 (W64 p.a), .int .u64 (W64 p.b)] 73)).setCell ⟨w.heap.size, 1, none⟩ v1).setCell ⟨w.heap.size, 2, none⟩ v2).heap[w.heap.size + 1]? = some (.cells zst 25 (0, 0)) := fun v1 v2 => (heap_setCell_other _ _ _ _ hne).trans ((heap_setCell_other _ _ _ _ hne).trans HX.out)
  have hp := put5_facts (.int .i64 6) (.int .u64 (W64 p.a)) (.int .u64 (W64 p.b)) (.int .u64 0) (.int .u64 0) (e1 (.int .u64 (W64 p.a)) (.int .u64 (W64 p.b)))
  refine bodyPost_ret (by simp [results, Tryz.results27, go_sem, y0, y1, y2, y3, y4]; try rfl) rfl ?_
  exact ⟨rfl, hp.2.2.1 _ ((HN.out.setCell (by show w.heap.size ≤ w.heap.size; omega) _).setCell (by show w.heap.size ≤ w.heap.size; omega) _) (by omega)⟩
set_option maxHeartbeats 2000000 in
theorem rst7 (q : Q2) (w : World) : Calls Tryz.prog 27 #[.agg (stc 7 (w10 q))] w fun e w' => e = .returned (.agg (stc 7 (w10 (p7 q)))) ∧ New w w' := by
  obtain ⟨p, hp⟩ : ∃ p, p7 q = p := ⟨_, rfl⟩
  have ha : step13 q.a q.b = p.a := by rw [← hp, p7_a]
  have hb : p.b = q.b := by rw [← hp, p7_b]
  rw [hp, stc_w10 7 q, stc_w10 7 p, hb]
  have hs := fun w => step_ref (W64 q.a) (W64 q.b) (b64 _) (b64 _) w
  rw [ofInt_W64, ofInt_W64, ha] at hs
  have HS := Lib.hid hs
  clear hs ha hb hp
  go_enter Tryz.func27, Tryz.ntmps27
  go_wp2_with fail
  refine (HS.out _).mono ?_
  rintro e w1 ⟨rfl, rfl⟩
  go_wp2_with fail
  go_returns
  exact ⟨rfl, ((New.refl w).alloc _).alloc _⟩
set_option maxHeartbeats 2000000 in
theorem rlo_any (k : Int) (q : W4) (w : World) : Calls Tryz.prog 32 #[.agg (stc k q)] w fun e w' => e = .returned (.tuple #[.agg #[.int .u64 (W64 q.b), .int .u64 (W64 q.a)], .agg #[.int .u64 (W64 q.d), .int .u64 (W64 q.c)]]) ∧ New w w' := by
  go_enter Tryz.func32, Tryz.ntmps32
  go_wp2_with fail
  go_region
  go_wp2
  go_returns
  exact ⟨rfl, ((((New.refl w).alloc _).alloc _).alloc _).drew⟩
theorem rm14 (q p : W4) (hp : w14 q = p) (w : World) : Calls Tryz.prog 38 #[.agg #[.int .u64 (W64 q.b), .int .u64 (W64 q.a)], .agg #[.int .u64 (W64 q.d), .int .u64 (W64 q.c)]] w fun e w' => e = .returned (.agg #[.int .u64 (W64 p.b), .int .u64 (W64 p.a)]) ∧ New w w' := by
  have h := step_r (join128 q.b q.a) (join128 q.d q.c) w
  rw [hi_join, lo_join, hi_join, lo_join] at h
  have e1 : hi128 (stp14 (join128 q.b q.a) (join128 q.d q.c)) = p.b := by rw [← hp, w14_b]; rfl
  have e2 : lo128 (stp14 (join128 q.b q.a) (join128 q.d q.c)) = p.a := by rw [← hp, w14_a]; rfl
  rw [e1, e2] at h
  exact h
set_option maxHeartbeats 4000000 in
theorem rst8 (q : W4) (w : World) : Calls Tryz.prog 27 #[.agg (stc 8 q)] w fun e w' => e = .returned (.agg (stc 8 (w14 q))) ∧ New w w' := by
  obtain ⟨p, hp⟩ : ∃ p, w14 q = p := ⟨_, rfl⟩
  have hc : p.c = q.c := by rw [← hp, w14_c]
  have hd : p.d = q.d := by rw [← hp, w14_d]
  have HS := Lib.hid (fun w => rm14 q p hp w)
  rw [hp]
  obtain ⟨pa, pb, pc, pd⟩ := p
  replace hc : pc = q.c := hc
  replace hd : pd = q.d := hd
  subst hc hd
  clear hp
  have hz := two_blocksG w (.cells (stc 8 q) 25) (.cells zst 25)
  have HZ := Lib.hid hz
  have HL := Lib.hid (fun w => rlo_any 8 q w)
  clear hz
  go_enter Tryz.func27, Tryz.ntmps27
  go_wp2_with fail
  refine (HL.out _).mono ?_
  rintro e w1 ⟨rfl, n1⟩
  have h2 := two_blocksG w1 (.cells #[.int .u64 (W64 q.b), .int .u64 (W64 q.a)] 77) (.cells #[.int .u64 (W64 q.d), .int .u64 (W64 q.c)] 77)
  have N2 := n1.trans h2.2.2
  have hlt : w.heap.size + 1 < w1.heap.size := lt_of_block ((n1.block _ (lt_of_block HZ.out.2.1)).trans HZ.out.2.1)
  have HI := Lib.hid h2
  have HN2 := Lib.hid N2
  clear h2 N2 n1
  go_wp2_with fail
  refine (HS.out _).mono ?_
  rintro e w3 ⟨rfl, n3⟩
  have hr := ((HN2.out.trans n3).block _ (lt_of_block HZ.out.2.1)).trans HZ.out.2.1
  have hg := ((HN2.out.trans n3).block _ (lt_of_block HZ.out.1)).trans HZ.out.1
  have hi := (n3.block _ (lt_of_block HI.out.1)).trans HI.out.1
  obtain ⟨b, hb⟩ : ∃ b, w1.heap.size = b := ⟨_, rfl⟩
  rw [hb] at hi hlt
  have y0 := cell_of_row _ _ 0 _ _ _ hr
  have y1 := cell_of_row _ _ 1 _ _ _ hr
  have y2 := cell_of_row _ _ 2 _ _ _ hr
  have y3 := cell_of_row _ _ 3 _ _ _ hr
  have y4 := cell_of_row _ _ 4 _ _ _ hr
  have yf := fun i => frozen_of_row _ _ i _ _ hr
  have g0 := cell_of_row _ _ 0 _ _ _ hg
  have g1 := cell_of_row _ _ 1 _ _ _ hg
  have g2 := cell_of_row _ _ 2 _ _ _ hg
  have g3 := cell_of_row _ _ 3 _ _ _ hg
  have g4 := cell_of_row _ _ 4 _ _ _ hg
  have gf := fun i => frozen_of_row _ _ i _ _ hg
  have i0 := cell_of_row _ _ 0 _ _ _ hi
  have i1 := cell_of_row _ _ 1 _ _ _ hi
  have jf := fun i => frozen_of_row _ _ i _ _ hi
  have z1 : ¬ w.heap.size = b := by omega
  have z2 : ¬ b = w.heap.size := by omega
  have z3 : ¬ w.heap.size + 1 = b := by omega
  have z4 : ¬ b = w.heap.size + 1 := by omega
  have HN := Lib.hid ((HZ.out.2.2.trans HN2.out).trans n3)
  have HX := Lib.hid hr
  have HL := Lib.hid hlt
  have HB := Lib.hid hb
  clear hr hg hi n3 HZ HI HN2 hlt hb
  go_wp2_with (rw [HB.out])
  have hne : w.heap.size + 1 ≠ w.heap.size := by omega
  have e1 : ∀ v1 v2 v3 v4 : Value, ((((w3.setCell ⟨b, 0, none⟩ v1).setCell ⟨b, 1, none⟩ v2).setCell ⟨w.heap.size, 1, none⟩ v3).setCell ⟨w.heap.size, 2, none⟩ v4).heap[w.heap.size + 1]? = some (.cells zst 25 (0, 0)) := fun v1 v2 v3 v4 => (heap_setCell_other _ _ _ _ hne).trans ((heap_setCell_other _ _ _ _ hne).trans ((heap_setCell_other _ _ _ _ z3).trans ((heap_setCell_other _ _ _ _ z3).trans HX.out)))
  have hp := put5_facts (.int .i64 8) (.int .u64 (W64 pa)) (.int .u64 (W64 pb)) (.int .u64 (W64 q.c)) (.int .u64 (W64 q.d)) (e1 (.int .u64 (W64 pb)) (.int .u64 (W64 pa)) (.int .u64 (W64 pa)) (.int .u64 (W64 pb)))
  refine bodyPost_ret (by simp [results, Tryz.results27, go_sem, y0, y1, y2, y3, y4]; try rfl) rfl ?_
  exact ⟨rfl, hp.2.2.1 _ ((((HN.out.setCell (by show w.heap.size ≤ b; have := HL.out; omega) _).setCell (by show w.heap.size ≤ b; have := HL.out; omega) _).setCell (by show w.heap.size ≤ w.heap.size; omega) _).setCell (by show w.heap.size ≤ w.heap.size; omega) _) (by omega)⟩
theorem rst_any {k : Int} {q : W4} (h : chkK k q = 0) (w : World) : Calls Tryz.prog 27 #[.agg (stc k q)] w fun e w' => e = .returned (.agg (stc k (stK k q))) ∧ New w w' := by
  obtain ⟨ho, f1, f2, -⟩ := fits h
  rcases kind8 ho with hk | hk | hk | hk | hk
  · subst hk
    rw [f1 rfl]
    exact rst1 _ w
  · have e : stK k q = m9 q := by unfold stK; rw [if_neg (by omega), if_pos (by omega)]
    rw [e]; exact rstX k (by omega) q w
  · have e : stK k q = w10 (mo k ⟨q.a, q.b⟩) := by unfold stK; rw [if_neg (by omega), if_neg (by omega), if_pos (by omega)]
    rw [e]
    have hq := f2 (by omega)
    rcases hk with rfl | rfl
    · have := rst5 ⟨q.a, q.b⟩ w
      rwa [← hq] at this
    · have := rst6 ⟨q.a, q.b⟩ w
      rwa [← hq] at this
  · subst hk
    have e : stK 7 q = w10 (p7 ⟨q.a, q.b⟩) := rfl
    rw [e]
    have := rst7 ⟨q.a, q.b⟩ w
    rwa [← f2 (by omega)] at this
  · subst hk
    exact rst8 q w
end Go.Proofs.YtadcihkpnpemeaaGreat
