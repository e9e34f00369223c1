import Derived.Test.YtfaobdmoifnglaaGreatZLqC
import Derived.Test.YtfaobdmoifnglaaGreatZLqB
import Derived.Deep.DeepCutAuto
import Derived.Test.YtfaobdmoifnglaaGreatZGf2P
section
/- charpoly.Bits4 and Bits2: the lowest bits of the states behind each other. · charpoly.Rule: the rule of a row of bits; slices.Clone of bools. · charpoly.Xoshiro and Xoroshiro. -/
namespace Go.Proofs.YtfaobdmoifnglaaGreat
open Go Go.RowKit Go.Bv Go.G2
set_option linter.unusedVariables false
/-- a box that holds a state of four words -/
def S4 (w : World) (b : Nat) (q : V4) : Prop := w.heap[b]? = some (.cells #[.int .u64 (W64 q.a), .int .u64 (W64 q.b), .int .u64 (W64 q.c), .int .u64 (W64 q.d)] 23 (0, 0))
def S2 (w : World) (b : Nat) (q : V2) : Prop := w.heap[b]? = some (.cells #[.int .u64 (W64 q.a), .int .u64 (W64 q.b)] 80 (0, 0))
theorem S4.stay {w w' : World} {b : Nat} {q : V4} (h : S4 w b q) (hn : New w w') : S4 w' b q := (hn.block _ (lt_of_block h)).trans h
theorem S2.stay {w w' : World} {b : Nat} {q : V2} (h : S2 w b q) (hn : New w w') : S2 w' b q := (hn.block _ (lt_of_block h)).trans h
theorem S4.far {w : World} {b : Nat} {q : V4} (h : S4 w b q) {p : Addr} (hp : b ≠ p.block) (u : Value) : S4 (w.setCell p u) b q := (heap_setCell_other _ _ _ _ hp).trans h
theorem S2.far {w : World} {b : Nat} {q : V2} (h : S2 w b q) {p : Addr} (hp : b ≠ p.block) (u : Value) : S2 (w.setCell p u) b q := (heap_setCell_other _ _ _ _ hp).trans h
theorem S4.put {w : World} {b : Nat} {q : V4} (h : S4 w b q) (p : V4) : S4 ((((w.setCell ⟨b, 0, none⟩ (.int .u64 (W64 p.a))).setCell ⟨b, 1, none⟩ (.int .u64 (W64 p.b))).setCell ⟨b, 2, none⟩ (.int .u64 (W64 p.c))).setCell ⟨b, 3, none⟩ (.int .u64 (W64 p.d))) b p :=
  heap_setCell_same _ _ _ _ _ _ (heap_setCell_same _ _ _ _ _ _ (heap_setCell_same _ _ _ _ _ _ (heap_setCell_same _ _ _ _ _ _ h)))
theorem S2.put {w : World} {b : Nat} {q : V2} (h : S2 w b q) (p : V2) : S2 ((w.setCell ⟨b, 0, none⟩ (.int .u64 (W64 p.a))).setCell ⟨b, 1, none⟩ (.int .u64 (W64 p.b))) b p :=
  heap_setCell_same _ _ _ _ _ _ (heap_setCell_same _ _ _ _ _ _ h)
/-- the first i of n bits, the others false -/
def pB (B : Nat → Bool) (n i : Nat) : List Bool := (List.range n).map fun j => decide (j < i) && B j
theorem pB_len (B : Nat → Bool) (n i : Nat) : (pB B n i).length = n := by unfold pB; simp
theorem pB_get (B : Nat → Bool) {n i j : Nat} (h : j < n) : (pB B n i).getD j false = (decide (j < i) && B j) := by
  unfold pB; rw [List.getD_eq_getElem?_getD, List.getElem?_map, List.getElem?_range h]; rfl
theorem pB_set (B : Nat → Bool) (n i : Nat) : (pB B n i).set i (B i) = pB B n (i + 1) := by
  refine bools_eq (n := n) (by rw [List.length_set, pB_len]) (pB_len _ _ _) (fun j hj => ?_)
  rw [pB_get _ hj, List.getD_eq_getElem?_getD, List.getElem?_set]
  by_cases e : i = j
  · subst e; rw [if_pos rfl, if_pos (by rw [pB_len]; exact hj)]; simp
  · rw [if_neg e, ← List.getD_eq_getElem?_getD, pB_get _ hj]
    congr 1
    exact decide_eq_decide.2 (by omega)
theorem pB_zero (B : Nat → Bool) (n : Nat) : pB B n 0 = List.replicate n false := by
  refine bools_eq (n := n) (pB_len _ _ _) (List.length_replicate ..) (fun j hj => ?_)
  rw [pB_get _ hj, List.getD_eq_getElem?_getD, List.getElem?_replicate, if_pos hj]; simp
theorem info_b1 : (Tryz.prog.info? 4).map (fun i => (i.zero, i.size, i.bytes)) = some (some (.bool false), 1, 1) := by kernel_rfl
theorem make_b1 (n : Nat) (hn : n ≤ 1000000) (t : Int) (w : World) (ht : t = ((n : Nat) : Int)) : (Instr.makeSlice 149 (.int .i64 t) (.int .i64 t)).run Tryz.prog w = .ok (.slice (some ⟨w.heap.size, 0, none⟩) n n) (w.alloc (.cells (madeCells #[.bool false] n) 4)) := by
  obtain ⟨i0, hi, hz0, hz1, hz2⟩ := info_parts info_b1
  subst ht
  exact run_make_row (P := Tryz.prog) 149 4 i0 (.bool false) Tryz.underlying149 hi hz0 hz1 rfl .i64 .i64 n (by rw [hz2]; omega) (by omega) w
theorem ow_falses (w : World) (n : Nat) (hn : n ≤ 1000000) (l : List Bool) (hl : l = List.replicate n false) : (w.alloc (.cells (madeCells #[.bool false] n) 4)).ownsRow w.heap.size 4 1 (.slice (some ⟨w.heap.size, 0, none⟩) n n) n (l.map fun x => .bool x) :=
  ow_made w _ _ _ n _ (Nat.le_refl _) (by omega) (by rw [made_toList, hl, List.map_replicate]) (by rw [List.length_map, hl, List.length_replicate])
theorem low_one (x : BitVec 64) : (x &&& 1#64 == 1#64) = x.getLsbD 0 := by
  have h := and_one x 0
  rw [BitVec.ushiftRight_zero] at h
  exact h
/-- the lowest bit of the state behind j steps -/
def lo4 (q : V4) (j : Nat) : Bool := (LV4.it j q).a.getLsbD 0
set_option maxRecDepth 100000 in
set_option maxHeartbeats 2000000 in
theorem bits4_q (q : V4) (n : Nat) (hn : n ≤ 4096) (w : World) :
    Calls Tryz.prog 158 #[.agg #[.int .u64 (W64 q.a), .int .u64 (W64 q.b), .int .u64 (W64 q.c), .int .u64 (W64 q.d)], .int .i64 (n : Int)] w fun e w' => ∃ v, e = .returned v ∧ w'.ownsRow w.heap.size 4 1 v n ((pB (lo4 q) n n).map fun x => .bool x) ∧ New w w' := by
  have hb := heap_alloc_new w (.cells #[.int .u64 (W64 q.a), .int .u64 (W64 q.b), .int .u64 (W64 q.c), .int .u64 (W64 q.d)] 23)
  have hn0 : New w (w.alloc (.cells #[.int .u64 (W64 q.a), .int .u64 (W64 q.b), .int .u64 (W64 q.c), .int .u64 (W64 q.d)] 23)) := (New.refl w).alloc _
  obtain ⟨W0, hW0⟩ : ∃ z, w.alloc (.cells #[.int .u64 (W64 q.a), .int .u64 (W64 q.b), .int .u64 (W64 q.c), .int .u64 (W64 q.d)] 23) = z := ⟨_, rfl⟩
  rw [hW0] at hb hn0
  have hs0 : W0.heap.size = w.heap.size + 1 := by rw [← hW0]; simp
  obtain ⟨b, hbb⟩ : ∃ b, w.heap.size = b := ⟨_, rfl⟩
  rw [hbb] at hs0 hb ⊢
  have hS : S4 W0 b q := hb
  have hnz : New w (W0.alloc (.cells (madeCells #[.bool false] n) 4)) := hn0.alloc _
  have hSz : S4 (W0.alloc (.cells (madeCells #[.bool false] n) 4)) b q := hS.stay ((New.refl _).alloc _)
  have hoz := ow_falses W0 n (by omega) (pB (lo4 q) n 0) (pB_zero _ _)
  rw [hs0] at hoz
  obtain ⟨W2, hW2⟩ : ∃ z, W0.alloc (.cells (madeCells #[.bool false] n) 4) = z := ⟨_, rfl⟩
  rw [hW2] at hnz hoz hSz
  have HO := Lib.hid (ow_base hoz (show b ≤ b + 1 by omega))
  have HN := Lib.hid hnz
  have HSZ := Lib.hid hSz
  have HW0 := Lib.hid hW0
  have HW2 := Lib.hid hW2
  have HS0 := Lib.hid hs0
  have HBB := Lib.hid hbb
  have HMK := Lib.hid (make_b1 n (by omega))
  have HC := Lib.hid (fun w => count_q n hn w)
  have HST := Lib.hid (fun j w => step4_q (LV4.it j q) w)
  have hbs : ∀ j, LV4.it (j + 1) q = stV4 (LV4.it j q) := fun j => LV4.it_st j q
  have HNX := Lib.hid hbs
  have HG : Hid (w.heap.size ≤ b + 1 ∧ w.heap.size ≤ b) := Lib.hid (by omega)
  clear hb hn0 hW0 hs0 hbb hS hnz hSz hoz hW2 hbs
  go_enter Tryz.func158, Tryz.ntmps158
  go_wp2_with fail
  rw [HW0.out]
  refine (HC.out _).mono ?_
  rintro e w' ⟨rfl, hw⟩
  replace hw := hw.symm
  subst hw
  go_wp2_with fail
  rw [HMK.out _ _ rfl]
  rw [HW2.out, HS0.out, HBB.out]
  clear HMK HW0 HW2 HS0 HBB HC
  go_wp2_with fail
  go_loopw [12] (fun iv wr => ∃ i : Nat, i ≤ n ∧ iv = .int .i64 (i : Int) ∧ wr.ownsRow b 4 1 (.slice (some ⟨b + 1, 0, none⟩) n n) n ((pB (lo4 q) n i).map fun x => .bool x) ∧ S4 wr b (LV4.it i q) ∧ New w wr) (fun iv _ => n - (intOf iv).toNat)
  case atStart => exact ⟨0, by omega, rfl, HO.out, HSZ.out, HN.out⟩
  case round =>
    clear HO HSZ HN
    obtain ⟨i, hi, rfl, hown, hS, hnew⟩ := hrel
    obtain ⟨wq, hwq⟩ : ∃ z, z = wr := ⟨_, rfl⟩
    rw [← hwq] at hown hS hnew ⊢
    clear hwq
    by_cases hlt : i < n
    · have hi1 : (i : Int) < (n : Int) := by omega
      have hi2 : (0 : Int) ≤ (i : Int) := by omega
      have HST2 := Lib.hid (HST.out i)
      have HNX2 := Lib.hid (HNX.out i)
      have HLB : Hid (lo4 q i = ((LV4.it i q).a &&& 1#64 == 1#64)) := Lib.hid (low_one _).symm
      obtain ⟨p, hp⟩ : ∃ p, LV4.it i q = p := ⟨_, rfl⟩
      rw [hp] at HST2 HNX2 HLB hS
      have k0 := cell_of_row _ _ 0 _ _ _ hS
      obtain ⟨d1, f1L⟩ := ow_bool hown hlt
      have hown2 := ow_set hown i (.bool (p.a &&& 1#64 == 1#64))
      rw [← List.map_set, ← HLB.out, pB_set] at hown2
      have hS2 := hS.far (p := ⟨b + 1, i, none⟩) (by simp) (.bool (lo4 q i))
      have hn2 : New w (wq.setCell ⟨b + 1, i, none⟩ (.bool (lo4 q i))) := hnew.setCell HG.out.1 _
      rw [HLB.out] at hown2 hS2 hn2
      have e0 := cell_of_row _ _ 0 _ _ _ hS2
      have e1 := cell_of_row _ _ 1 _ _ _ hS2
      have e2 := cell_of_row _ _ 2 _ _ _ hS2
      have e3 := cell_of_row _ _ 3 _ _ _ hS2
      have HO2 := Lib.hid hown2
      have HS2 := Lib.hid hS2
      have HN2 := Lib.hid hn2
      clear hown hS hnew hp hown2 hS2 hn2
      go_wp2_with fail
      refine (HST2.out _).mono ?_
      rintro e w2 ⟨rfl, hn3⟩
      have hS3 := HS2.out.stay hn3
      have HO3 := Lib.hid (ow_new HO2.out hn3)
      have HN3 := Lib.hid (HN2.out.trans hn3)
      have g0 := cell_of_row _ _ 0 _ _ _ hS3
      have g1 := cell_of_row _ _ 1 _ _ _ hS3
      have g2 := cell_of_row _ _ 2 _ _ _ hS3
      have g3 := cell_of_row _ _ 3 _ _ _ hS3
      have gf : ∀ i, w2.frozen? ⟨b, i, none⟩ = false := fun i => frozen_of_row _ _ i _ _ hS3
      have HS3 := Lib.hid hS3
      clear HST2 HO2 HS2 HN2 e0 e1 e2 e3 k0 d1 f1L hn3 hS3
      go_wp2
      refine ⟨⟨i + 1, by omega, rfl, ?_, ?_, ?_⟩, by simp [intOf] <;> omega⟩
      · exact ow_far (ow_far (ow_far (ow_far HO3.out (by simp [Value.ownBlock]) _) (by simp [Value.ownBlock]) _) (by simp [Value.ownBlock]) _) (by simp [Value.ownBlock]) _
      · rw [HNX2.out]; exact HS3.out.put _
      · exact (((HN3.out.setCell (by exact HG.out.2) _).setCell (by exact HG.out.2) _).setCell (by exact HG.out.2) _).setCell (by exact HG.out.2) _
    · obtain rfl : i = n := by omega
      have HO1 := Lib.hid hown
      have HN1 := Lib.hid hnew
      clear hown hS hnew
      go_wp2
      go_ret
      exact ⟨_, rfl, HO1.out, HN1.out⟩
def lo2 (L : Lin V2) (q : V2) (j : Nat) : Bool := (L.it j q).a.getLsbD 0
set_option maxRecDepth 100000 in
set_option maxHeartbeats 2000000 in
theorem bits2_q (L : Lin V2) (k : Int) (hL : MvV2 77 k L.st) (q : V2) (n : Nat) (hn : n ≤ 4096) (w : World) :
    Calls Tryz.prog 144 #[.int .i64 k, .agg #[.int .u64 (W64 q.a), .int .u64 (W64 q.b)], .int .i64 (n : Int)] w fun e w' => ∃ v, e = .returned v ∧ w'.ownsRow w.heap.size 4 1 v n ((pB (lo2 L q) n n).map fun x => .bool x) ∧ New w w' := by
  have hb := heap_alloc_new w (.cells #[.int .u64 (W64 q.a), .int .u64 (W64 q.b)] 80)
  have hn0 : New w (w.alloc (.cells #[.int .u64 (W64 q.a), .int .u64 (W64 q.b)] 80)) := (New.refl w).alloc _
  obtain ⟨W0, hW0⟩ : ∃ z, w.alloc (.cells #[.int .u64 (W64 q.a), .int .u64 (W64 q.b)] 80) = z := ⟨_, rfl⟩
  rw [hW0] at hb hn0
  have hs0 : W0.heap.size = w.heap.size + 1 := by rw [← hW0]; simp
  obtain ⟨b, hbb⟩ : ∃ b, w.heap.size = b := ⟨_, rfl⟩
  rw [hbb] at hs0 hb ⊢
  have hS : S2 W0 b q := hb
  have hnz : New w (W0.alloc (.cells (madeCells #[.bool false] n) 4)) := hn0.alloc _
  have hSz : S2 (W0.alloc (.cells (madeCells #[.bool false] n) 4)) b q := hS.stay ((New.refl _).alloc _)
  have hoz := ow_falses W0 n (by omega) (pB (lo2 L q) n 0) (pB_zero _ _)
  rw [hs0] at hoz
  obtain ⟨W2, hW2⟩ : ∃ z, W0.alloc (.cells (madeCells #[.bool false] n) 4) = z := ⟨_, rfl⟩
  rw [hW2] at hnz hoz hSz
  have HO := Lib.hid (ow_base hoz (show b ≤ b + 1 by omega))
  have HN := Lib.hid hnz
  have HSZ := Lib.hid hSz
  have HW0 := Lib.hid hW0
  have HW2 := Lib.hid hW2
  have HS0 := Lib.hid hs0
  have HBB := Lib.hid hbb
  have HMK := Lib.hid (make_b1 n (by omega))
  have HC := Lib.hid (fun w => count_q n hn w)
  have HST := Lib.hid (fun j w => hL (L.it j q) w)
  have hbs : ∀ j, L.it (j + 1) q = L.st (L.it j q) := fun j => L.it_st j q
  have HNX := Lib.hid hbs
  have HG : Hid (w.heap.size ≤ b + 1 ∧ w.heap.size ≤ b) := Lib.hid (by omega)
  clear hb hn0 hW0 hs0 hbb hS hnz hSz hoz hW2 hbs
  go_enter Tryz.func144, Tryz.ntmps144
  go_wp2_with fail
  rw [HW0.out]
  refine (HC.out _).mono ?_
  rintro e w' ⟨rfl, hw⟩
  replace hw := hw.symm
  subst hw
  go_wp2_with fail
  rw [HMK.out _ _ rfl]
  rw [HW2.out, HS0.out, HBB.out]
  clear HMK HW0 HW2 HS0 HBB HC
  go_wp2_with fail
  go_loopw [14] (fun iv wr => ∃ i : Nat, i ≤ n ∧ iv = .int .i64 (i : Int) ∧ wr.ownsRow b 4 1 (.slice (some ⟨b + 1, 0, none⟩) n n) n ((pB (lo2 L q) n i).map fun x => .bool x) ∧ S2 wr b (L.it i q) ∧ New w wr) (fun iv _ => n - (intOf iv).toNat)
  case atStart => exact ⟨0, by omega, rfl, HO.out, HSZ.out, HN.out⟩
  case round =>
    clear HO HSZ HN
    obtain ⟨i, hi, rfl, hown, hS, hnew⟩ := hrel
    obtain ⟨wq, hwq⟩ : ∃ z, z = wr := ⟨_, rfl⟩
    rw [← hwq] at hown hS hnew ⊢
    clear hwq
    by_cases hlt : i < n
    · have hi1 : (i : Int) < (n : Int) := by omega
      have hi2 : (0 : Int) ≤ (i : Int) := by omega
      have HST2 := Lib.hid (HST.out i)
      have HNX2 := Lib.hid (HNX.out i)
      have HLB : Hid (lo2 L q i = ((L.it i q).a &&& 1#64 == 1#64)) := Lib.hid (low_one _).symm
      obtain ⟨p, hp⟩ : ∃ p, L.it i q = p := ⟨_, rfl⟩
      rw [hp] at HST2 HNX2 HLB hS
      have k0 := cell_of_row _ _ 0 _ _ _ hS
      obtain ⟨d1, f1L⟩ := ow_bool hown hlt
      have hown2 := ow_set hown i (.bool (p.a &&& 1#64 == 1#64))
      rw [← List.map_set, ← HLB.out, pB_set] at hown2
      have hS2 := hS.far (p := ⟨b + 1, i, none⟩) (by simp) (.bool (lo2 L q i))
      have hn2 : New w (wq.setCell ⟨b + 1, i, none⟩ (.bool (lo2 L q i))) := hnew.setCell HG.out.1 _
      rw [HLB.out] at hown2 hS2 hn2
      have e0 := cell_of_row _ _ 0 _ _ _ hS2
      have e1 := cell_of_row _ _ 1 _ _ _ hS2
      have HO2 := Lib.hid hown2
      have HS2 := Lib.hid hS2
      have HN2 := Lib.hid hn2
      clear hown hS hnew hp hown2 hS2 hn2
      go_wp2_with fail
      refine (HST2.out _).mono ?_
      rintro e w2 ⟨rfl, hn3⟩
      have hS3 := HS2.out.stay hn3
      have HO3 := Lib.hid (ow_new HO2.out hn3)
      have HN3 := Lib.hid (HN2.out.trans hn3)
      have g0 := cell_of_row _ _ 0 _ _ _ hS3
      have g1 := cell_of_row _ _ 1 _ _ _ hS3
      have gf : ∀ i, w2.frozen? ⟨b, i, none⟩ = false := fun i => frozen_of_row _ _ i _ _ hS3
      have HS3 := Lib.hid hS3
      clear HST2 HO2 HS2 HN2 e0 e1 k0 d1 f1L hn3 hS3
      go_wp2
      refine ⟨⟨i + 1, by omega, rfl, ?_, ?_, ?_⟩, by simp [intOf] <;> omega⟩
      · exact ow_far (ow_far HO3.out (by simp [Value.ownBlock]) _) (by simp [Value.ownBlock]) _
      · rw [HNX2.out]; exact HS3.out.put _
      · exact (HN3.out.setCell (by exact HG.out.2) _).setCell (by exact HG.out.2) _
    · obtain rfl : i = n := by omega
      have HO1 := Lib.hid hown
      have HN1 := Lib.hid hnew
      clear hown hS hnew
      go_wp2
      go_ret
      exact ⟨_, rfl, HO1.out, HN1.out⟩
end Go.Proofs.YtfaobdmoifnglaaGreat
namespace Go.G2
open Go.Proofs.YtfaobdmoifnglaaGreat
theorem low_nat (x : BitVec 64) : x.getLsbD 0 = decide (x.toNat % 2 = 1) := by
  rw [BitVec.getLsbD, Nat.testBit_zero]
theorem add_bit (acc b i j : Nat) (ha : acc < 2 ^ i) (hb : b = 0 ∨ b = 1) (hj : j ≤ i) : (acc + b * 2 ^ i).testBit j = if j < i then acc.testBit j else decide (b = 1) := by
  rcases hb with rfl | rfl
  · rw [Nat.zero_mul, Nat.add_zero]
    by_cases h : j < i
    · rw [if_pos h]
    · rw [if_neg h, show j = i by omega, Nat.testBit_lt_two_pow ha]; rfl
  · rw [Nat.one_mul, Nat.add_comm]
    by_cases h : j < i
    · rw [if_pos h, Nat.testBit_two_pow_add_gt h]
    · rw [if_neg h, show j = i by omega, Nat.testBit_two_pow_add_eq, Nat.testBit_lt_two_pow ha]; rfl
theorem add_lt (acc b i : Nat) (ha : acc < 2 ^ i) (hb : b = 0 ∨ b = 1) : acc + b * 2 ^ i < 2 ^ (i + 1) := by
  rw [Nat.pow_succ]; rcases hb with rfl | rfl <;> omega
theorem bits4_bit : ∀ (n : Nat) (q : V4) (i acc : Nat), acc < 2 ^ i → ∀ j, (bits4 n (toN4 q) i acc).testBit j = if j < i then acc.testBit j else (decide (j < i + n) && lo4 q (j - i))
  | 0, q, i, acc, ha, j => by
    show acc.testBit j = _
    by_cases h : j < i
    · rw [if_pos h]
    · rw [if_neg h, Nat.testBit_lt_two_pow (Nat.lt_of_lt_of_le ha (Nat.pow_le_pow_right (by decide) (by omega)))]; simp [h]
  | n + 1, q, i, acc, ha, j => by
    show (bits4 n (stN4 (toN4 q)) (i + 1) (acc + (q.a.toNat % 2) * 2 ^ i)).testBit j = _
    have hb : q.a.toNat % 2 = 0 ∨ q.a.toNat % 2 = 1 := by omega
    rw [← toN4_st, bits4_bit n (stV4 q) (i + 1) _ (add_lt _ _ _ ha hb) j]
    by_cases h : j < i + 1
    · rw [if_pos h, add_bit _ _ _ _ ha hb (by omega)]
      by_cases h2 : j < i
      · rw [if_pos h2, if_pos h2]
      · rw [if_neg h2, if_neg h2, show j - i = 0 by omega]
        show _ = (_ && q.a.getLsbD 0)
        have h3 : j < i + (n + 1) := by omega
        rw [low_nat, decide_eq_true h3, Bool.true_and]
    · rw [if_neg h, if_neg (by omega), show j - i = (j - (i + 1)) + 1 by omega, show i + 1 + n = i + (n + 1) by omega]
      rfl
theorem bits2_bit (A B C : Nat) (hA : A < 64) (hC : C < 64) : ∀ (n : Nat) (q : V2) (i acc : Nat), acc < 2 ^ i → ∀ j, (bits2 A B C n (toN2 q) i acc).testBit j = if j < i then acc.testBit j else (decide (j < i + n) && lo2 (LV2 A B C hA hC) q (j - i))
  | 0, q, i, acc, ha, j => by
    show acc.testBit j = _
    by_cases h : j < i
    · rw [if_pos h]
    · rw [if_neg h, Nat.testBit_lt_two_pow (Nat.lt_of_lt_of_le ha (Nat.pow_le_pow_right (by decide) (by omega)))]; simp [h]
  | n + 1, q, i, acc, ha, j => by
    show (bits2 A B C n (stN2 A B C (toN2 q)) (i + 1) (acc + (q.a.toNat % 2) * 2 ^ i)).testBit j = _
    have hb : q.a.toNat % 2 = 0 ∨ q.a.toNat % 2 = 1 := by omega
    rw [← toN2_st A B C hA hC, bits2_bit A B C hA hC n (stV2 A B C q) (i + 1) _ (add_lt _ _ _ ha hb) j]
    by_cases h : j < i + 1
    · rw [if_pos h, add_bit _ _ _ _ ha hb (by omega)]
      by_cases h2 : j < i
      · rw [if_pos h2, if_pos h2]
      · rw [if_neg h2, if_neg h2, show j - i = 0 by omega]
        show _ = (_ && q.a.getLsbD 0)
        have h3 : j < i + (n + 1) := by omega
        rw [low_nat, decide_eq_true h3, Bool.true_and]
    · rw [if_neg h, if_neg (by omega), show j - i = (j - (i + 1)) + 1 by omega, show i + 1 + n = i + (n + 1) by omega]
      rfl
set_option maxRecDepth 100000 in
theorem row4_list : pB (lo4 ⟨1#64, 0#64, 0#64, 0#64⟩) 512 512 = bO row4 512 := by
  refine bools_eq (n := 512) (pB_len _ _ _) (bO_len _ _) (fun j hj => ?_)
  have h := bits4_bit 512 ⟨1#64, 0#64, 0#64, 0#64⟩ 0 0 (by decide) j
  rw [show toN4 ⟨1#64, 0#64, 0#64, 0#64⟩ = ⟨1, 0, 0, 0⟩ from rfl, row4_is, if_neg (by omega)] at h
  rw [pB_get _ hj, bO_get _ hj, h, Nat.zero_add, Nat.sub_zero]
set_option maxRecDepth 100000 in
theorem rowS_list : pB (lo2 (LV2 24 16 37 (by decide) (by decide)) ⟨1#64, 0#64⟩) 256 256 = bO rowS 256 := by
  refine bools_eq (n := 256) (pB_len _ _ _) (bO_len _ _) (fun j hj => ?_)
  have h := bits2_bit 24 16 37 (by decide) (by decide) 256 ⟨1#64, 0#64⟩ 0 0 (by decide) j
  rw [show toN2 ⟨1#64, 0#64⟩ = ⟨1, 0⟩ from rfl, rowS_is, if_neg (by omega)] at h
  rw [pB_get _ hj, bO_get _ hj, h, Nat.zero_add, Nat.sub_zero]
set_option maxRecDepth 100000 in
theorem rowP_list : pB (lo2 (LV2 49 21 28 (by decide) (by decide)) ⟨1#64, 0#64⟩) 256 256 = bO rowP 256 := by
  refine bools_eq (n := 256) (pB_len _ _ _) (bO_len _ _) (fun j hj => ?_)
  have h := bits2_bit 49 21 28 (by decide) (by decide) 256 ⟨1#64, 0#64⟩ 0 0 (by decide) j
  rw [show toN2 ⟨1#64, 0#64⟩ = ⟨1, 0⟩ from rfl, rowP_is, if_neg (by omega)] at h
  rw [pB_get _ hj, bO_get _ hj, h, Nat.zero_add, Nat.sub_zero]
end Go.G2
namespace Go.G2
/-- the recurrence, of whose bits those below i are changed already -/
def rK (R X i : Nat) : Nat := R ^^^ X % 2 ^ i
theorem rK_bit (R X i j : Nat) : (rK R X i).testBit j = (R.testBit j ^^ (decide (j < i) && X.testBit j)) := by
  unfold rK; rw [Nat.testBit_xor, Nat.testBit_mod_two_pow]
theorem rK_at (R X i : Nat) : (rK R X i).testBit i = R.testBit i := by rw [rK_bit]; simp
theorem mul_bit (F e i : Nat) (h : e ≤ i) : (F * 2 ^ e).testBit i = F.testBit (i - e) := by
  rw [← Nat.shiftLeft_eq, Nat.testBit_shiftLeft]; simp [h]
theorem rK_start (R F e : Nat) : rK R (F * 2 ^ e) e = R := by
  unfold rK; rw [Nat.mul_mod_left, Nat.xor_zero]
theorem rK_next {R F e i n : Nat} (_ : i < n) (he : e ≤ i) (b : Bool) (hb : b = (R.testBit i != F.testBit (i - e))) : (bO (rK R (F * 2 ^ e) i) n).set i b = bO (rK R (F * 2 ^ e) (i + 1)) n := by
  refine bools_eq (n := n) (by rw [List.length_set, bO_len]) (bO_len _ _) (fun j hj => ?_)
  rw [bO_get _ hj, List.getD_eq_getElem?_getD, List.getElem?_set]
  by_cases e1 : i = j
  · subst e1
    rw [if_pos rfl, if_pos (by rw [bO_len]; exact hj), rK_bit, mul_bit F e i he, hb]
    cases R.testBit i <;> cases F.testBit (i - e) <;> simp
  · rw [if_neg e1, ← List.getD_eq_getElem?_getD, bO_get _ hj, rK_bit, rK_bit]
    congr 2
    exact decide_eq_decide.2 (by omega)
theorem rK_all (R X n : Nat) : bO (rK R X n) n = bO ((R ^^^ X) % 2 ^ n) n := by
  refine bools_eq (n := n) (bO_len _ _) (bO_len _ _) (fun j hj => ?_)
  rw [bO_get _ hj, bO_get _ hj, rK_bit, Nat.testBit_mod_two_pow, Nat.testBit_xor]
  simp [hj]
theorem bO_take (V : Nat) {n k : Nat} (h : k ≤ n) : (bO V n).take k = bO V k := by
  refine bools_eq (n := k) (by rw [List.length_take, bO_len]; omega) (bO_len _ _) (fun j hj => ?_)
  rw [List.getD_eq_getElem?_getD, List.getElem?_take, if_pos hj, ← List.getD_eq_getElem?_getD, bO_get _ (by omega), bO_get _ hj]
theorem bO_one (n : Nat) : (List.replicate (n + 1) false).set 0 true = bO 1 (n + 1) := by
  refine bools_eq (n := n + 1) (by rw [List.length_set, List.length_replicate]) (bO_len _ _) (fun j hj => ?_)
  rw [bO_get _ hj, List.getD_eq_getElem?_getD, List.getElem?_set]
  by_cases e : 0 = j
  · subst e; rw [if_pos rfl, if_pos (by rw [List.length_replicate]; omega)]; rfl
  · rw [if_neg e, List.getElem?_replicate, if_pos hj]
    have h1 : (1 : Nat).testBit j = false := by
      rw [show (1 : Nat) = 2 ^ 0 from rfl, Nat.testBit_two_pow]; simp; omega
    rw [h1]; rfl
theorem bm_inv (N V : Nat) : ∀ n, (bmRun N V n).d ≤ n ∧ 1 ≤ (bmRun N V n).e ∧ (bmRun N V n).e ≤ n + 1
  | 0 => ⟨Nat.le_refl _, Nat.le_refl _, Nat.le_refl _⟩
  | n + 1 => by
    obtain ⟨h1, h2, h3⟩ := bm_inv N V n
    show (bmStep N V n (bmRun N V n)).d ≤ n + 1 ∧ 1 ≤ (bmStep N V n (bmRun N V n)).e ∧ (bmStep N V n (bmRun N V n)).e ≤ n + 1 + 1
    unfold bmStep
    split
    · split
      · exact ⟨by show (bmRun N V n).d ≤ _; omega, by show 1 ≤ (bmRun N V n).e + 1; omega, by show (bmRun N V n).e + 1 ≤ _; omega⟩
      · exact ⟨by show n + 1 - (bmRun N V n).d ≤ _; omega, Nat.le_refl _, by show 1 ≤ _; omega⟩
    · exact ⟨by show (bmRun N V n).d ≤ _; omega, by show 1 ≤ (bmRun N V n).e + 1; omega, by show (bmRun N V n).e + 1 ≤ _; omega⟩
end Go.G2
namespace Go.Proofs.YtfaobdmoifnglaaGreat
open Go Go.RowKit Go.Bv Go.G2
set_option linter.unusedVariables false
set_option maxHeartbeats 1000000 in
theorem clone_b (a : Option Addr) (len cap : Nat) (l : List Bool) (w : World) (h : LRow w a len cap l) :
    Calls Tryz.prog 166 #[.slice a len cap] w fun e w' => ∃ v, e = .returned v ∧ w'.ownsRow w.heap.size 4 1 v len (l.map fun x => .bool x) ∧ New w w' := by
  obtain ⟨i0, hi, hz0, hz1, hz2⟩ := info_parts info_b1
  have hq : ∀ (w : World) (a : Option Addr) (n c n' c' : Nat), (binOp .eql 149 (.slice a n c) (.slice none n' c')).run Tryz.prog w = .ok (.bool a.isNone) w := fun w a n c n' c' => Lib.run_eql_slice_nil w _ _ a n c n' c' Tryz.underlying149
  cases a with
  | none =>
    obtain ⟨rfl, rfl⟩ := h.none rfl
    obtain rfl : l = [] := List.eq_nil_of_length_eq_zero h.len_eq
    go_enter Tryz.func166, Tryz.ntmps166
    go_wp2
    go_ret
    exact ⟨_, rfl, World.ownsRow_nil w _ _ 1, New.refl w⟩
  | some x =>
    have H := Lib.hid h
    clear h
    go_enter Tryz.func166, Tryz.ntmps166
    go_wp2_with (at_builtin; refine wpList_append_own _ rfl _ _ 149 rfl w.heap.size 4 i0 (.bool false) 1 1 Tryz.underlying149 hi hz0 hz1 hz2 rfl (by decide) _ 0 [] rfl (World.ownsRow_made w #[] 0 (Nat.le_refl _) (Nat.zero_le _) (by simp)) x len cap (l.map fun x => .bool x) rfl ?c1 ?c2 ?c3 ?c4 ?c5 ?c6 ?_)
    case c1 => rw [List.length_map, H.out.len_eq]; omega
    case c2 => intro j u hj; exact Lib.cell?_alloc_some _ (H.out.olds x rfl j u hj)
    case c3 => intro u hu; rw [List.mem_map] at hu; obtain ⟨y, _, rfl⟩ := hu; rfl
    case c4 => have := H.out.most; unfold maxLen; omega
    case c5 => have := H.out.most; omega
    case c6 => simp
    intro v' w1 how hgr _
    have how2 : w1.ownsRow w.heap.size 4 1 v' len (l.map fun x => .bool x) := by simpa using how
    have hn1 : New w w1 := ((New.refl w).alloc _).grown' hgr (fun k hk => by simp [Value.ownBlock] at hk; omega)
    clear how hgr
    go_wp2
    go_ret
    exact ⟨_, rfl, how2, hn1⟩
theorem two_rows (w : World) (K : Nat) (hK : K ≤ 1000000) :
    ((w.alloc (.cells (madeCells #[.bool false] K) 4)).alloc (.cells (madeCells #[.bool false] K) 4)).ownsRow w.heap.size 4 1 (.slice (some ⟨w.heap.size, 0, none⟩) K K) K ((List.replicate K false).map fun x => .bool x) ∧
    ((w.alloc (.cells (madeCells #[.bool false] K) 4)).alloc (.cells (madeCells #[.bool false] K) 4)).ownsRow w.heap.size 4 1 (.slice (some ⟨w.heap.size + 1, 0, none⟩) K K) K ((List.replicate K false).map fun x => .bool x) := by
  refine ⟨ow_new (ow_falses w K hK _ rfl) ((New.refl _).alloc _), ?_⟩
  have h := ow_falses (w.alloc (.cells (madeCells #[.bool false] K) 4)) K hK _ rfl
  rw [show (w.alloc (.cells (madeCells #[.bool false] K) 4)).heap.size = w.heap.size + 1 by simp] at h
  exact ow_base h (by omega)
set_option maxRecDepth 100000 in
set_option maxHeartbeats 4000000 in
theorem rule_q (a : Option Addr) (N c V : Nat) (w : World) (h : LRow w a N c (bO V N)) (hN : N ≤ 4096) (hd : 2 * (bmRun N V N).d ≤ N) :
    Calls Tryz.prog 143 #[.slice a N c] w fun e w' => ∃ a' c', e = .returned (.tuple #[.slice a' (tW (revB (bmRun N V N).R (bmRun N V N).d ((bmRun N V N).d + 1))).length c', .bool true]) ∧ QRow w' a' (tW (revB (bmRun N V N).R (bmRun N V N).d ((bmRun N V N).d + 1))).length c' (tW (revB (bmRun N V N).R (bmRun N V N).d ((bmRun N V N).d + 1))) ∧ New w w' := by
  have HA := Lib.hid h
  have HINV := Lib.hid (bm_inv N V)
  have HRUN : Hid (∀ n, bmRun N V (n + 1) = bmStep N V n (bmRun N V n)) := Lib.hid (fun n => rfl)
  have HR0 : Hid (bmRun N V 0 = ⟨1, 1, 0, 1⟩) := Lib.hid rfl
  obtain ⟨X, hX⟩ : ∃ X, bmRun N V = X := ⟨_, rfl⟩
  rw [hX] at HINV HRUN HR0 hd ⊢
  have HD := Lib.hid hd
  clear hX hd
  obtain ⟨K, hK⟩ : ∃ K, N + 1 = K := ⟨_, rfl⟩
  have hKi : (N : Int) + 1 = (K : Int) := by omega
  have HMK := Lib.hid (make_b1 K (by omega))
  clear h
  go_enter Tryz.func143, Tryz.ntmps143
  go_wp2_with fail
  go_step3
  go_wp2_with fail
  go_cut [4, 5] (fun c r wx => ∃ g1 g2, c = .slice (some ⟨g1, 0, none⟩) K K ∧ r = .slice (some ⟨g2, 0, none⟩) K K ∧ wx.ownsRow w.heap.size 4 1 (.slice (some ⟨g1, 0, none⟩) K K) K ((List.replicate K false).map fun x => .bool x) ∧ wx.ownsRow w.heap.size 4 1 (.slice (some ⟨g2, 0, none⟩) K K) K ((List.replicate K false).map fun x => .bool x) ∧ g1 ≠ g2 ∧ New w wx)
  case first =>
    have hmk : ∀ W : World, (Instr.makeSlice 149 (.int .i64 (K : Int)) (.int .i64 (K : Int))).run Tryz.prog W = .ok (.slice (some ⟨W.heap.size, 0, none⟩) K K) (W.alloc (.cells (madeCells #[.bool false] K) 4)) := fun W => HMK.out _ W rfl
    clear HMK
    have HKB : Hid (K ≤ 1000000) := Lib.hid (by omega)
    have HTW := Lib.hid (two_rows w K (by omega))
    have hwr : IntKind.i64.wrap (K : Int) = (K : Int) := wrap_i64 (by omega) (by omega)
    go_region_held3 (fun w' => New w w')
      ((first | with_reducible assumption | with_reducible exact (New.refl _).drew | with_reducible exact New.drew (by assumption) | with_reducible exact ((New.refl _).alloc _).drew | with_reducible exact (((New.refl _).drew).alloc _).drew | with_reducible exact ((New.refl _).drew).alloc _ | with_reducible exact (((New.refl _).alloc _).alloc _).drew | with_reducible exact ((New.refl _).alloc _).drew.alloc _ | with_reducible exact ((New.refl _).drew.alloc _).alloc _ | with_reducible exact New.alloc (by assumption) _))
      (fail)
    all_goals (
      go_wp2_with fail
      go_meet
      case rel => first
        | exact ⟨_, _, rfl, rfl, ow_new HTW.out.1 (New.refl _).drew, ow_new HTW.out.2 (New.refl _).drew, by omega, by with_reducible assumption⟩
        | exact ⟨_, _, rfl, rfl, ow_new HTW.out.2 (New.refl _).drew, ow_new HTW.out.1 (New.refl _).drew, by omega, by with_reducible assumption⟩)
  case rest =>
    obtain ⟨g1, g2, rfl, rfl, ho1, ho2, hg12, hn⟩ := hcut
    clear HMK
    have HG : Hid (w.heap.size ≤ g1 ∧ w.heap.size ≤ g2 ∧ g1 < wc.heap.size ∧ g2 < wc.heap.size) := Lib.hid (by
      have h1 := ow_in2 ho1
      have h2 := ow_in2 ho2
      exact ⟨h1.1, h2.1, h1.2, h2.2⟩)
    obtain ⟨d1, f1L⟩ := ow_bool ho1 (k := 0) (by omega)
    have ho3 := ow_set ho1 0 (.bool true)
    have ho4 := ow_far ho2 (a := ⟨g1, 0, none⟩) (by simp [Value.ownBlock]; exact fun e => hg12 e.symm) (.bool true)
    obtain ⟨d2, f2⟩ := ow_bool ho4 (k := 0) (by omega)
    have ho5 := ow_far ho3 (a := ⟨g2, 0, none⟩) (by simp [Value.ownBlock]; exact hg12) (.bool true)
    have ho6 := ow_set ho4 0 (.bool true)
    have hn2 : New w ((wc.setCell ⟨g1, 0, none⟩ (.bool true)).setCell ⟨g2, 0, none⟩ (.bool true)) := (hn.setCell HG.out.1 _).setCell HG.out.2.1 _
    rw [← List.map_set, ← hK, bO_one, hK] at ho5 ho6
    obtain ⟨W1, hW1⟩ : ∃ z, (wc.setCell ⟨g1, 0, none⟩ (.bool true)).setCell ⟨g2, 0, none⟩ (.bool true) = z := ⟨_, rfl⟩
    rw [hW1] at ho5 ho6 hn2
    have HW1 := Lib.hid hW1
    have HO1 := Lib.hid ho5
    have HO2 := Lib.hid ho6
    have HN := Lib.hid hn2
    have HG12 := Lib.hid hg12
    have HK := Lib.hid hK
    clear ho1 ho2 ho3 ho4 ho5 ho6 hn hn2 hW1 hg12
    go_wp2_with fail
    rw [HW1.out]
    clear d1 d2 f1L f2 HW1
    go_wp2_with fail
    go_step3
    go_wp2_with fail
    go_loopw [5, 6, 7, 25] (fun fv dv ev iv wr => ∃ n R F d e gf cf : Nat, n ≤ N ∧ X n = ⟨R, F, d, e⟩ ∧ fv = .slice (some ⟨gf, 0, none⟩) K cf ∧ dv = .int .i64 (d : Int) ∧ ev = .int .i64 (e : Int) ∧ iv = .int .i64 (n : Int) ∧ wr.ownsRow w.heap.size 4 1 (.slice (some ⟨g1, 0, none⟩) K K) K ((bO R K).map fun x => .bool x) ∧ wr.ownsRow w.heap.size 4 1 (.slice (some ⟨gf, 0, none⟩) K cf) K ((bO F K).map fun x => .bool x) ∧ gf ≠ g1 ∧ New w wr) (fun _ _ _ iv _ => N - (intOf iv).toNat)
    case atStart => exact ⟨0, 1, 1, 0, 1, g2, K, Nat.zero_le _, HR0.out, rfl, rfl, rfl, rfl, HO1.out, HO2.out, fun e => HG12.out e.symm, HN.out⟩
    case round =>
      clear HO1 HO2 HN HR0
      obtain ⟨n, R, F, d, e, gf, cf, hn, hx, rfl, rfl, rfl, rfl, ho1, ho2, hgf, hnew⟩ := hrel
      obtain ⟨wq, hwq⟩ : ∃ z, z = wr := ⟨_, rfl⟩
      rw [← hwq] at ho1 ho2 hnew ⊢
      clear hwq
      have HX := Lib.hid hx
      have HO1 := Lib.hid ho1
      have HO2 := Lib.hid ho2
      have HN := Lib.hid hnew
      have HGF := Lib.hid hgf
      clear hx ho1 ho2 hnew hgf
      by_cases hlt : n < N
      · have hi1 : (n : Int) < (N : Int) := by omega
        have hi2 : (0 : Int) ≤ (n : Int) := by omega
        obtain ⟨v1, v2, v3⟩ := HINV.out n
        have HXN := Lib.hid (HRUN.out n)
        rw [HX.out] at v1 v2 v3 HXN
        replace v1 : d ≤ n := v1
        replace v2 : 1 ≤ e := v2
        replace v3 : e ≤ n + 1 := v3
        obtain ⟨ba, oa, rfl, haq⟩ := HA.out.addr (by omega)
        clear haq
        obtain ⟨D1, hD1⟩ : ∃ D1, d + 1 = D1 := ⟨_, rfl⟩
        have hD1i : (d : Int) + 1 = (D1 : Int) := by omega
        obtain ⟨N1, hN1⟩ : ∃ N1, n + 1 = N1 := ⟨_, rfl⟩
        have hN1i : (n : Int) + 1 = (N1 : Int) := by omega
        have hcn := HA.out.le
        have s1 : (0 : Int) ≤ (D1 : Int) := by omega
        have s2 : (D1 : Int) ≤ (K : Int) := by omega
        have s3 : (0 : Int) ≤ (N1 : Int) := by omega
        have s4 : (N1 : Int) ≤ (c : Int) := by omega
        obtain ⟨_, _, he1, hl1⟩ := LRow.of_owns HO1.out (by omega)
        cases he1
        have hl2 := hl1.cut D1 (by omega)
        rw [bO_take _ (show D1 ≤ K by omega)] at hl2
        have hl3 := ((HA.out).stay HN.out).cut N1 (by omega)
        rw [bO_take _ (show N1 ≤ N by omega)] at hl3
        have HDF := Lib.hid (fun w' (hn' : New wq w') => differs_q _ _ D1 N1 K c R V w' (hl2.stay hn') (hl3.stay hn') (by omega) (by omega))
        rw [show N1 - 1 = n by omega, ← hD1] at HDF
        rw [hD1] at HDF
        have HXQ : Hid (bmStep N V n ⟨R, F, d, e⟩ = if dfB R V n D1 = true then (if 2 * d > n then ⟨(R ^^^ F * 2 ^ e) % 2 ^ K, F, d, e + 1⟩ else ⟨(R ^^^ F * 2 ^ e) % 2 ^ K, R, n + 1 - d, 1⟩) else ⟨R, F, d, e + 1⟩) := Lib.hid (by rw [← hD1, ← HK.out]; rfl)
        have HCL := Lib.hid (fun w' (hn' : New wq w') => clone_b _ _ _ _ w' (hl1.stay hn'))
        have hrK : ∀ i, e ≤ i → (rK R (F * 2 ^ e) i).testBit i = R.testBit i := fun i _ => rK_at _ _ _
        have hN1b : N1 ≤ 4097 := by omega
        have HD1 := Lib.hid hD1
        have HN1 := Lib.hid hN1
        clear hl1 hl2 hl3 hD1 hN1 hcn
        rcases hq : dfB R V n D1 with _ | _
        · rw [hq] at HDF HXQ
          have HXF : Hid (X (n + 1) = ⟨R, F, d, e + 1⟩) := Lib.hid (by rw [HXN.out, HXQ.out]; rfl)
          clear HXQ HXN HCL hq hrK
          go_wp2_with fail
          go_quiet (first
            | (go_at_call 165; refine Calls.quiet_of_same (HDF.out _ (by first | with_reducible exact New.refl _ | with_reducible exact (New.refl _).drew | with_reducible exact (New.refl _).drewN _))))
          go_wp2
          exact ⟨⟨n + 1, R, F, d, e + 1, gf, cf, by omega, HXF.out, rfl, rfl, by go_num, by go_num, ow_new HO1.out ((New.refl _).drewN _), ow_new HO2.out ((New.refl _).drewN _), HGF.out, HN.out.drewN _⟩, by simp [intOf] <;> omega⟩
        · rw [hq] at HDF HXQ
          have HXQ2 : Hid (X (n + 1) = (if 2 * d > n then ⟨(R ^^^ F * 2 ^ e) % 2 ^ K, F, d, e + 1⟩ else ⟨(R ^^^ F * 2 ^ e) % 2 ^ K, R, n + 1 - d, 1⟩ : BM)) := Lib.hid (by rw [HXN.out, HXQ.out, if_pos rfl])
          have HST : Hid (rK R (F * 2 ^ e) e = R) := Lib.hid (rK_start R F e)
          have HRK := Lib.hid hrK
          have HFB : Hid (∀ i, e ≤ i → (F * 2 ^ e).testBit i = F.testBit (i - e)) := Lib.hid (fun i hi => mul_bit F e i hi)
          have HNX : Hid (∀ i, i < K → e ≤ i → ∀ b, b = (R.testBit i != F.testBit (i - e)) → (bO (rK R (F * 2 ^ e) i) K).set i b = bO (rK R (F * 2 ^ e) (i + 1)) K) := Lib.hid (fun i h1 h2 b hb => rK_next h1 h2 b hb)
          have HAL : Hid (bO (rK R (F * 2 ^ e) K) K = bO ((R ^^^ F * 2 ^ e) % 2 ^ K) K) := Lib.hid (rK_all _ _ _)
          obtain ⟨Y, hY⟩ : ∃ Y, rK R (F * 2 ^ e) = Y := ⟨_, rfl⟩
          rw [hY] at HST HRK HNX HAL
          obtain ⟨Z, hZ⟩ : ∃ Z, (R ^^^ F * 2 ^ e) % 2 ^ K = Z := ⟨_, rfl⟩
          rw [hZ] at HAL HXQ2
          clear HXQ HXN hq hrK hY hZ HFB
          go_wp2_with fail
          go_quiet (first
            | (go_at_call 165; refine Calls.quiet_of_same (HDF.out _ (by first | with_reducible exact New.refl _ | with_reducible exact (New.refl _).drew | with_reducible exact (New.refl _).drewN _))))
          clear HDF
          have hnq : New wq (wq.drewN nq) := (New.refl _).drewN _
          obtain ⟨wd, hwd⟩ : ∃ z, wq.drewN nq = z := ⟨_, rfl⟩
          rw [hwd] at hnq ⊢
          have HNQ := Lib.hid hnq
          clear hnq hwd
          go_wp2_with fail
          refine (HCL.out _ HNQ.out).mono ?_
          rintro e9 w3 ⟨v, rfl, ho3, hn3⟩
          obtain ⟨g3, c3, rfl, hg3a, hg3b, hg3c, hg3d⟩ := ow_shape ho3 (by omega)
          have hn4 := HNQ.out.trans hn3
          have HG3 : Hid (g3 ≠ g1 ∧ g3 ≠ gf) := Lib.hid (by
            have h1 := ow_in2 HO1.out
            have h2 := ow_in2 HO2.out
            have h3 := HNQ.out.le
            constructor <;> omega)
          have HO31 := Lib.hid (ow_new HO1.out hn4)
          have HO32 := Lib.hid (ow_new HO2.out hn4)
          have HO33 := Lib.hid (ow_base ho3 (show w.heap.size ≤ wd.heap.size by have := HN.out.le; have := HNQ.out.le; omega))
          have HN3 := Lib.hid (HN.out.trans hn4)
          clear ho3 hn3 hn4 HNQ HCL HO1 HO2 HN hg3a hg3b hg3c hg3d
          go_wp2_with fail
          go_loopw [10] (fun iv wr => ∃ i : Nat, e ≤ i ∧ i ≤ K ∧ iv = .int .i64 (i : Int) ∧ wr.ownsRow w.heap.size 4 1 (.slice (some ⟨g1, 0, none⟩) K K) K ((bO (Y i) K).map fun x => .bool x) ∧ wr.ownsRow w.heap.size 4 1 (.slice (some ⟨gf, 0, none⟩) K cf) K ((bO F K).map fun x => .bool x) ∧ wr.ownsRow w.heap.size 4 1 (.slice (some ⟨g3, 0, none⟩) K c3) K ((bO R K).map fun x => .bool x) ∧ New w wr) (fun iv _ => K - (intOf iv).toNat)
          case atStart => exact ⟨e, Nat.le_refl _, by omega, rfl, by rw [HST.out]; exact HO31.out, HO32.out, HO33.out, HN3.out⟩
          case round =>
            clear HO31 HO32 HO33 HN3
            obtain ⟨i, hei, hiK, rfl, p1, p2, p3, pn⟩ := hrel
            obtain ⟨wi, hwi⟩ : ∃ z, z = wr := ⟨_, rfl⟩
            rw [← hwi] at p1 p2 p3 pn ⊢
            clear hwi
            have HP1 := Lib.hid p1
            have HP2 := Lib.hid p2
            have HP3 := Lib.hid p3
            have HPN := Lib.hid pn
            clear p1 p2 p3 pn
            by_cases hlk : i < K
            · have j1 : (i : Int) < (K : Int) := by omega
              have j2 : (0 : Int) ≤ (i : Int) := by omega
              obtain ⟨k, hk⟩ : ∃ k, i - e = k := ⟨_, rfl⟩
              have j3 : (i : Int) - (e : Int) = (k : Int) := by omega
              have j4 : (0 : Int) ≤ (k : Int) := by omega
              have j5 : (k : Int) < (K : Int) := by omega
              obtain ⟨d1, f1L⟩ := ow_bool HP1.out hlk
              obtain ⟨d2, f2⟩ := ow_bool HP2.out (show k < K by omega)
              rw [bO_get _ hlk, HRK.out i hei] at d1
              rw [bO_get _ (show k < K by omega)] at d2
              have HNX2 := Lib.hid (HNX.out i hlk hei)
              rw [hk] at HNX2
              obtain ⟨x, hx⟩ : ∃ x, R.testBit i = x := ⟨_, rfl⟩
              obtain ⟨y, hy⟩ : ∃ y, F.testBit k = y := ⟨_, rfl⟩
              rw [hx, hy] at HNX2
              rw [hx] at d1
              rw [hy] at d2
              have HP4 : Hid (∀ b, b = (x != y) → ((wi.setCell ⟨g1, i, none⟩ (.bool b)).drew).ownsRow w.heap.size 4 1 (.slice (some ⟨g1, 0, none⟩) K K) K ((bO (Y (i + 1)) K).map fun x => .bool x)) := Lib.hid (fun b hb => by
                rw [← HNX2.out b hb, List.map_set]; exact ow_new (ow_set HP1.out i _) (New.refl _).drew)
              have HP5 : Hid (∀ b, ((wi.setCell ⟨g1, i, none⟩ (.bool b)).drew).ownsRow w.heap.size 4 1 (.slice (some ⟨gf, 0, none⟩) K cf) K ((bO F K).map fun x => .bool x)) := Lib.hid (fun b => ow_new (ow_far HP2.out (by simp [Value.ownBlock]; exact HGF.out) _) (New.refl _).drew)
              have HP6 : Hid (∀ b, ((wi.setCell ⟨g1, i, none⟩ (.bool b)).drew).ownsRow w.heap.size 4 1 (.slice (some ⟨g3, 0, none⟩) K c3) K ((bO R K).map fun x => .bool x)) := Lib.hid (fun b => ow_new (ow_far HP3.out (by simp [Value.ownBlock]; exact HG3.out.1) _) (New.refl _).drew)
              have HP7 : Hid (∀ b, New w ((wi.setCell ⟨g1, i, none⟩ (.bool b)).drew)) := Lib.hid (fun b => (HPN.out.setCell (by exact HG.out.1) _).drew)
              clear HP1 HP2 HP3 HPN hx hy HNX2 hk
              have jw : wrap64 ((i : Int) - (e : Int)) = (k : Int) := by rw [j3]; exact wrap_64 (by omega) (by omega)
              cases x <;> cases y
              all_goals (
                go_wp2_with fail
                go_region
                clear d1 d2 f1L f2
                go_wp2
                exact ⟨⟨i + 1, by omega, by omega, by go_num, HP4.out _ rfl, HP5.out _, HP6.out _, HP7.out _⟩, by simp [intOf] <;> omega⟩)
            · obtain rfl : i = K := by omega
              replace HP1 := Lib.hid HP1.out
              rw [HAL.out] at HP1
              clear HNX HAL HRK HST hlk hiK
              by_cases hd2 : 2 * d > n
              · have q1 : (n : Int) < 2 * (d : Int) := by omega
                have HXF : Hid (X (n + 1) = ⟨Z, F, d, e + 1⟩) := Lib.hid (by rw [HXQ2.out, if_pos hd2])
                clear HXQ2
                go_wp2
                exact ⟨⟨n + 1, Z, F, d, e + 1, gf, cf, by omega, HXF.out, rfl, rfl, by go_num, by go_num, HP1.out, HP2.out, HGF.out, HPN.out⟩, by simp [intOf] <;> omega⟩
              · have q1 : ¬ (n : Int) < 2 * (d : Int) := by omega
                have q2 : 2 * (d : Int) ≤ (n : Int) := by omega
                have HXF : Hid (X (n + 1) = ⟨Z, R, n + 1 - d, 1⟩) := Lib.hid (by rw [HXQ2.out, if_neg hd2])
                clear HXQ2
                go_wp2
                exact ⟨⟨n + 1, Z, R, n + 1 - d, 1, g3, c3, by omega, HXF.out, rfl, by go_num, by go_num, by go_num, HP1.out, HP3.out, HG3.out.1, HPN.out⟩, by simp [intOf] <;> omega⟩
      · obtain rfl : n = N := by omega
        obtain ⟨v1, v2, v3⟩ := HINV.out n
        rw [HX.out] at v1 v2 v3 HD
        replace v1 : d ≤ n := v1
        have hdd : 2 * d ≤ n := HD.out
        obtain ⟨D1, hD1⟩ : ∃ D1, d + 1 = D1 := ⟨_, rfl⟩
        have hD1i : (d : Int) + 1 = (D1 : Int) := by omega
        have s1 : (0 : Int) ≤ (D1 : Int) := by omega
        have s2 : (D1 : Int) ≤ (K : Int) := by omega
        have q1 : ¬ (n : Int) < 2 * (d : Int) := by omega
        obtain ⟨_, _, he1, hl1⟩ := LRow.of_owns HO1.out (by omega)
        cases he1
        have hl2 := hl1.cut D1 (by omega)
        rw [bO_take _ (show D1 ≤ K by omega)] at hl2
        have HPO := Lib.hid (polynomial_q _ D1 K R wq hl2 (by omega) (by omega))
        rw [show D1 - 1 = d by omega, ← hD1] at HPO
        rw [hD1] at HPO
        have HE : Hid (tW (revB (X n).R (X n).d ((X n).d + 1)) = tW (revB R d D1)) := Lib.hid (by rw [HX.out, ← hD1])
        clear hl1 hl2 hD1 HO1 HO2 v2 v3 HD
        go_wp2_with fail
        refine HPO.out.mono ?_
        rintro e9 w3 ⟨a1, c1, rfl, hq3, hn3⟩
        have HQ := Lib.hid hq3
        have HN3 := Lib.hid (HN.out.trans hn3)
        clear hq3 hn3 HPO
        go_wp2
        rw [Exit.noGoto_ret]
        go_ret2
        rw [HE.out]
        exact ⟨_, _, rfl, HQ.out, HN3.out⟩
end Go.Proofs.YtfaobdmoifnglaaGreat
namespace Go.Proofs.YtfaobdmoifnglaaGreat
open Go Go.RowKit Go.Bv Go.G2
set_option linter.unusedVariables false
theorem rule4 (a : Option Addr) (c : Nat) (w : World) (h : LRow w a 512 c (bO row4 512)) :
    Calls Tryz.prog 143 #[.slice a 512 c] w fun e w' => ∃ a' c', e = .returned (.tuple #[.slice a' (tW pol4).length c', .bool true]) ∧ QRow w' a' (tW pol4).length c' (tW pol4) ∧ New w w' := by
  have hd : 2 * (bmRun 512 row4 512).d ≤ 512 := by rw [bm4.2]; omega
  have hr := rule_q a 512 c row4 w h (by omega) hd
  rw [bm4.1, bm4.2, rev4] at hr
  exact hr
theorem ruleS (a : Option Addr) (c : Nat) (w : World) (h : LRow w a 256 c (bO rowS 256)) :
    Calls Tryz.prog 143 #[.slice a 256 c] w fun e w' => ∃ a' c', e = .returned (.tuple #[.slice a' (tW polS).length c', .bool true]) ∧ QRow w' a' (tW polS).length c' (tW polS) ∧ New w w' := by
  have hd : 2 * (bmRun 256 rowS 256).d ≤ 256 := by rw [bmS.2]; omega
  have hr := rule_q a 256 c rowS w h (by omega) hd
  rw [bmS.1, bmS.2, revS] at hr
  exact hr
theorem ruleP (a : Option Addr) (c : Nat) (w : World) (h : LRow w a 256 c (bO rowP 256)) :
    Calls Tryz.prog 143 #[.slice a 256 c] w fun e w' => ∃ a' c', e = .returned (.tuple #[.slice a' (tW polP).length c', .bool true]) ∧ QRow w' a' (tW polP).length c' (tW polP) ∧ New w w' := by
  have hd : 2 * (bmRun 256 rowP 256).d ≤ 256 := by rw [bmP.2]; omega
  have hr := rule_q a 256 c rowP w h (by omega) hd
  rw [bmP.1, bmP.2, revP] at hr
  exact hr
set_option maxRecDepth 100000 in
theorem bits4_lit (w : World) :
    Calls Tryz.prog 158 #[.agg #[.int .u64 1, .int .u64 0, .int .u64 0, .int .u64 0], .int .i64 512] w fun e w' => ∃ a c, e = .returned (.slice a 512 c) ∧ LRow w' a 512 c (bO row4 512) ∧ New w w' := by
  have h := bits4_q ⟨1#64, 0#64, 0#64, 0#64⟩ 512 (by omega) w
  rw [row4_list] at h
  refine Calls.mono h ?_
  rintro e w' ⟨v, rfl, ho, hn⟩
  obtain ⟨a, c, rfl, hl⟩ := LRow.of_owns ho (by omega)
  exact ⟨a, c, rfl, hl, hn⟩
set_option maxRecDepth 100000 in
theorem bitsS_lit (w : World) :
    Calls Tryz.prog 144 #[.int .i64 5, .agg #[.int .u64 1, .int .u64 0], .int .i64 256] w fun e w' => ∃ a c, e = .returned (.slice a 256 c) ∧ LRow w' a 256 c (bO rowS 256) ∧ New w w' := by
  have h := bits2_q (LV2 24 16 37 (by decide) (by decide)) 5 step_5L ⟨1#64, 0#64⟩ 256 (by omega) w
  rw [rowS_list] at h
  refine Calls.mono h ?_
  rintro e w' ⟨v, rfl, ho, hn⟩
  obtain ⟨a, c, rfl, hl⟩ := LRow.of_owns ho (by omega)
  exact ⟨a, c, rfl, hl, hn⟩
set_option maxRecDepth 100000 in
theorem bitsP_lit (w : World) :
    Calls Tryz.prog 144 #[.int .i64 6, .agg #[.int .u64 1, .int .u64 0], .int .i64 256] w fun e w' => ∃ a c, e = .returned (.slice a 256 c) ∧ LRow w' a 256 c (bO rowP 256) ∧ New w w' := by
  have h := bits2_q (LV2 49 21 28 (by decide) (by decide)) 6 step_6L ⟨1#64, 0#64⟩ 256 (by omega) w
  rw [rowP_list] at h
  refine Calls.mono h ?_
  rintro e w' ⟨v, rfl, ho, hn⟩
  obtain ⟨a, c, rfl, hl⟩ := LRow.of_owns ho (by omega)
  exact ⟨a, c, rfl, hl, hn⟩
set_option maxRecDepth 100000 in
set_option maxHeartbeats 1000000 in
theorem xosh_q (w : World) : Calls Tryz.prog 137 #[] w fun e w' => ∃ a c, e = .returned (.slice a (tW pol4).length c) ∧ QRow w' a (tW pol4).length c (tW pol4) ∧ New w w' := by
  have HR := Lib.hid rule4
  obtain ⟨l, hl⟩ : ∃ l, tW pol4 = l := ⟨_, rfl⟩
  rw [hl] at HR ⊢
  clear hl
  go_enter Tryz.func137, Tryz.ntmps137
  go_wp2_with fail
  refine (bits4_lit _).mono ?_
  rintro e w2 ⟨a, c, rfl, hq, hn⟩
  have HQ := Lib.hid (HR.out a c w2 hq)
  have HN := Lib.hid hn
  clear hq hn HR
  go_wp2_with fail
  refine HQ.out.mono ?_
  rintro e w3 ⟨a2, c2, rfl, hq2, hn2⟩
  have HQ2 := Lib.hid hq2
  have HN2 := Lib.hid (HN.out.trans hn2)
  clear hq2 hn2 HQ HN
  go_wp2
  go_ret
  exact ⟨_, _, rfl, HQ2.out, HN2.out⟩
set_option maxRecDepth 100000 in
set_option maxHeartbeats 1000000 in
theorem xoro_S (w : World) : Calls Tryz.prog 112 #[.int .i64 5] w fun e w' => ∃ a c, e = .returned (.slice a (tW polS).length c) ∧ QRow w' a (tW polS).length c (tW polS) ∧ New w w' := by
  have HR := Lib.hid ruleS
  obtain ⟨l, hl⟩ : ∃ l, tW polS = l := ⟨_, rfl⟩
  rw [hl] at HR ⊢
  clear hl
  go_enter Tryz.func112, Tryz.ntmps112
  go_wp2_with fail
  refine (bitsS_lit _).mono ?_
  rintro e w2 ⟨a, c, rfl, hq, hn⟩
  have HQ := Lib.hid (HR.out a c w2 hq)
  have HN := Lib.hid hn
  clear hq hn HR
  go_wp2_with fail
  refine HQ.out.mono ?_
  rintro e w3 ⟨a2, c2, rfl, hq2, hn2⟩
  have HQ2 := Lib.hid hq2
  have HN2 := Lib.hid (HN.out.trans hn2)
  clear hq2 hn2 HQ HN
  go_wp2
  go_ret
  exact ⟨_, _, rfl, HQ2.out, HN2.out⟩
set_option maxRecDepth 100000 in
set_option maxHeartbeats 1000000 in
theorem xoro_P (w : World) : Calls Tryz.prog 112 #[.int .i64 6] w fun e w' => ∃ a c, e = .returned (.slice a (tW polP).length c) ∧ QRow w' a (tW polP).length c (tW polP) ∧ New w w' := by
  have HR := Lib.hid ruleP
  obtain ⟨l, hl⟩ : ∃ l, tW polP = l := ⟨_, rfl⟩
  rw [hl] at HR ⊢
  clear hl
  go_enter Tryz.func112, Tryz.ntmps112
  go_wp2_with fail
  refine (bitsP_lit _).mono ?_
  rintro e w2 ⟨a, c, rfl, hq, hn⟩
  have HQ := Lib.hid (HR.out a c w2 hq)
  have HN := Lib.hid hn
  clear hq hn HR
  go_wp2_with fail
  refine HQ.out.mono ?_
  rintro e w3 ⟨a2, c2, rfl, hq2, hn2⟩
  have HQ2 := Lib.hid hq2
  have HN2 := Lib.hid (HN.out.trans hn2)
  clear hq2 hn2 HQ HN
  go_wp2
  go_ret
  exact ⟨_, _, rfl, HQ2.out, HN2.out⟩
theorem xoro_o (k : Int) (h5 : (k == 5) = false) (h6 : (k == 6) = false) (w : World) : Calls Tryz.prog 112 #[.int .i64 k] w fun e w' => e = .returned (.slice none 0 0) ∧ w' = w := by
  have g5 : (k != 5) = true := by rw [bne, h5]; rfl
  have g6 : (k != 6) = true := by rw [bne, h6]; rfl
  go_enter Tryz.func112, Tryz.ntmps112
  go_wp2
  go_ret
  exact ⟨rfl, rfl⟩
end Go.Proofs.YtfaobdmoifnglaaGreat
end
section
/- The law Gf2Powers. -/
namespace Go.Proofs.YtfaobdmoifnglaaGreat
open Go Go.RowKit Go.Bv Go.G2
set_option linter.unusedVariables false
theorem four_of (X : Nat) (h : X < 2 ^ 256) : four (BitVec.ofNat 64 X) (BitVec.ofNat 64 (X / 2 ^ 64)) (BitVec.ofNat 64 (X / 2 ^ 128)) (BitVec.ofNat 64 (X / 2 ^ 192)) = X := by
  obtain ⟨e1, e2, e3, _⟩ := div64s X
  rw [p256] at h
  unfold four
  rw [e1, e2, e3, BitVec.toNat_ofNat, BitVec.toNat_ofNat, BitVec.toNat_ofNat, BitVec.toNat_ofNat, p64]
  omega
theorem four_low (x : BitVec 64) : four x 0#64 0#64 0#64 = x.toNat := by unfold four; simp
end Go.Proofs.YtfaobdmoifnglaaGreat
end
