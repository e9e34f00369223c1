/- Contracts of layer 21: shapes, the lowest bits, sums. -/
import Derived.Test.YtfiihbknkglggaaWidN
import Derived.Test.YtfiihbknkglggaaBitQ
import Derived.Test.YtfiihbknkglggaaWidS
import Derived.Test.YtfiihbknkglggaaClass
import Derived.Deep.RegionHeld3
import Derived.Deep.DeepCutAuto
namespace Go.Bv
open Go Go.RowKit
theorem boxes2 (w : World) (A0 A1 : Obj) : (((w.alloc A0).alloc A1).heap[w.heap.size]? = some A0 ∧ ((w.alloc A0).alloc A1).heap[w.heap.size+ 1]? = some A1) ∧ New w ((w.alloc A0).alloc A1) := by
  have e1 : (w.alloc A0).heap.size = w.heap.size + 1 := by simp
  have e2 : ((w.alloc A0).alloc A1).heap.size = w.heap.size + 1 + 1 := by simp
  exact ⟨⟨(((((New.refl (w.alloc A0))).alloc A1)).block _ (by rw [e1]; omega)).trans (heap_alloc_new _ _), (((New.refl ((w.alloc A0).alloc A1))).block _ (by rw [e2]; omega)).trans (by rw [← e1]; exact heap_alloc_new _ _)⟩, (((New.refl w).alloc A0).alloc A1)⟩
theorem boxes3 (w : World) (A0 A1 A2 : Obj) : ((((w.alloc A0).alloc A1).alloc A2).heap[w.heap.size]? = some A0 ∧ (((w.alloc A0).alloc A1).alloc A2).heap[w.heap.size+ 1]? = some A1 ∧ (((w.alloc A0).alloc A1).alloc A2).heap[w.heap.size+ 1+ 1]? = some A2) ∧ New w (((w.alloc A0).alloc A1).alloc A2) := by
  have e1 : (w.alloc A0).heap.size = w.heap.size + 1 := by simp
  have e2 : ((w.alloc A0).alloc A1).heap.size = w.heap.size + 1 + 1 := by simp
  have e3 : (((w.alloc A0).alloc A1).alloc A2).heap.size = w.heap.size + 1 + 1 + 1 := by simp
  exact ⟨⟨(((((((New.refl (w.alloc A0))).alloc A1)).alloc A2)).block _ (by rw [e1]; omega)).trans (heap_alloc_new _ _), (((((New.refl ((w.alloc A0).alloc A1))).alloc A2)).block _ (by rw [e2]; omega)).trans (by rw [← e1]; exact heap_alloc_new _ _), (((New.refl (((w.alloc A0).alloc A1).alloc A2))).block _ (by rw [e3]; omega)).trans (by rw [← e2]; exact heap_alloc_new _ _)⟩, ((((New.refl w).alloc A0).alloc A1).alloc A2)⟩
theorem boxes4 (w : World) (A0 A1 A2 A3 : Obj) : (((((w.alloc A0).alloc A1).alloc A2).alloc A3).heap[w.heap.size]? = some A0 ∧ ((((w.alloc A0).alloc A1).alloc A2).alloc A3).heap[w.heap.size+ 1]? = some A1 ∧ ((((w.alloc A0).alloc A1).alloc A2).alloc A3).heap[w.heap.size+ 1+ 1]? = some A2 ∧ ((((w.alloc A0).alloc A1).alloc A2).alloc A3).heap[w.heap.size+ 1+ 1+ 1]? = some A3) ∧ New w ((((w.alloc A0).alloc A1).alloc A2).alloc A3) := by
  have e1 : (w.alloc A0).heap.size = w.heap.size + 1 := by simp
  have e2 : ((w.alloc A0).alloc A1).heap.size = w.heap.size + 1 + 1 := by simp
  have e3 : (((w.alloc A0).alloc A1).alloc A2).heap.size = w.heap.size + 1 + 1 + 1 := by simp
  have e4 : ((((w.alloc A0).alloc A1).alloc A2).alloc A3).heap.size = w.heap.size + 1 + 1 + 1 + 1 := by simp
  exact ⟨⟨(((((((((New.refl (w.alloc A0))).alloc A1)).alloc A2)).alloc A3)).block _ (by rw [e1]; omega)).trans (heap_alloc_new _ _), (((((((New.refl ((w.alloc A0).alloc A1))).alloc A2)).alloc A3)).block _ (by rw [e2]; omega)).trans (by rw [← e1]; exact heap_alloc_new _ _), (((((New.refl (((w.alloc A0).alloc A1).alloc A2))).alloc A3)).block _ (by rw [e3]; omega)).trans (by rw [← e2]; exact heap_alloc_new _ _), (((New.refl ((((w.alloc A0).alloc A1).alloc A2).alloc A3))).block _ (by rw [e4]; omega)).trans (by rw [← e3]; exact heap_alloc_new _ _)⟩, (((((New.refl w).alloc A0).alloc A1).alloc A2).alloc A3)⟩
theorem hi_mod (N : Nat) : hiN (N % 2 ^ 128) = hiN N := by
  apply BitVec.eq_of_toNat_eq
  unfold hiN
  rw [BitVec.toNat_ofNat, BitVec.toNat_ofNat]
  omega
theorem lo_mod (N : Nat) : loN (N % 2 ^ 128) = loN N := by
  apply BitVec.eq_of_toNat_eq
  unfold loN
  rw [BitVec.toNat_ofNat, BitVec.toNat_ofNat]
  omega
theorem low_cut (A n : Nat) (hn : n ≤ 128) : A * 2 ^ (128 - n) % 2 ^ 128 / 2 ^ (128 - n) = A % 2 ^ n := by
  have e : 2 ^ 128 = 2 ^ n * 2 ^ (128 - n) := by rw [← Nat.pow_add]; congr 1; omega
  rw [e, Nat.mul_mod_mul_right, Nat.mul_div_cancel _ (Nat.two_pow_pos _)]
end Go.Bv
namespace Go.Proofs.Ytfiihbknkglggaa
open Go.RowKit Go.Bv
set_option linter.unusedVariables false
set_option maxHeartbeats 1000000 in
theorem lowest_a (A n : Nat) (hA : A < 2 ^ 128) (hn : n ≤ 128) (w : World) : Calls Try.prog 34 #[.agg #[.int .u64 (W64 (hiN (A))), .int .u64 (W64 (loN (A)))], .int .i64 (n : Int)] w fun e w' => e = .returned (.agg #[.int .u64 (W64 (hiN (A % 2 ^ n))), .int .u64 (W64 (loN (A % 2 ^ n)))]) ∧ New w w' := by
  have h1 := fun w => shl_n A (128 - n) hA (by omega) w
  rw [← hi_mod (A * 2 ^ (128 - n)), ← lo_mod (A * 2 ^ (128 - n))] at h1
  have h2 := fun w => shr_n (A * 2 ^ (128 - n) % 2 ^ 128) (128 - n) (Nat.mod_lt _ (Nat.two_pow_pos _)) (by omega) w
  rw [low_cut A n hn] at h2
  rw [show ((128 - n : Nat) : Int) = 128 - (n : Int) by omega] at h1 h2
  have hw : wrap64 (128 - (n : Int)) = 128 - (n : Int) := by unfold wrap64; omega
  have H1 := Lib.hid h1
  have H2 := Lib.hid h2
  generalize A * 2 ^ (128 - n) % 2 ^ 128 = M at *
  generalize A % 2 ^ n = R at *
  clear h1 h2 hA hn
  obtain ⟨hbl, HNN⟩ := boxes2 w (.cells #[.int .u64 (W64 (hiN (A))), .int .u64 (W64 (loN (A)))] 24) (.cells #[.int .u64 0, .int .u64 0] 24)
  obtain ⟨hb0, hb1⟩ := hbl
  have HN := Lib.hid HNN
  obtain ⟨w0, hw0⟩ : ∃ w0, (((w.alloc (.cells #[.int .u64 (W64 (hiN (A))), .int .u64 (W64 (loN (A)))] 24))).alloc (.cells #[.int .u64 0, .int .u64 0] 24)) = w0 := ⟨_, rfl⟩
  rw [hw0] at HN hb0 hb1
  have HW0 := Lib.hid hw0
  have HB0 := Lib.hid hb0
  have HB1 := Lib.hid hb1
  clear hw0 HNN hb0 hb1
  have x0 := cell_of_row _ _ 0 _ _ _ HB0.out
  have x1 := cell_of_row _ _ 1 _ _ _ HB0.out
  go_enter Try.func34, Try.ntmps34
  go_wp2_with (rw [HW0.out])
  refine (H1.out _).mono ?_
  rintro e w9 ⟨rfl, hn⟩
  replace HN := Lib.hid (HN.out.trans hn)
  replace HB1 := Lib.hid ((hn.block _ (lt_of_block HB1.out)).trans HB1.out)
  clear hn x0 x1
  go_wp2_with fail
  refine (H2.out _).mono ?_
  rintro e w9 ⟨rfl, hn⟩
  replace HN := Lib.hid (HN.out.trans hn)
  replace HB1 := Lib.hid ((hn.block _ (lt_of_block HB1.out)).trans HB1.out)
  clear hn
  have k0 := cell_of_row _ _ 0 _ _ _ HB1.out
  have k1 := cell_of_row _ _ 1 _ _ _ HB1.out
  have kf := fun i => frozen_of_row _ _ i _ _ HB1.out
  go_wp2
  refine bodyPost_ret (by simp [results, Try.results34, go_sem, k0, k1]; try rfl) rfl ?_
  exact ⟨rfl, (HN.out.setCell (Nat.le_succ _) _).setCell (Nat.le_succ _) _⟩
set_option maxHeartbeats 1000000 in
theorem cut_a (A wd kd : Nat) (hA : A < 2 ^ 128) (hn : wd ≤ 128) (w : World) : Calls Try.prog 21 #[.agg #[.int .i64 (wd : Int), .int .i64 (kd : Int), .int .i64 (kd : Int)], .agg #[.int .u64 (W64 (hiN (A))), .int .u64 (W64 (loN (A)))]] w fun e w' => e = .returned (.agg #[.int .u64 (W64 (hiN (A % 2 ^ wd))), .int .u64 (W64 (loN (A % 2 ^ wd)))]) ∧ New w w' := by
  have H1 := Lib.hid (lowest_a A wd hA hn)
  generalize A % 2 ^ wd = R at *
  clear hA hn
  obtain ⟨hbl, HNN⟩ := boxes3 w (.cells #[.int .i64 (wd : Int), .int .i64 (kd : Int), .int .i64 (kd : Int)] 41) (.cells #[.int .u64 (W64 (hiN (A))), .int .u64 (W64 (loN (A)))] 24) (.cells #[.int .u64 0, .int .u64 0] 24)
  obtain ⟨hb0, hb1, hb2⟩ := hbl
  have HN := Lib.hid HNN
  obtain ⟨w0, hw0⟩ : ∃ w0, (((((w.alloc (.cells #[.int .i64 (wd : Int), .int .i64 (kd : Int), .int .i64 (kd : Int)] 41))).alloc (.cells #[.int .u64 (W64 (hiN (A))), .int .u64 (W64 (loN (A)))] 24))).alloc (.cells #[.int .u64 0, .int .u64 0] 24)) = w0 := ⟨_, rfl⟩
  rw [hw0] at HN hb0 hb1 hb2
  have HW0 := Lib.hid hw0
  have HB0 := Lib.hid hb0
  have HB1 := Lib.hid hb1
  have HB2 := Lib.hid hb2
  clear hw0 HNN hb0 hb1 hb2
  have s0 := cell_of_row _ _ 0 _ _ _ HB0.out
  have s1 := cell_of_row _ _ 1 _ _ _ HB0.out
  have s2 := cell_of_row _ _ 2 _ _ _ HB0.out
  have x0 := cell_of_row _ _ 0 _ _ _ HB1.out
  have x1 := cell_of_row _ _ 1 _ _ _ HB1.out
  go_enter Try.func21, Try.ntmps21
  go_wp2_with (rw [HW0.out])
  refine (H1.out _).mono ?_
  rintro e w9 ⟨rfl, hn⟩
  replace HN := Lib.hid (HN.out.trans hn)
  replace HB2 := Lib.hid ((hn.block _ (lt_of_block HB2.out)).trans HB2.out)
  clear hn s0 s1 s2 x0 x1
  have k0 := cell_of_row _ _ 0 _ _ _ HB2.out
  have k1 := cell_of_row _ _ 1 _ _ _ HB2.out
  have kf := fun i => frozen_of_row _ _ i _ _ HB2.out
  go_wp2
  refine bodyPost_ret (by simp [results, Try.results21, go_sem, k0, k1]; try rfl) rfl ?_
  exact ⟨rfl, (HN.out.setCell (by show w.heap.size ≤ w.heap.size + 1 + 1; omega) _).setCell (by show w.heap.size ≤ w.heap.size + 1 + 1; omega) _⟩
set_option maxHeartbeats 1000000 in
theorem add_a (A B : Nat) (hA : A < 2 ^ 128) (hB : B < 2 ^ 128) (w : World) : Calls Try.prog 33 #[.agg #[.int .u64 (W64 (hiN (A))), .int .u64 (W64 (loN (A)))], .agg #[.int .u64 (W64 (hiN (B))), .int .u64 (W64 (loN (B)))]] w fun e w' => e = .returned (.agg #[.int .u64 (W64 (hiN (A + B))), .int .u64 (W64 (loN (A + B)))]) ∧ New w w' := by
  have H1 := Lib.hid (add_n A B hA hB)
  generalize A + B = R at *
  generalize decide (2 ^ 128 ≤ R) = o at *
  clear hA hB
  obtain ⟨hbl, HNN⟩ := boxes3 w (.cells #[.int .u64 (W64 (hiN (A))), .int .u64 (W64 (loN (A)))] 24) (.cells #[.int .u64 (W64 (hiN (B))), .int .u64 (W64 (loN (B)))] 24) (.cells #[.int .u64 0, .int .u64 0] 24)
  obtain ⟨hb0, hb1, hb2⟩ := hbl
  have HN := Lib.hid HNN
  obtain ⟨w0, hw0⟩ : ∃ w0, (((((w.alloc (.cells #[.int .u64 (W64 (hiN (A))), .int .u64 (W64 (loN (A)))] 24))).alloc (.cells #[.int .u64 (W64 (hiN (B))), .int .u64 (W64 (loN (B)))] 24))).alloc (.cells #[.int .u64 0, .int .u64 0] 24)) = w0 := ⟨_, rfl⟩
  rw [hw0] at HN hb0 hb1 hb2
  have HW0 := Lib.hid hw0
  have HB0 := Lib.hid hb0
  have HB1 := Lib.hid hb1
  have HB2 := Lib.hid hb2
  clear hw0 HNN hb0 hb1 hb2
  have x0 := cell_of_row _ _ 0 _ _ _ HB0.out
  have x1 := cell_of_row _ _ 1 _ _ _ HB0.out
  have y0 := cell_of_row _ _ 0 _ _ _ HB1.out
  have y1 := cell_of_row _ _ 1 _ _ _ HB1.out
  go_enter Try.func33, Try.ntmps33
  go_wp2_with (rw [HW0.out])
  refine (H1.out _).mono ?_
  rintro e w9 ⟨rfl, hn⟩
  replace HN := Lib.hid (HN.out.trans hn)
  replace HB2 := Lib.hid ((hn.block _ (lt_of_block HB2.out)).trans HB2.out)
  clear hn x0 x1 y0 y1
  have hx := heap_alloc_new w9 (.cells #[.int .u64 (W64 (hiN R)), .int .u64 (W64 (loN R))] 24)
  have hn2 := (New.refl w9).alloc (.cells #[.int .u64 (W64 (hiN R)), .int .u64 (W64 (loN R))] 24)
  obtain ⟨wb5, hw2⟩ : ∃ w2, w9.alloc (.cells #[.int .u64 (W64 (hiN R)), .int .u64 (W64 (loN R))] 24) = w2 := ⟨_, rfl⟩
  rw [hw2] at hx hn2
  obtain ⟨q5, hq⟩ : ∃ q, w9.heap.size = q := ⟨_, rfl⟩
  rw [hq] at hx
  have HX5 := Lib.hid hx
  replace HN := Lib.hid (HN.out.trans hn2)
  have HM5 := Lib.hid hn2
  have HE5 := Lib.hid (show w9.alloc (.cells #[.int .u64 (W64 (hiN R)), .int .u64 (W64 (loN R))] 24) = wb5 ∧ w9.heap.size = q5 from ⟨hw2, hq⟩)
  clear hx hn2 hw2 hq
  replace HB2 := Lib.hid ((HM5.out.block _ (lt_of_block HB2.out)).trans HB2.out)
  have k0 := cell_of_row _ _ 0 _ _ _ HB2.out
  have k1 := cell_of_row _ _ 1 _ _ _ HB2.out
  have x0 := cell_of_row _ _ 0 _ _ _ HX5.out
  have x1 := cell_of_row _ _ 1 _ _ _ HX5.out
  have kf := fun i => frozen_of_row _ _ i _ _ HB2.out
  go_wp2_with (rw [HE5.out.1, HE5.out.2])
  refine bodyPost_ret (by simp [results, Try.results33, go_sem, k0, k1]; try rfl) rfl ?_
  exact ⟨rfl, (HN.out.setCell (by show w.heap.size ≤ w.heap.size + 1 + 1; omega) _).setCell (by show w.heap.size ≤ w.heap.size + 1 + 1; omega) _⟩
end Go.Proofs.Ytfiihbknkglggaa
