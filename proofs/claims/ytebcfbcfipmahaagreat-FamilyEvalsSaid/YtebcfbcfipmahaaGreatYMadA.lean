import Derived.Test.YtebcfbcfipmahaaGreatYWidN
import Derived.Test.YtebcfbcfipmahaaGreatClass
import Derived.Deep.RegionHeld3
import Derived.Deep.DeepCutAuto
section
/- Contracts of layer 21: shapes, the lowest bits, sums. -/
namespace Go.Bv
open Go Go.RowKit
theorem boxes2 (w : World) (A0 A1 : Obj) : (((w.alloc A0).alloc A1).heap[w.heap.size]? = some A0 ∧ ((w.alloc A0).alloc A1).heap[w.heap.size+ 1]? = some A1) ∧ New w ((w.alloc A0).alloc A1) := by
  have e1 : (w.alloc A0).heap.size = w.heap.size + 1 := by simp
  have e2 : ((w.alloc A0).alloc A1).heap.size = w.heap.size + 1 + 1 := by simp
  exact ⟨⟨(((((New.refl (w.alloc A0))).alloc A1)).block _ (by rw [e1]; omega)).trans (heap_alloc_new _ _), (((New.refl ((w.alloc A0).alloc A1))).block _ (by rw [e2]; omega)).trans (by rw [← e1]; exact heap_alloc_new _ _)⟩, (((New.refl w).alloc A0).alloc A1)⟩
theorem boxes3 (w : World) (A0 A1 A2 : Obj) : ((((w.alloc A0).alloc A1).alloc A2).heap[w.heap.size]? = some A0 ∧ (((w.alloc A0).alloc A1).alloc A2).heap[w.heap.size+ 1]? = some A1 ∧ (((w.alloc A0).alloc A1).alloc A2).heap[w.heap.size+ 1+ 1]? = some A2) ∧ New w (((w.alloc A0).alloc A1).alloc A2) := by
  have e1 : (w.alloc A0).heap.size = w.heap.size + 1 := by simp
  have e2 : ((w.alloc A0).alloc A1).heap.size = w.heap.size + 1 + 1 := by simp
  have e3 : (((w.alloc A0).alloc A1).alloc A2).heap.size = w.heap.size + 1 + 1 + 1 := by simp
  exact ⟨⟨(((((((New.refl (w.alloc A0))).alloc A1)).alloc A2)).block _ (by rw [e1]; omega)).trans (heap_alloc_new _ _), (((((New.refl ((w.alloc A0).alloc A1))).alloc A2)).block _ (by rw [e2]; omega)).trans (by rw [← e1]; exact heap_alloc_new _ _), (((New.refl (((w.alloc A0).alloc A1).alloc A2))).block _ (by rw [e3]; omega)).trans (by rw [← e2]; exact heap_alloc_new _ _)⟩, ((((New.refl w).alloc A0).alloc A1).alloc A2)⟩
theorem boxes4 (w : World) (A0 A1 A2 A3 : Obj) : (((((w.alloc A0).alloc A1).alloc A2).alloc A3).heap[w.heap.size]? = some A0 ∧ ((((w.alloc A0).alloc A1).alloc A2).alloc A3).heap[w.heap.size+ 1]? = some A1 ∧ ((((w.alloc A0).alloc A1).alloc A2).alloc A3).heap[w.heap.size+ 1+ 1]? = some A2 ∧ ((((w.alloc A0).alloc A1).alloc A2).alloc A3).heap[w.heap.size+ 1+ 1+ 1]? = some A3) ∧ New w ((((w.alloc A0).alloc A1).alloc A2).alloc A3) := by
  have e1 : (w.alloc A0).heap.size = w.heap.size + 1 := by simp
  have e2 : ((w.alloc A0).alloc A1).heap.size = w.heap.size + 1 + 1 := by simp
  have e3 : (((w.alloc A0).alloc A1).alloc A2).heap.size = w.heap.size + 1 + 1 + 1 := by simp
  have e4 : ((((w.alloc A0).alloc A1).alloc A2).alloc A3).heap.size = w.heap.size + 1 + 1 + 1 + 1 := by simp
  exact ⟨⟨(((((((((New.refl (w.alloc A0))).alloc A1)).alloc A2)).alloc A3)).block _ (by rw [e1]; omega)).trans (heap_alloc_new _ _), (((((((New.refl ((w.alloc A0).alloc A1))).alloc A2)).alloc A3)).block _ (by rw [e2]; omega)).trans (by rw [← e1]; exact heap_alloc_new _ _), (((((New.refl (((w.alloc A0).alloc A1).alloc A2))).alloc A3)).block _ (by rw [e3]; omega)).trans (by rw [← e2]; exact heap_alloc_new _ _), (((New.refl ((((w.alloc A0).alloc A1).alloc A2).alloc A3))).block _ (by rw [e4]; omega)).trans (by rw [← e3]; exact heap_alloc_new _ _)⟩, (((((New.refl w).alloc A0).alloc A1).alloc A2).alloc A3)⟩
theorem hi_mod (N : Nat) : hiN (N % 2 ^ 128) = hiN N := by
  apply BitVec.eq_of_toNat_eq
  unfold hiN
  rw [BitVec.toNat_ofNat, BitVec.toNat_ofNat]
  omega
theorem lo_mod (N : Nat) : loN (N % 2 ^ 128) = loN N := by
  apply BitVec.eq_of_toNat_eq
  unfold loN
  rw [BitVec.toNat_ofNat, BitVec.toNat_ofNat]
  omega
theorem low_cut (A n : Nat) (hn : n ≤ 128) : A * 2 ^ (128 - n) % 2 ^ 128 / 2 ^ (128 - n) = A % 2 ^ n := by
  have e : 2 ^ 128 = 2 ^ n * 2 ^ (128 - n) := by rw [← Nat.pow_add]; congr 1; omega
  rw [e, Nat.mul_mod_mul_right, Nat.mul_div_cancel _ (Nat.two_pow_pos _)]
end Go.Bv
namespace Go.Proofs.YtebcfbcfipmahaaGreat
open Go.RowKit Go.Bv
set_option linter.unusedVariables false
set_option maxHeartbeats 1000000 in
theorem lowest_a (A n : Nat) (hA : A < 2 ^ 128) (hn : n ≤ 128) (w : World) : Calls Tryz.prog 156 #[.agg #[.int .u64 (W64 (hiN (A))), .int .u64 (W64 (loN (A)))], .int .i64 (n : Int)] w fun e w' => e = .returned (.agg #[.int .u64 (W64 (hiN (A % 2 ^ n))), .int .u64 (W64 (loN (A % 2 ^ n)))]) ∧ New w w' := by
  have h1 := fun w => shl_n A (128 - n) hA (by omega) w
  rw [← hi_mod (A * 2 ^ (128 - n)), ← lo_mod (A * 2 ^ (128 - n))] at h1
  have h2 := fun w => shr_n (A * 2 ^ (128 - n) % 2 ^ 128) (128 - n) (Nat.mod_lt _ (Nat.two_pow_pos _)) (by omega) w
  rw [low_cut A n hn] at h2
  rw [show ((128 - n : Nat) : Int) = 128 - (n : Int) by omega] at h1 h2
  have hw : wrap64 (128 - (n : Int)) = 128 - (n : Int) := by unfold wrap64; omega
  have H1 := Lib.hid h1
  have H2 := Lib.hid h2
  generalize A * 2 ^ (128 - n) % 2 ^ 128 = M at *
  generalize A % 2 ^ n = R at *
  clear h1 h2 hA hn
  obtain ⟨hbl, HNN⟩ := boxes2 w (.cells #[.int .u64 (W64 (hiN (A))), .int .u64 (W64 (loN (A)))] 63) (.cells #[.int .u64 0, .int .u64 0] 63)
  obtain ⟨hb0, hb1⟩ := hbl
  have HN := Lib.hid HNN
  obtain ⟨w0, hw0⟩ : ∃ w0, (((w.alloc (.cells #[.int .u64 (W64 (hiN (A))), .int .u64 (W64 (loN (A)))] 63))).alloc (.cells #[.int .u64 0, .int .u64 0] 63)) = w0 := ⟨_, rfl⟩
  rw [hw0] at HN hb0 hb1
  have HW0 := Lib.hid hw0
  have HB0 := Lib.hid hb0
  have HB1 := Lib.hid hb1
  clear hw0 HNN hb0 hb1
  have x0 := cell_of_row _ _ 0 _ _ _ HB0.out
  have x1 := cell_of_row _ _ 1 _ _ _ HB0.out
  go_enter Tryz.func156, Tryz.ntmps156
  go_wp2_with (rw [HW0.out])
  refine (H1.out _).mono ?_
  rintro e w9 ⟨rfl, hn⟩
  replace HN := Lib.hid (HN.out.trans hn)
  replace HB1 := Lib.hid ((hn.block _ (lt_of_block HB1.out)).trans HB1.out)
  clear hn x0 x1
  go_wp2_with fail
  refine (H2.out _).mono ?_
  rintro e w9 ⟨rfl, hn⟩
  replace HN := Lib.hid (HN.out.trans hn)
  replace HB1 := Lib.hid ((hn.block _ (lt_of_block HB1.out)).trans HB1.out)
  clear hn
  have k0 := cell_of_row _ _ 0 _ _ _ HB1.out
  have k1 := cell_of_row _ _ 1 _ _ _ HB1.out
  have kf := fun i => frozen_of_row _ _ i _ _ HB1.out
  go_wp2
  refine bodyPost_ret (by simp [results, Tryz.results156, go_sem, k0, k1]; try rfl) rfl ?_
  exact ⟨rfl, (HN.out.setCell (Nat.le_succ _) _).setCell (Nat.le_succ _) _⟩
set_option maxHeartbeats 1000000 in
theorem cut_a (A wd kd : Nat) (hA : A < 2 ^ 128) (hn : wd ≤ 128) (w : World) : Calls Tryz.prog 133 #[.agg #[.int .i64 (wd : Int), .int .i64 (kd : Int), .int .i64 (kd : Int)], .agg #[.int .u64 (W64 (hiN (A))), .int .u64 (W64 (loN (A)))]] w fun e w' => e = .returned (.agg #[.int .u64 (W64 (hiN (A % 2 ^ wd))), .int .u64 (W64 (loN (A % 2 ^ wd)))]) ∧ New w w' := by
  have H1 := Lib.hid (lowest_a A wd hA hn)
  generalize A % 2 ^ wd = R at *
  clear hA hn
  obtain ⟨hbl, HNN⟩ := boxes3 w (.cells #[.int .i64 (wd : Int), .int .i64 (kd : Int), .int .i64 (kd : Int)] 133) (.cells #[.int .u64 (W64 (hiN (A))), .int .u64 (W64 (loN (A)))] 63) (.cells #[.int .u64 0, .int .u64 0] 63)
  obtain ⟨hb0, hb1, hb2⟩ := hbl
  have HN := Lib.hid HNN
  obtain ⟨w0, hw0⟩ : ∃ w0, (((((w.alloc (.cells #[.int .i64 (wd : Int), .int .i64 (kd : Int), .int .i64 (kd : Int)] 133))).alloc (.cells #[.int .u64 (W64 (hiN (A))), .int .u64 (W64 (loN (A)))] 63))).alloc (.cells #[.int .u64 0, .int .u64 0] 63)) = w0 := ⟨_, rfl⟩
  rw [hw0] at HN hb0 hb1 hb2
  have HW0 := Lib.hid hw0
  have HB0 := Lib.hid hb0
  have HB1 := Lib.hid hb1
  have HB2 := Lib.hid hb2
  clear hw0 HNN hb0 hb1 hb2
  have s0 := cell_of_row _ _ 0 _ _ _ HB0.out
  have s1 := cell_of_row _ _ 1 _ _ _ HB0.out
  have s2 := cell_of_row _ _ 2 _ _ _ HB0.out
  have x0 := cell_of_row _ _ 0 _ _ _ HB1.out
  have x1 := cell_of_row _ _ 1 _ _ _ HB1.out
  go_enter Tryz.func133, Tryz.ntmps133
  go_wp2_with (rw [HW0.out])
  refine (H1.out _).mono ?_
  rintro e w9 ⟨rfl, hn⟩
  replace HN := Lib.hid (HN.out.trans hn)
  replace HB2 := Lib.hid ((hn.block _ (lt_of_block HB2.out)).trans HB2.out)
  clear hn s0 s1 s2 x0 x1
  have k0 := cell_of_row _ _ 0 _ _ _ HB2.out
  have k1 := cell_of_row _ _ 1 _ _ _ HB2.out
  have kf := fun i => frozen_of_row _ _ i _ _ HB2.out
  go_wp2
  refine bodyPost_ret (by simp [results, Tryz.results133, go_sem, k0, k1]; try rfl) rfl ?_
  exact ⟨rfl, (HN.out.setCell (by show w.heap.size ≤ w.heap.size + 1 + 1; omega) _).setCell (by show w.heap.size ≤ w.heap.size + 1 + 1; omega) _⟩
set_option maxHeartbeats 1000000 in
theorem add_a (A B : Nat) (hA : A < 2 ^ 128) (hB : B < 2 ^ 128) (w : World) : Calls Tryz.prog 155 #[.agg #[.int .u64 (W64 (hiN (A))), .int .u64 (W64 (loN (A)))], .agg #[.int .u64 (W64 (hiN (B))), .int .u64 (W64 (loN (B)))]] w fun e w' => e = .returned (.agg #[.int .u64 (W64 (hiN (A + B))), .int .u64 (W64 (loN (A + B)))]) ∧ New w w' := by
  have H1 := Lib.hid (add_n A B hA hB)
  generalize A + B = R at *
  generalize decide (2 ^ 128 ≤ R) = o at *
  clear hA hB
  obtain ⟨hbl, HNN⟩ := boxes3 w (.cells #[.int .u64 (W64 (hiN (A))), .int .u64 (W64 (loN (A)))] 63) (.cells #[.int .u64 (W64 (hiN (B))), .int .u64 (W64 (loN (B)))] 63) (.cells #[.int .u64 0, .int .u64 0] 63)
  obtain ⟨hb0, hb1, hb2⟩ := hbl
  have HN := Lib.hid HNN
  obtain ⟨w0, hw0⟩ : ∃ w0, (((((w.alloc (.cells #[.int .u64 (W64 (hiN (A))), .int .u64 (W64 (loN (A)))] 63))).alloc (.cells #[.int .u64 (W64 (hiN (B))), .int .u64 (W64 (loN (B)))] 63))).alloc (.cells #[.int .u64 0, .int .u64 0] 63)) = w0 := ⟨_, rfl⟩
  rw [hw0] at HN hb0 hb1 hb2
  have HW0 := Lib.hid hw0
  have HB0 := Lib.hid hb0
  have HB1 := Lib.hid hb1
  have HB2 := Lib.hid hb2
  clear hw0 HNN hb0 hb1 hb2
  have x0 := cell_of_row _ _ 0 _ _ _ HB0.out
  have x1 := cell_of_row _ _ 1 _ _ _ HB0.out
  have y0 := cell_of_row _ _ 0 _ _ _ HB1.out
  have y1 := cell_of_row _ _ 1 _ _ _ HB1.out
  go_enter Tryz.func155, Tryz.ntmps155
  go_wp2_with (rw [HW0.out])
  refine (H1.out _).mono ?_
  rintro e w9 ⟨rfl, hn⟩
  replace HN := Lib.hid (HN.out.trans hn)
  replace HB2 := Lib.hid ((hn.block _ (lt_of_block HB2.out)).trans HB2.out)
  clear hn x0 x1 y0 y1
  have hx := heap_alloc_new w9 (.cells #[.int .u64 (W64 (hiN R)), .int .u64 (W64 (loN R))] 63)
  have hn2 := (New.refl w9).alloc (.cells #[.int .u64 (W64 (hiN R)), .int .u64 (W64 (loN R))] 63)
  obtain ⟨wb5, hw2⟩ : ∃ w2, w9.alloc (.cells #[.int .u64 (W64 (hiN R)), .int .u64 (W64 (loN R))] 63) = w2 := ⟨_, rfl⟩
  rw [hw2] at hx hn2
  obtain ⟨q5, hq⟩ : ∃ q, w9.heap.size = q := ⟨_, rfl⟩
  rw [hq] at hx
  have HX5 := Lib.hid hx
  replace HN := Lib.hid (HN.out.trans hn2)
  have HM5 := Lib.hid hn2
  have HE5 := Lib.hid (show w9.alloc (.cells #[.int .u64 (W64 (hiN R)), .int .u64 (W64 (loN R))] 63) = wb5 ∧ w9.heap.size = q5 from ⟨hw2, hq⟩)
  clear hx hn2 hw2 hq
  replace HB2 := Lib.hid ((HM5.out.block _ (lt_of_block HB2.out)).trans HB2.out)
  have k0 := cell_of_row _ _ 0 _ _ _ HB2.out
  have k1 := cell_of_row _ _ 1 _ _ _ HB2.out
  have x0 := cell_of_row _ _ 0 _ _ _ HX5.out
  have x1 := cell_of_row _ _ 1 _ _ _ HX5.out
  have kf := fun i => frozen_of_row _ _ i _ _ HB2.out
  go_wp2_with (rw [HE5.out.1, HE5.out.2])
  refine bodyPost_ret (by simp [results, Tryz.results155, go_sem, k0, k1]; try rfl) rfl ?_
  exact ⟨rfl, (HN.out.setCell (by show w.heap.size ≤ w.heap.size + 1 + 1; omega) _).setCell (by show w.heap.size ≤ w.heap.size + 1 + 1; omega) _⟩
end Go.Proofs.YtebcfbcfipmahaaGreat
end
section
/- Contracts of layer 21: shapeOf, fits, Width, Check. -/
namespace Go.Proofs.YtebcfbcfipmahaaGreat
open Go.RowKit Go.Bv
set_option linter.unusedVariables false
theorem shape_add (w : World) : Calls Tryz.prog 126 #[.int .i64 3] w fun e w' => e = .returned (.tuple #[.agg #[.int .i64 64, .int .i64 32, .int .i64 32], .bool true]) ∧ New w w' := by
  obtain ⟨hbl, HNN⟩ := boxes2 w (.cells #[.int .i64 0, .int .i64 0, .int .i64 0] 133) (.cells #[.int .i64 128, .int .i64 64, .int .i64 64] 133)
  obtain ⟨hb0, hb1⟩ := hbl
  have HN := Lib.hid HNN
  obtain ⟨w0, hw0⟩ : ∃ w0, (((w.alloc (.cells #[.int .i64 0, .int .i64 0, .int .i64 0] 133))).alloc (.cells #[.int .i64 128, .int .i64 64, .int .i64 64] 133)) = w0 := ⟨_, rfl⟩
  rw [hw0] at HN hb0 hb1
  have HW0 := Lib.hid hw0
  have HB0 := Lib.hid hb0
  have HB1 := Lib.hid hb1
  clear hw0 HNN hb0 hb1
  have r0 := cell_of_row _ _ 0 _ _ _ HB0.out
  have r1 := cell_of_row _ _ 1 _ _ _ HB0.out
  have r2 := cell_of_row _ _ 2 _ _ _ HB0.out
  have x0 := cell_of_row _ _ 0 _ _ _ HB1.out
  have x1 := cell_of_row _ _ 1 _ _ _ HB1.out
  have x2 := cell_of_row _ _ 2 _ _ _ HB1.out
  have rf := fun i => frozen_of_row _ _ i _ _ HB0.out
  have xf := fun i => frozen_of_row _ _ i _ _ HB1.out
  go_enter Tryz.func126, Tryz.ntmps126
  go_wp2_with (rw [HW0.out])
  refine bodyPost_ret (by simp [results, Tryz.results126, go_sem, r0, r1, r2]; try rfl) rfl ?_
  exact ⟨rfl, by repeat (first | with_reducible exact HN.out | (with_reducible refine New.setCell ?_ (by first | exact Nat.le_refl _ | exact Nat.le_succ _) _))⟩
theorem shape_wide (w : World) : Calls Tryz.prog 126 #[.int .i64 4] w fun e w' => e = .returned (.tuple #[.agg #[.int .i64 128, .int .i64 64, .int .i64 64], .bool true]) ∧ New w w' := by
  obtain ⟨hbl, HNN⟩ := boxes2 w (.cells #[.int .i64 0, .int .i64 0, .int .i64 0] 133) (.cells #[.int .i64 128, .int .i64 64, .int .i64 64] 133)
  obtain ⟨hb0, hb1⟩ := hbl
  have HN := Lib.hid HNN
  obtain ⟨w0, hw0⟩ : ∃ w0, (((w.alloc (.cells #[.int .i64 0, .int .i64 0, .int .i64 0] 133))).alloc (.cells #[.int .i64 128, .int .i64 64, .int .i64 64] 133)) = w0 := ⟨_, rfl⟩
  rw [hw0] at HN hb0 hb1
  have HW0 := Lib.hid hw0
  have HB0 := Lib.hid hb0
  have HB1 := Lib.hid hb1
  clear hw0 HNN hb0 hb1
  have r0 := cell_of_row _ _ 0 _ _ _ HB0.out
  have r1 := cell_of_row _ _ 1 _ _ _ HB0.out
  have r2 := cell_of_row _ _ 2 _ _ _ HB0.out
  have x0 := cell_of_row _ _ 0 _ _ _ HB1.out
  have x1 := cell_of_row _ _ 1 _ _ _ HB1.out
  have x2 := cell_of_row _ _ 2 _ _ _ HB1.out
  have rf := fun i => frozen_of_row _ _ i _ _ HB0.out
  have xf := fun i => frozen_of_row _ _ i _ _ HB1.out
  go_enter Tryz.func126, Tryz.ntmps126
  go_wp2_with (rw [HW0.out])
  refine bodyPost_ret (by simp [results, Tryz.results126, go_sem, r0, r1, r2]; try rfl) rfl ?_
  exact ⟨rfl, by repeat (first | with_reducible exact HN.out | (with_reducible refine New.setCell ?_ (by first | exact Nat.le_refl _ | exact Nat.le_succ _) _))⟩
theorem shape_no (kind : Int) (h3 : (kind == 3) = false) (h4 : (kind == 4) = false) (w : World) : Calls Tryz.prog 126 #[.int .i64 kind] w fun e w' => e = .returned (.tuple #[.agg #[.int .i64 0, .int .i64 0, .int .i64 0], .bool false]) ∧ New w w' := by
  obtain ⟨hbl, HNN⟩ := boxes2 w (.cells #[.int .i64 0, .int .i64 0, .int .i64 0] 133) (.cells #[.int .i64 128, .int .i64 64, .int .i64 64] 133)
  obtain ⟨hb0, hb1⟩ := hbl
  have HN := Lib.hid HNN
  obtain ⟨w0, hw0⟩ : ∃ w0, (((w.alloc (.cells #[.int .i64 0, .int .i64 0, .int .i64 0] 133))).alloc (.cells #[.int .i64 128, .int .i64 64, .int .i64 64] 133)) = w0 := ⟨_, rfl⟩
  rw [hw0] at HN hb0 hb1
  have HW0 := Lib.hid hw0
  have HB0 := Lib.hid hb0
  have HB1 := Lib.hid hb1
  clear hw0 HNN hb0 hb1
  have r0 := cell_of_row _ _ 0 _ _ _ HB0.out
  have r1 := cell_of_row _ _ 1 _ _ _ HB0.out
  have r2 := cell_of_row _ _ 2 _ _ _ HB0.out
  have x0 := cell_of_row _ _ 0 _ _ _ HB1.out
  have x1 := cell_of_row _ _ 1 _ _ _ HB1.out
  have x2 := cell_of_row _ _ 2 _ _ _ HB1.out
  have rf := fun i => frozen_of_row _ _ i _ _ HB0.out
  have xf := fun i => frozen_of_row _ _ i _ _ HB1.out
  go_enter Tryz.func126, Tryz.ntmps126
  go_wp2_with (rw [HW0.out])
  refine bodyPost_ret (by simp [results, Tryz.results126, go_sem, r0, r1, r2]; try rfl) rfl ?_
  exact ⟨rfl, by repeat (first | with_reducible exact HN.out | (with_reducible refine New.setCell ?_ (by first | exact Nat.le_refl _ | exact Nat.le_succ _) _))⟩
set_option maxHeartbeats 1000000 in
theorem check_kind (A B wd kd : Nat) (hA : A < 2 ^ 128) (hB : B < 2 ^ 128) (hwd : wd ≤ 128) (kind bits : Int)  (HS : Hid (∀ w : World, Calls Tryz.prog 126 #[.int .i64 kind] w fun e w' => e = .returned (.tuple #[.agg #[.int .i64 (wd : Int), .int .i64 (kd : Int), .int .i64 (kd : Int)], .bool false]) ∧ New w w')) (w : World) : Calls Tryz.prog 125 #[.int .i64 kind, .int .i64 bits, .agg #[.int .u64 (W64 (hiN (A))), .int .u64 (W64 (loN (A)))], .agg #[.int .u64 (W64 (hiN (B))), .int .u64 (W64 (loN (B)))]] w fun e w' => e = .returned (.int .i64 6) ∧ New w w' := by
  have heq := equ128
  have C1 := Lib.hid (cut_a A wd kd hA hwd)
  have C2 := Lib.hid (cut_a B wd kd hB hwd)
  clear hA hB hwd
  generalize hiN (A % 2 ^ wd) = a1' at *
  generalize loN (A % 2 ^ wd) = a0' at *
  generalize hiN (B % 2 ^ wd) = b1' at *
  generalize loN (B % 2 ^ wd) = b0' at *
  obtain ⟨hbl, HNN⟩ := boxes2 w (.cells #[.int .u64 (W64 (hiN (A))), .int .u64 (W64 (loN (A)))] 63) (.cells #[.int .u64 (W64 (hiN (B))), .int .u64 (W64 (loN (B)))] 63)
  obtain ⟨hb0, hb1⟩ := hbl
  have HN := Lib.hid HNN
  obtain ⟨w0, hw0⟩ : ∃ w0, (((w.alloc (.cells #[.int .u64 (W64 (hiN (A))), .int .u64 (W64 (loN (A)))] 63))).alloc (.cells #[.int .u64 (W64 (hiN (B))), .int .u64 (W64 (loN (B)))] 63)) = w0 := ⟨_, rfl⟩
  rw [hw0] at HN hb0 hb1
  have HW0 := Lib.hid hw0
  have HB0 := Lib.hid hb0
  have HB1 := Lib.hid hb1
  clear hw0 HNN hb0 hb1
  go_enter Tryz.func125, Tryz.ntmps125
  go_wp2_with (rw [HW0.out])
  refine (HS.out _).mono ?_
  rintro e w9 ⟨rfl, hn⟩
  replace HN := Lib.hid (HN.out.trans hn)
  replace HB0 := Lib.hid ((hn.block _ (lt_of_block HB0.out)).trans HB0.out)
  replace HB1 := Lib.hid ((hn.block _ (lt_of_block HB1.out)).trans HB1.out)
  clear hn
  have hx := heap_alloc_new w9 (.cells #[.int .i64 (wd : Int), .int .i64 (kd : Int), .int .i64 (kd : Int)] 133)
  have hn2 := (New.refl w9).alloc (.cells #[.int .i64 (wd : Int), .int .i64 (kd : Int), .int .i64 (kd : Int)] 133)
  obtain ⟨wb1, hw2⟩ : ∃ w2, w9.alloc (.cells #[.int .i64 (wd : Int), .int .i64 (kd : Int), .int .i64 (kd : Int)] 133) = w2 := ⟨_, rfl⟩
  rw [hw2] at hx hn2
  obtain ⟨q1, hq⟩ : ∃ q, w9.heap.size = q := ⟨_, rfl⟩
  rw [hq] at hx
  have HX1 := Lib.hid hx
  replace HN := Lib.hid (HN.out.trans hn2)
  have HM1 := Lib.hid hn2
  have HE1 := Lib.hid (show w9.alloc (.cells #[.int .i64 (wd : Int), .int .i64 (kd : Int), .int .i64 (kd : Int)] 133) = wb1 ∧ w9.heap.size = q1 from ⟨hw2, hq⟩)
  clear hx hn2 hw2 hq
  replace HB0 := Lib.hid ((HM1.out.block _ (lt_of_block HB0.out)).trans HB0.out)
  replace HB1 := Lib.hid ((HM1.out.block _ (lt_of_block HB1.out)).trans HB1.out)
  have x0 := cell_of_row _ _ 0 _ _ _ HX1.out
  have x1 := cell_of_row _ _ 1 _ _ _ HX1.out
  have x2 := cell_of_row _ _ 2 _ _ _ HX1.out
  go_wp2_with (rw [HE1.out.1, HE1.out.2])
  go_ret
  exact ⟨rfl, HN.out⟩
set_option maxHeartbeats 1000000 in
theorem check_low (A B wd kd : Nat) (hA : A < 2 ^ 128) (hB : B < 2 ^ 128) (hwd : wd ≤ 128) (kind bits : Int) (hb : bits < 1) (HS : Hid (∀ w : World, Calls Tryz.prog 126 #[.int .i64 kind] w fun e w' => e = .returned (.tuple #[.agg #[.int .i64 (wd : Int), .int .i64 (kd : Int), .int .i64 (kd : Int)], .bool true]) ∧ New w w')) (w : World) : Calls Tryz.prog 125 #[.int .i64 kind, .int .i64 bits, .agg #[.int .u64 (W64 (hiN (A))), .int .u64 (W64 (loN (A)))], .agg #[.int .u64 (W64 (hiN (B))), .int .u64 (W64 (loN (B)))]] w fun e w' => e = .returned (.int .i64 1) ∧ New w w' := by
  have heq := equ128
  have C1 := Lib.hid (cut_a A wd kd hA hwd)
  have C2 := Lib.hid (cut_a B wd kd hB hwd)
  clear hA hB hwd
  generalize hiN (A % 2 ^ wd) = a1' at *
  generalize loN (A % 2 ^ wd) = a0' at *
  generalize hiN (B % 2 ^ wd) = b1' at *
  generalize loN (B % 2 ^ wd) = b0' at *
  obtain ⟨hbl, HNN⟩ := boxes2 w (.cells #[.int .u64 (W64 (hiN (A))), .int .u64 (W64 (loN (A)))] 63) (.cells #[.int .u64 (W64 (hiN (B))), .int .u64 (W64 (loN (B)))] 63)
  obtain ⟨hb0, hb1⟩ := hbl
  have HN := Lib.hid HNN
  obtain ⟨w0, hw0⟩ : ∃ w0, (((w.alloc (.cells #[.int .u64 (W64 (hiN (A))), .int .u64 (W64 (loN (A)))] 63))).alloc (.cells #[.int .u64 (W64 (hiN (B))), .int .u64 (W64 (loN (B)))] 63)) = w0 := ⟨_, rfl⟩
  rw [hw0] at HN hb0 hb1
  have HW0 := Lib.hid hw0
  have HB0 := Lib.hid hb0
  have HB1 := Lib.hid hb1
  clear hw0 HNN hb0 hb1
  go_enter Tryz.func125, Tryz.ntmps125
  go_wp2_with (rw [HW0.out])
  refine (HS.out _).mono ?_
  rintro e w9 ⟨rfl, hn⟩
  replace HN := Lib.hid (HN.out.trans hn)
  replace HB0 := Lib.hid ((hn.block _ (lt_of_block HB0.out)).trans HB0.out)
  replace HB1 := Lib.hid ((hn.block _ (lt_of_block HB1.out)).trans HB1.out)
  clear hn
  have hx := heap_alloc_new w9 (.cells #[.int .i64 (wd : Int), .int .i64 (kd : Int), .int .i64 (kd : Int)] 133)
  have hn2 := (New.refl w9).alloc (.cells #[.int .i64 (wd : Int), .int .i64 (kd : Int), .int .i64 (kd : Int)] 133)
  obtain ⟨wb1, hw2⟩ : ∃ w2, w9.alloc (.cells #[.int .i64 (wd : Int), .int .i64 (kd : Int), .int .i64 (kd : Int)] 133) = w2 := ⟨_, rfl⟩
  rw [hw2] at hx hn2
  obtain ⟨q1, hq⟩ : ∃ q, w9.heap.size = q := ⟨_, rfl⟩
  rw [hq] at hx
  have HX1 := Lib.hid hx
  replace HN := Lib.hid (HN.out.trans hn2)
  have HM1 := Lib.hid hn2
  have HE1 := Lib.hid (show w9.alloc (.cells #[.int .i64 (wd : Int), .int .i64 (kd : Int), .int .i64 (kd : Int)] 133) = wb1 ∧ w9.heap.size = q1 from ⟨hw2, hq⟩)
  clear hx hn2 hw2 hq
  replace HB0 := Lib.hid ((HM1.out.block _ (lt_of_block HB0.out)).trans HB0.out)
  replace HB1 := Lib.hid ((HM1.out.block _ (lt_of_block HB1.out)).trans HB1.out)
  have x0 := cell_of_row _ _ 0 _ _ _ HX1.out
  have x1 := cell_of_row _ _ 1 _ _ _ HX1.out
  have x2 := cell_of_row _ _ 2 _ _ _ HX1.out
  go_wp2_with (rw [HE1.out.1, HE1.out.2])
  go_ret
  exact ⟨rfl, HN.out⟩
set_option maxHeartbeats 1000000 in
theorem check_high (A B wd kd : Nat) (hA : A < 2 ^ 128) (hB : B < 2 ^ 128) (hwd : wd ≤ 128) (kind bits : Int) (hb0 : ¬ bits < 1) (hb : (kd : Int) < bits) (HS : Hid (∀ w : World, Calls Tryz.prog 126 #[.int .i64 kind] w fun e w' => e = .returned (.tuple #[.agg #[.int .i64 (wd : Int), .int .i64 (kd : Int), .int .i64 (kd : Int)], .bool true]) ∧ New w w')) (w : World) : Calls Tryz.prog 125 #[.int .i64 kind, .int .i64 bits, .agg #[.int .u64 (W64 (hiN (A))), .int .u64 (W64 (loN (A)))], .agg #[.int .u64 (W64 (hiN (B))), .int .u64 (W64 (loN (B)))]] w fun e w' => e = .returned (.int .i64 1) ∧ New w w' := by
  have heq := equ128
  have C1 := Lib.hid (cut_a A wd kd hA hwd)
  have C2 := Lib.hid (cut_a B wd kd hB hwd)
  clear hA hB hwd
  generalize hiN (A % 2 ^ wd) = a1' at *
  generalize loN (A % 2 ^ wd) = a0' at *
  generalize hiN (B % 2 ^ wd) = b1' at *
  generalize loN (B % 2 ^ wd) = b0' at *
  obtain ⟨hbl, HNN⟩ := boxes2 w (.cells #[.int .u64 (W64 (hiN (A))), .int .u64 (W64 (loN (A)))] 63) (.cells #[.int .u64 (W64 (hiN (B))), .int .u64 (W64 (loN (B)))] 63)
  obtain ⟨hb0, hb1⟩ := hbl
  have HN := Lib.hid HNN
  obtain ⟨w0, hw0⟩ : ∃ w0, (((w.alloc (.cells #[.int .u64 (W64 (hiN (A))), .int .u64 (W64 (loN (A)))] 63))).alloc (.cells #[.int .u64 (W64 (hiN (B))), .int .u64 (W64 (loN (B)))] 63)) = w0 := ⟨_, rfl⟩
  rw [hw0] at HN hb0 hb1
  have HW0 := Lib.hid hw0
  have HB0 := Lib.hid hb0
  have HB1 := Lib.hid hb1
  clear hw0 HNN hb0 hb1
  go_enter Tryz.func125, Tryz.ntmps125
  go_wp2_with (rw [HW0.out])
  refine (HS.out _).mono ?_
  rintro e w9 ⟨rfl, hn⟩
  replace HN := Lib.hid (HN.out.trans hn)
  replace HB0 := Lib.hid ((hn.block _ (lt_of_block HB0.out)).trans HB0.out)
  replace HB1 := Lib.hid ((hn.block _ (lt_of_block HB1.out)).trans HB1.out)
  clear hn
  have hx := heap_alloc_new w9 (.cells #[.int .i64 (wd : Int), .int .i64 (kd : Int), .int .i64 (kd : Int)] 133)
  have hn2 := (New.refl w9).alloc (.cells #[.int .i64 (wd : Int), .int .i64 (kd : Int), .int .i64 (kd : Int)] 133)
  obtain ⟨wb1, hw2⟩ : ∃ w2, w9.alloc (.cells #[.int .i64 (wd : Int), .int .i64 (kd : Int), .int .i64 (kd : Int)] 133) = w2 := ⟨_, rfl⟩
  rw [hw2] at hx hn2
  obtain ⟨q1, hq⟩ : ∃ q, w9.heap.size = q := ⟨_, rfl⟩
  rw [hq] at hx
  have HX1 := Lib.hid hx
  replace HN := Lib.hid (HN.out.trans hn2)
  have HM1 := Lib.hid hn2
  have HE1 := Lib.hid (show w9.alloc (.cells #[.int .i64 (wd : Int), .int .i64 (kd : Int), .int .i64 (kd : Int)] 133) = wb1 ∧ w9.heap.size = q1 from ⟨hw2, hq⟩)
  clear hx hn2 hw2 hq
  replace HB0 := Lib.hid ((HM1.out.block _ (lt_of_block HB0.out)).trans HB0.out)
  replace HB1 := Lib.hid ((HM1.out.block _ (lt_of_block HB1.out)).trans HB1.out)
  have x0 := cell_of_row _ _ 0 _ _ _ HX1.out
  have x1 := cell_of_row _ _ 1 _ _ _ HX1.out
  have x2 := cell_of_row _ _ 2 _ _ _ HX1.out
  go_wp2_with (rw [HE1.out.1, HE1.out.2])
  go_ret
  exact ⟨rfl, HN.out⟩
set_option maxHeartbeats 1000000 in
theorem check_a (A B wd kd : Nat) (hA : A < 2 ^ 128) (hB : B < 2 ^ 128) (hwd : wd ≤ 128) (kind bits : Int) (hb0 : 1 ≤ bits) (hb : bits ≤ (kd : Int)) (hlt : ¬ A < 2 ^ wd) (HS : Hid (∀ w : World, Calls Tryz.prog 126 #[.int .i64 kind] w fun e w' => e = .returned (.tuple #[.agg #[.int .i64 (wd : Int), .int .i64 (kd : Int), .int .i64 (kd : Int)], .bool true]) ∧ New w w')) (w : World) : Calls Tryz.prog 125 #[.int .i64 kind, .int .i64 bits, .agg #[.int .u64 (W64 (hiN (A))), .int .u64 (W64 (loN (A)))], .agg #[.int .u64 (W64 (hiN (B))), .int .u64 (W64 (loN (B)))]] w fun e w' => e = .returned (.int .i64 13) ∧ New w w' := by
  have heq := equ128
  have C1 := Lib.hid (cut_a A wd kd hA hwd)
  have C2 := Lib.hid (cut_a B wd kd hB hwd)
  have z1 : (hiN (A % 2 ^ wd) == hiN A && loN (A % 2 ^ wd) == loN A) = false := by rw [n_inj (Nat.lt_of_le_of_lt (Nat.mod_le _ _) hA) hA]; exact decide_eq_false (fun e => hlt (by rw [← e]; exact Nat.mod_lt _ (Nat.two_pow_pos _)))
  have b1 : ¬ bits < 1 := by omega
  have b2 : ¬ (kd : Int) < bits := by omega
  clear hA hB hwd hlt
  generalize hiN (A % 2 ^ wd) = a1' at *
  generalize loN (A % 2 ^ wd) = a0' at *
  generalize hiN (B % 2 ^ wd) = b1' at *
  generalize loN (B % 2 ^ wd) = b0' at *
  obtain ⟨hbl, HNN⟩ := boxes2 w (.cells #[.int .u64 (W64 (hiN (A))), .int .u64 (W64 (loN (A)))] 63) (.cells #[.int .u64 (W64 (hiN (B))), .int .u64 (W64 (loN (B)))] 63)
  obtain ⟨hb0, hb1⟩ := hbl
  have HN := Lib.hid HNN
  obtain ⟨w0, hw0⟩ : ∃ w0, (((w.alloc (.cells #[.int .u64 (W64 (hiN (A))), .int .u64 (W64 (loN (A)))] 63))).alloc (.cells #[.int .u64 (W64 (hiN (B))), .int .u64 (W64 (loN (B)))] 63)) = w0 := ⟨_, rfl⟩
  rw [hw0] at HN hb0 hb1
  have HW0 := Lib.hid hw0
  have HB0 := Lib.hid hb0
  have HB1 := Lib.hid hb1
  clear hw0 HNN hb0 hb1
  go_enter Tryz.func125, Tryz.ntmps125
  go_wp2_with (rw [HW0.out])
  refine (HS.out _).mono ?_
  rintro e w9 ⟨rfl, hn⟩
  replace HN := Lib.hid (HN.out.trans hn)
  replace HB0 := Lib.hid ((hn.block _ (lt_of_block HB0.out)).trans HB0.out)
  replace HB1 := Lib.hid ((hn.block _ (lt_of_block HB1.out)).trans HB1.out)
  clear hn
  have hx := heap_alloc_new w9 (.cells #[.int .i64 (wd : Int), .int .i64 (kd : Int), .int .i64 (kd : Int)] 133)
  have hn2 := (New.refl w9).alloc (.cells #[.int .i64 (wd : Int), .int .i64 (kd : Int), .int .i64 (kd : Int)] 133)
  obtain ⟨wb1, hw2⟩ : ∃ w2, w9.alloc (.cells #[.int .i64 (wd : Int), .int .i64 (kd : Int), .int .i64 (kd : Int)] 133) = w2 := ⟨_, rfl⟩
  rw [hw2] at hx hn2
  obtain ⟨q1, hq⟩ : ∃ q, w9.heap.size = q := ⟨_, rfl⟩
  rw [hq] at hx
  have HX1 := Lib.hid hx
  replace HN := Lib.hid (HN.out.trans hn2)
  have HM1 := Lib.hid hn2
  have HE1 := Lib.hid (show w9.alloc (.cells #[.int .i64 (wd : Int), .int .i64 (kd : Int), .int .i64 (kd : Int)] 133) = wb1 ∧ w9.heap.size = q1 from ⟨hw2, hq⟩)
  clear hx hn2 hw2 hq
  replace HB0 := Lib.hid ((HM1.out.block _ (lt_of_block HB0.out)).trans HB0.out)
  replace HB1 := Lib.hid ((HM1.out.block _ (lt_of_block HB1.out)).trans HB1.out)
  have x0 := cell_of_row _ _ 0 _ _ _ HX1.out
  have x1 := cell_of_row _ _ 1 _ _ _ HX1.out
  have x2 := cell_of_row _ _ 2 _ _ _ HX1.out
  go_wp2_with (rw [HE1.out.1, HE1.out.2])
  clear x0 x1 x2
  refine wp_region_class (fun w' => (w'.heap[w.heap.size]? = some (.cells #[.int .u64 (W64 (hiN (A))), .int .u64 (W64 (loN (A)))] 63) ∧ w'.heap[(w.heap.size + 1)]? = some (.cells #[.int .u64 (W64 (hiN (B))), .int .u64 (W64 (loN (B)))] 63) ∧ w'.heap[q1]? = some (.cells #[.int .i64 (wd : Int), .int .i64 (kd : Int), .int .i64 (kd : Int)] 133)) ∧ New wb1 w') (by kernel_rfl) (by kernel_rfl) ⟨⟨((New.refl wb1).drew.block _ (lt_of_block HB0.out)).trans HB0.out, ((New.refl wb1).drew.block _ (lt_of_block HB1.out)).trans HB1.out, ((New.refl wb1).drew.block _ (lt_of_block HX1.out)).trans HX1.out⟩, (New.refl _).drew⟩ ?_
  intro I _ f hall hback
  have HSTEP : Hid (∀ n w', New (f n) w' → ∃ m, w' = f m) := Lib.hid fun n w' hn => hback w' ⟨⟨(hn.block _ (lt_of_block ((hall n).1.1))).trans ((hall n).1.1), (hn.block _ (lt_of_block ((hall n).1.2.1))).trans ((hall n).1.2.1), (hn.block _ (lt_of_block ((hall n).1.2.2))).trans ((hall n).1.2.2)⟩, (hall n).2.trans hn⟩
  have HALL := Lib.hid fun n => (hall n).2
  have s0 := fun n => cell_of_row _ _ 0 _ _ _ ((hall n).1.1)
  have s1 := fun n => cell_of_row _ _ 1 _ _ _ ((hall n).1.1)
  have s2 := fun n => cell_of_row _ _ 0 _ _ _ ((hall n).1.2.1)
  have s3 := fun n => cell_of_row _ _ 1 _ _ _ ((hall n).1.2.1)
  have s4 := fun n => cell_of_row _ _ 0 _ _ _ ((hall n).1.2.2)
  have s5 := fun n => cell_of_row _ _ 1 _ _ _ ((hall n).1.2.2)
  have s6 := fun n => cell_of_row _ _ 2 _ _ _ ((hall n).1.2.2)
  clear hall hback
  repeat (go_big_quiet_step (first
    | (go_at_call_of 133 (Value.int IntKind.u64 (W64 (hiN A))); refine class_new HSTEP.out (C1.out _))
    | (go_at_call_of 133 (Value.int IntKind.u64 (W64 (hiN B))); refine class_new HSTEP.out (C2.out _))))
  refine wpQuiet_nil ?_
  rintro w9 ⟨n1, hw1⟩
  have hS := HALL.out n1
  rw [← hw1] at hS
  replace HB0 := Lib.hid ((hS.block _ (lt_of_block HB0.out)).trans HB0.out)
  replace HB1 := Lib.hid ((hS.block _ (lt_of_block HB1.out)).trans HB1.out)
  replace HX1 := Lib.hid ((hS.block _ (lt_of_block HX1.out)).trans HX1.out)
  replace HN := Lib.hid (HN.out.trans hS)
  clear HALL HSTEP hw1 hS s0 s1 s2 s3 s4 s5 s6
  go_wp2
  go_ret
  exact ⟨rfl, HN.out⟩
set_option maxHeartbeats 1000000 in
theorem check_b (A B wd kd : Nat) (hA : A < 2 ^ 128) (hB : B < 2 ^ 128) (hwd : wd ≤ 128) (kind bits : Int) (hb0 : 1 ≤ bits) (hb : bits ≤ (kd : Int)) (hlt : A < 2 ^ wd) (hlt2 : ¬ B < 2 ^ wd) (HS : Hid (∀ w : World, Calls Tryz.prog 126 #[.int .i64 kind] w fun e w' => e = .returned (.tuple #[.agg #[.int .i64 (wd : Int), .int .i64 (kd : Int), .int .i64 (kd : Int)], .bool true]) ∧ New w w')) (w : World) : Calls Tryz.prog 125 #[.int .i64 kind, .int .i64 bits, .agg #[.int .u64 (W64 (hiN (A))), .int .u64 (W64 (loN (A)))], .agg #[.int .u64 (W64 (hiN (B))), .int .u64 (W64 (loN (B)))]] w fun e w' => e = .returned (.int .i64 13) ∧ New w w' := by
  have heq := equ128
  have C1 := Lib.hid (cut_a A wd kd hA hwd)
  have C2 := Lib.hid (cut_a B wd kd hB hwd)
  have z2 : (hiN (B % 2 ^ wd) == hiN B && loN (B % 2 ^ wd) == loN B) = false := by rw [n_inj (Nat.lt_of_le_of_lt (Nat.mod_le _ _) hB) hB]; exact decide_eq_false (fun e => hlt2 (by rw [← e]; exact Nat.mod_lt _ (Nat.two_pow_pos _)))
  rw [Nat.mod_eq_of_lt hlt] at C1
  have b1 : ¬ bits < 1 := by omega
  have b2 : ¬ (kd : Int) < bits := by omega
  clear hA hB hwd hlt hlt2
  generalize hiN (A % 2 ^ wd) = a1' at *
  generalize loN (A % 2 ^ wd) = a0' at *
  generalize hiN (B % 2 ^ wd) = b1' at *
  generalize loN (B % 2 ^ wd) = b0' at *
  obtain ⟨hbl, HNN⟩ := boxes2 w (.cells #[.int .u64 (W64 (hiN (A))), .int .u64 (W64 (loN (A)))] 63) (.cells #[.int .u64 (W64 (hiN (B))), .int .u64 (W64 (loN (B)))] 63)
  obtain ⟨hb0, hb1⟩ := hbl
  have HN := Lib.hid HNN
  obtain ⟨w0, hw0⟩ : ∃ w0, (((w.alloc (.cells #[.int .u64 (W64 (hiN (A))), .int .u64 (W64 (loN (A)))] 63))).alloc (.cells #[.int .u64 (W64 (hiN (B))), .int .u64 (W64 (loN (B)))] 63)) = w0 := ⟨_, rfl⟩
  rw [hw0] at HN hb0 hb1
  have HW0 := Lib.hid hw0
  have HB0 := Lib.hid hb0
  have HB1 := Lib.hid hb1
  clear hw0 HNN hb0 hb1
  go_enter Tryz.func125, Tryz.ntmps125
  go_wp2_with (rw [HW0.out])
  refine (HS.out _).mono ?_
  rintro e w9 ⟨rfl, hn⟩
  replace HN := Lib.hid (HN.out.trans hn)
  replace HB0 := Lib.hid ((hn.block _ (lt_of_block HB0.out)).trans HB0.out)
  replace HB1 := Lib.hid ((hn.block _ (lt_of_block HB1.out)).trans HB1.out)
  clear hn
  have hx := heap_alloc_new w9 (.cells #[.int .i64 (wd : Int), .int .i64 (kd : Int), .int .i64 (kd : Int)] 133)
  have hn2 := (New.refl w9).alloc (.cells #[.int .i64 (wd : Int), .int .i64 (kd : Int), .int .i64 (kd : Int)] 133)
  obtain ⟨wb1, hw2⟩ : ∃ w2, w9.alloc (.cells #[.int .i64 (wd : Int), .int .i64 (kd : Int), .int .i64 (kd : Int)] 133) = w2 := ⟨_, rfl⟩
  rw [hw2] at hx hn2
  obtain ⟨q1, hq⟩ : ∃ q, w9.heap.size = q := ⟨_, rfl⟩
  rw [hq] at hx
  have HX1 := Lib.hid hx
  replace HN := Lib.hid (HN.out.trans hn2)
  have HM1 := Lib.hid hn2
  have HE1 := Lib.hid (show w9.alloc (.cells #[.int .i64 (wd : Int), .int .i64 (kd : Int), .int .i64 (kd : Int)] 133) = wb1 ∧ w9.heap.size = q1 from ⟨hw2, hq⟩)
  clear hx hn2 hw2 hq
  replace HB0 := Lib.hid ((HM1.out.block _ (lt_of_block HB0.out)).trans HB0.out)
  replace HB1 := Lib.hid ((HM1.out.block _ (lt_of_block HB1.out)).trans HB1.out)
  have x0 := cell_of_row _ _ 0 _ _ _ HX1.out
  have x1 := cell_of_row _ _ 1 _ _ _ HX1.out
  have x2 := cell_of_row _ _ 2 _ _ _ HX1.out
  go_wp2_with (rw [HE1.out.1, HE1.out.2])
  clear x0 x1 x2
  refine wp_region_class (fun w' => (w'.heap[w.heap.size]? = some (.cells #[.int .u64 (W64 (hiN (A))), .int .u64 (W64 (loN (A)))] 63) ∧ w'.heap[(w.heap.size + 1)]? = some (.cells #[.int .u64 (W64 (hiN (B))), .int .u64 (W64 (loN (B)))] 63) ∧ w'.heap[q1]? = some (.cells #[.int .i64 (wd : Int), .int .i64 (kd : Int), .int .i64 (kd : Int)] 133)) ∧ New wb1 w') (by kernel_rfl) (by kernel_rfl) ⟨⟨((New.refl wb1).drew.block _ (lt_of_block HB0.out)).trans HB0.out, ((New.refl wb1).drew.block _ (lt_of_block HB1.out)).trans HB1.out, ((New.refl wb1).drew.block _ (lt_of_block HX1.out)).trans HX1.out⟩, (New.refl _).drew⟩ ?_
  intro I _ f hall hback
  have HSTEP : Hid (∀ n w', New (f n) w' → ∃ m, w' = f m) := Lib.hid fun n w' hn => hback w' ⟨⟨(hn.block _ (lt_of_block ((hall n).1.1))).trans ((hall n).1.1), (hn.block _ (lt_of_block ((hall n).1.2.1))).trans ((hall n).1.2.1), (hn.block _ (lt_of_block ((hall n).1.2.2))).trans ((hall n).1.2.2)⟩, (hall n).2.trans hn⟩
  have HALL := Lib.hid fun n => (hall n).2
  have s0 := fun n => cell_of_row _ _ 0 _ _ _ ((hall n).1.1)
  have s1 := fun n => cell_of_row _ _ 1 _ _ _ ((hall n).1.1)
  have s2 := fun n => cell_of_row _ _ 0 _ _ _ ((hall n).1.2.1)
  have s3 := fun n => cell_of_row _ _ 1 _ _ _ ((hall n).1.2.1)
  have s4 := fun n => cell_of_row _ _ 0 _ _ _ ((hall n).1.2.2)
  have s5 := fun n => cell_of_row _ _ 1 _ _ _ ((hall n).1.2.2)
  have s6 := fun n => cell_of_row _ _ 2 _ _ _ ((hall n).1.2.2)
  clear hall hback
  repeat (go_big_quiet_step (first
    | (go_at_call_of 133 (Value.int IntKind.u64 (W64 (hiN A))); refine class_new HSTEP.out (C1.out _))
    | (go_at_call_of 133 (Value.int IntKind.u64 (W64 (hiN B))); refine class_new HSTEP.out (C2.out _))))
  refine wpQuiet_nil ?_
  rintro w9 ⟨n1, hw1⟩
  have hS := HALL.out n1
  rw [← hw1] at hS
  replace HB0 := Lib.hid ((hS.block _ (lt_of_block HB0.out)).trans HB0.out)
  replace HB1 := Lib.hid ((hS.block _ (lt_of_block HB1.out)).trans HB1.out)
  replace HX1 := Lib.hid ((hS.block _ (lt_of_block HX1.out)).trans HX1.out)
  replace HN := Lib.hid (HN.out.trans hS)
  clear HALL HSTEP hw1 hS s0 s1 s2 s3 s4 s5 s6
  go_wp2
  go_ret
  exact ⟨rfl, HN.out⟩
set_option maxHeartbeats 1000000 in
theorem check_ok (A B wd kd : Nat) (hA : A < 2 ^ 128) (hB : B < 2 ^ 128) (hwd : wd ≤ 128) (kind bits : Int) (hb0 : 1 ≤ bits) (hb : bits ≤ (kd : Int)) (hlt : A < 2 ^ wd) (hlt2 : B < 2 ^ wd) (HS : Hid (∀ w : World, Calls Tryz.prog 126 #[.int .i64 kind] w fun e w' => e = .returned (.tuple #[.agg #[.int .i64 (wd : Int), .int .i64 (kd : Int), .int .i64 (kd : Int)], .bool true]) ∧ New w w')) (w : World) : Calls Tryz.prog 125 #[.int .i64 kind, .int .i64 bits, .agg #[.int .u64 (W64 (hiN (A))), .int .u64 (W64 (loN (A)))], .agg #[.int .u64 (W64 (hiN (B))), .int .u64 (W64 (loN (B)))]] w fun e w' => e = .returned (.int .i64 0) ∧ New w w' := by
  have heq := equ128
  have C1 := Lib.hid (cut_a A wd kd hA hwd)
  have C2 := Lib.hid (cut_a B wd kd hB hwd)
  rw [Nat.mod_eq_of_lt hlt] at C1
  rw [Nat.mod_eq_of_lt hlt2] at C2
  have b1 : ¬ bits < 1 := by omega
  have b2 : ¬ (kd : Int) < bits := by omega
  clear hA hB hwd hlt hlt2
  generalize hiN (A % 2 ^ wd) = a1' at *
  generalize loN (A % 2 ^ wd) = a0' at *
  generalize hiN (B % 2 ^ wd) = b1' at *
  generalize loN (B % 2 ^ wd) = b0' at *
  obtain ⟨hbl, HNN⟩ := boxes2 w (.cells #[.int .u64 (W64 (hiN (A))), .int .u64 (W64 (loN (A)))] 63) (.cells #[.int .u64 (W64 (hiN (B))), .int .u64 (W64 (loN (B)))] 63)
  obtain ⟨hb0, hb1⟩ := hbl
  have HN := Lib.hid HNN
  obtain ⟨w0, hw0⟩ : ∃ w0, (((w.alloc (.cells #[.int .u64 (W64 (hiN (A))), .int .u64 (W64 (loN (A)))] 63))).alloc (.cells #[.int .u64 (W64 (hiN (B))), .int .u64 (W64 (loN (B)))] 63)) = w0 := ⟨_, rfl⟩
  rw [hw0] at HN hb0 hb1
  have HW0 := Lib.hid hw0
  have HB0 := Lib.hid hb0
  have HB1 := Lib.hid hb1
  clear hw0 HNN hb0 hb1
  go_enter Tryz.func125, Tryz.ntmps125
  go_wp2_with (rw [HW0.out])
  refine (HS.out _).mono ?_
  rintro e w9 ⟨rfl, hn⟩
  replace HN := Lib.hid (HN.out.trans hn)
  replace HB0 := Lib.hid ((hn.block _ (lt_of_block HB0.out)).trans HB0.out)
  replace HB1 := Lib.hid ((hn.block _ (lt_of_block HB1.out)).trans HB1.out)
  clear hn
  have hx := heap_alloc_new w9 (.cells #[.int .i64 (wd : Int), .int .i64 (kd : Int), .int .i64 (kd : Int)] 133)
  have hn2 := (New.refl w9).alloc (.cells #[.int .i64 (wd : Int), .int .i64 (kd : Int), .int .i64 (kd : Int)] 133)
  obtain ⟨wb1, hw2⟩ : ∃ w2, w9.alloc (.cells #[.int .i64 (wd : Int), .int .i64 (kd : Int), .int .i64 (kd : Int)] 133) = w2 := ⟨_, rfl⟩
  rw [hw2] at hx hn2
  obtain ⟨q1, hq⟩ : ∃ q, w9.heap.size = q := ⟨_, rfl⟩
  rw [hq] at hx
  have HX1 := Lib.hid hx
  replace HN := Lib.hid (HN.out.trans hn2)
  have HM1 := Lib.hid hn2
  have HE1 := Lib.hid (show w9.alloc (.cells #[.int .i64 (wd : Int), .int .i64 (kd : Int), .int .i64 (kd : Int)] 133) = wb1 ∧ w9.heap.size = q1 from ⟨hw2, hq⟩)
  clear hx hn2 hw2 hq
  replace HB0 := Lib.hid ((HM1.out.block _ (lt_of_block HB0.out)).trans HB0.out)
  replace HB1 := Lib.hid ((HM1.out.block _ (lt_of_block HB1.out)).trans HB1.out)
  have x0 := cell_of_row _ _ 0 _ _ _ HX1.out
  have x1 := cell_of_row _ _ 1 _ _ _ HX1.out
  have x2 := cell_of_row _ _ 2 _ _ _ HX1.out
  go_wp2_with (rw [HE1.out.1, HE1.out.2])
  clear x0 x1 x2
  refine wp_region_class (fun w' => (w'.heap[w.heap.size]? = some (.cells #[.int .u64 (W64 (hiN (A))), .int .u64 (W64 (loN (A)))] 63) ∧ w'.heap[(w.heap.size + 1)]? = some (.cells #[.int .u64 (W64 (hiN (B))), .int .u64 (W64 (loN (B)))] 63) ∧ w'.heap[q1]? = some (.cells #[.int .i64 (wd : Int), .int .i64 (kd : Int), .int .i64 (kd : Int)] 133)) ∧ New wb1 w') (by kernel_rfl) (by kernel_rfl) ⟨⟨((New.refl wb1).drew.block _ (lt_of_block HB0.out)).trans HB0.out, ((New.refl wb1).drew.block _ (lt_of_block HB1.out)).trans HB1.out, ((New.refl wb1).drew.block _ (lt_of_block HX1.out)).trans HX1.out⟩, (New.refl _).drew⟩ ?_
  intro I _ f hall hback
  have HSTEP : Hid (∀ n w', New (f n) w' → ∃ m, w' = f m) := Lib.hid fun n w' hn => hback w' ⟨⟨(hn.block _ (lt_of_block ((hall n).1.1))).trans ((hall n).1.1), (hn.block _ (lt_of_block ((hall n).1.2.1))).trans ((hall n).1.2.1), (hn.block _ (lt_of_block ((hall n).1.2.2))).trans ((hall n).1.2.2)⟩, (hall n).2.trans hn⟩
  have HALL := Lib.hid fun n => (hall n).2
  have s0 := fun n => cell_of_row _ _ 0 _ _ _ ((hall n).1.1)
  have s1 := fun n => cell_of_row _ _ 1 _ _ _ ((hall n).1.1)
  have s2 := fun n => cell_of_row _ _ 0 _ _ _ ((hall n).1.2.1)
  have s3 := fun n => cell_of_row _ _ 1 _ _ _ ((hall n).1.2.1)
  have s4 := fun n => cell_of_row _ _ 0 _ _ _ ((hall n).1.2.2)
  have s5 := fun n => cell_of_row _ _ 1 _ _ _ ((hall n).1.2.2)
  have s6 := fun n => cell_of_row _ _ 2 _ _ _ ((hall n).1.2.2)
  clear hall hback
  repeat (go_big_quiet_step (first
    | (go_at_call_of 133 (Value.int IntKind.u64 (W64 (hiN A))); refine class_new HSTEP.out (C1.out _))
    | (go_at_call_of 133 (Value.int IntKind.u64 (W64 (hiN B))); refine class_new HSTEP.out (C2.out _))))
  refine wpQuiet_nil ?_
  rintro w9 ⟨n1, hw1⟩
  have hS := HALL.out n1
  rw [← hw1] at hS
  replace HB0 := Lib.hid ((hS.block _ (lt_of_block HB0.out)).trans HB0.out)
  replace HB1 := Lib.hid ((hS.block _ (lt_of_block HB1.out)).trans HB1.out)
  replace HX1 := Lib.hid ((hS.block _ (lt_of_block HX1.out)).trans HX1.out)
  replace HN := Lib.hid (HN.out.trans hS)
  clear HALL HSTEP hw1 hS s0 s1 s2 s3 s4 s5 s6
  go_wp2
  go_ret
  exact ⟨rfl, HN.out⟩
end Go.Proofs.YtebcfbcfipmahaaGreat
end
