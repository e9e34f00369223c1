/- Contracts of layer 26: First, Count, Rank, Unrank; the document's own First, Count. -/
import Derived.Test.YtobmgigmoppkkaaRanB
namespace Go.Bv
open Go Go.RowKit
theorem hi_over (A : Nat) : hiN (A + 2 ^ 128) = hiN A := by
  apply BitVec.eq_of_toNat_eq
  unfold hiN
  rw [BitVec.toNat_ofNat, BitVec.toNat_ofNat]
  omega
theorem lo_over (A : Nat) : loN (A + 2 ^ 128) = loN A := by
  apply BitVec.eq_of_toNat_eq
  unfold loN
  rw [BitVec.toNat_ofNat, BitVec.toNat_ofNat]
  omega
theorem frst_lt (v m : BitVec 64) (k : Nat) (hk : k ≤ 64) (hm : ¬ m = 0#64) : frst v m k < 2 ^ 128 := by
  have h1 := scaled_lt v k hk
  have hp := pos_of_ne hm
  have hml := m.isLt
  have hv := v.isLt
  have h2 := pow_le hk
  have h3 : v.toNat * 2 ^ k ≤ v.toNat * 18446744073709551616 := Nat.mul_le_mul_left _ h2
  unfold frst
  refine Nat.lt_of_le_of_lt (Nat.div_le_self _ _) ?_
  omega
/-- how many are brought to v -/
def cntR (v m : BitVec 64) (k : Nat) : Nat := frst (v + 1#64) m k - frst v m k
theorem frst_mono (a b m : BitVec 64) (k : Nat) (h : a.toNat ≤ b.toNat) : frst a m k ≤ frst b m k := by
  unfold frst
  refine Nat.div_le_div_right ?_
  have := Nat.mul_le_mul_right (2 ^ k) h
  omega
theorem next_nat (v m : BitVec 64) (h : v.toNat < m.toNat) : (v + 1#64).toNat = v.toNat + 1 := by
  have := m.isLt
  rw [BitVec.toNat_add]
  show (v.toNat + 1) % 2 ^ 64 = v.toNat + 1
  omega
end Go.Bv
namespace Go.Proofs.Ytobmgigmoppkkaa
open Go.RowKit Go.Bv
set_option linter.unusedVariables false
/-- a difference that is not below 0 -/
theorem sub_le (A B : Nat) (hA : A < 2 ^ 128) (h : B ≤ A) (w : World) : Calls Try.prog 55 #[.agg #[.int .u64 (W64 (hiN A)), .int .u64 (W64 (loN A))], .agg #[.int .u64 (W64 (hiN B)), .int .u64 (W64 (loN B))]] w fun e w' => e = .returned (.tuple #[.agg #[.int .u64 (W64 (hiN (A - B))), .int .u64 (W64 (loN (A - B)))], .bool (decide (A < B))]) ∧ New w w' := by
  have hs := sub_n A B hA (by omega) w
  rw [show A + 2 ^ 128 - B = (A - B) + 2 ^ 128 by omega, hi_over, lo_over] at hs
  exact hs
set_option maxHeartbeats 1000000 in
theorem first_bad (v m : BitVec 64) (k : Int) (h : (chkR k m == 0) = false) (w : World) : Calls Try.prog 26 #[.int .u64 (W64 v), .int .i64 k, .int .u64 (W64 m)] w fun e w' => e = .returned (.tuple #[.agg #[.int .u64 0, .int .u64 0], .int .i64 (chkR k m)]) ∧ New w w' := by
  have HC := Lib.hid (check_r k m)
  generalize chkR k m = c at *
  have hz := heap_alloc_new w (.cells #[.int .u64 0, .int .u64 0] 24)
  have HN0 := Lib.hid ((New.refl w).alloc (.cells #[.int .u64 0, .int .u64 0] 24))
  have hsz : (w.alloc (.cells #[.int .u64 0, .int .u64 0] 24)).heap.size = w.heap.size + 1 := by simp
  obtain ⟨w0, hw0⟩ : ∃ w0, w.alloc (.cells #[.int .u64 0, .int .u64 0] 24) = w0 := ⟨_, rfl⟩
  rw [hw0] at HN0 hz hsz
  have HW0 := Lib.hid hw0
  have HZ := Lib.hid hz
  have HSZ := Lib.hid hsz
  have HN := Lib.hid (New.refl w0)
  clear hw0 hz hsz
  go_enter Try.func26, Try.ntmps26
  go_wp2_with fail
  rw [HW0.out]
  refine (HC.out _).mono ?_
  rintro e w9 ⟨rfl, hn⟩
  replace HN := Lib.hid (HN.out.trans hn)
  clear hn
  have hb := (HN.out.block _ (lt_of_block HZ.out)).trans HZ.out
  have k0 := cell_of_row _ _ 0 _ _ _ hb
  have k1 := cell_of_row _ _ 1 _ _ _ hb
  have kf : ∀ i, w9.frozen? ⟨w.heap.size, i, none⟩ = false := fun i => frozen_of_row _ _ _ _ _ hb
  clear hb
  go_wp2
  refine bodyPost_ret (by simp [results, Try.results26, go_sem, k0, k1]; try rfl) rfl ?_
  exact ⟨rfl, ((HN0.out.trans HN.out).setCell (Nat.le_refl _) _).setCell (Nat.le_refl _) _⟩
set_option maxHeartbeats 1000000 in
theorem first_no (v m : BitVec 64) (k : Nat) (h : chkR k m = 0) (hv : m.toNat < v.toNat) (w : World) : Calls Try.prog 26 #[.int .u64 (W64 v), .int .i64 (k : Int), .int .u64 (W64 m)] w fun e w' => e = .returned (.tuple #[.agg #[.int .u64 0, .int .u64 0], .int .i64 2]) ∧ New w w' := by
  have HC := Lib.hid (check_r k m)
  rw [h] at HC
  have z1 : decide (W64 m < W64 v) = true := by rw [decide_eq_true_eq]; unfold W64; omega
  clear h hv
  have hz := heap_alloc_new w (.cells #[.int .u64 0, .int .u64 0] 24)
  have HN0 := Lib.hid ((New.refl w).alloc (.cells #[.int .u64 0, .int .u64 0] 24))
  have hsz : (w.alloc (.cells #[.int .u64 0, .int .u64 0] 24)).heap.size = w.heap.size + 1 := by simp
  obtain ⟨w0, hw0⟩ : ∃ w0, w.alloc (.cells #[.int .u64 0, .int .u64 0] 24) = w0 := ⟨_, rfl⟩
  rw [hw0] at HN0 hz hsz
  have HW0 := Lib.hid hw0
  have HZ := Lib.hid hz
  have HSZ := Lib.hid hsz
  have HN := Lib.hid (New.refl w0)
  clear hw0 hz hsz
  go_enter Try.func26, Try.ntmps26
  go_wp2_with fail
  rw [HW0.out]
  refine (HC.out _).mono ?_
  rintro e w9 ⟨rfl, hn⟩
  replace HN := Lib.hid (HN.out.trans hn)
  clear hn
  have hb := (HN.out.block _ (lt_of_block HZ.out)).trans HZ.out
  have k0 := cell_of_row _ _ 0 _ _ _ hb
  have k1 := cell_of_row _ _ 1 _ _ _ hb
  have kf : ∀ i, w9.frozen? ⟨w.heap.size, i, none⟩ = false := fun i => frozen_of_row _ _ _ _ _ hb
  clear hb
  go_wp2
  refine bodyPost_ret (by simp [results, Try.results26, go_sem, k0, k1]; try rfl) rfl ?_
  exact ⟨rfl, ((HN0.out.trans HN.out).setCell (Nat.le_refl _) _).setCell (Nat.le_refl _) _⟩
set_option maxHeartbeats 1000000 in
theorem count_bad (v m : BitVec 64) (k : Int) (h : (chkR k m == 0) = false) (w : World) : Calls Try.prog 27 #[.int .u64 (W64 v), .int .i64 k, .int .u64 (W64 m)] w fun e w' => e = .returned (.tuple #[.agg #[.int .u64 0, .int .u64 0], .int .i64 (chkR k m)]) ∧ New w w' := by
  have HC := Lib.hid (check_r k m)
  generalize chkR k m = c at *
  have hz := heap_alloc_new w (.cells #[.int .u64 0, .int .u64 0] 24)
  have HN0 := Lib.hid ((New.refl w).alloc (.cells #[.int .u64 0, .int .u64 0] 24))
  have hsz : (w.alloc (.cells #[.int .u64 0, .int .u64 0] 24)).heap.size = w.heap.size + 1 := by simp
  obtain ⟨w0, hw0⟩ : ∃ w0, w.alloc (.cells #[.int .u64 0, .int .u64 0] 24) = w0 := ⟨_, rfl⟩
  rw [hw0] at HN0 hz hsz
  have HW0 := Lib.hid hw0
  have HZ := Lib.hid hz
  have HSZ := Lib.hid hsz
  have HN := Lib.hid (New.refl w0)
  clear hw0 hz hsz
  go_enter Try.func27, Try.ntmps27
  go_wp2_with fail
  rw [HW0.out]
  refine (HC.out _).mono ?_
  rintro e w9 ⟨rfl, hn⟩
  replace HN := Lib.hid (HN.out.trans hn)
  clear hn
  have hb := (HN.out.block _ (lt_of_block HZ.out)).trans HZ.out
  have k0 := cell_of_row _ _ 0 _ _ _ hb
  have k1 := cell_of_row _ _ 1 _ _ _ hb
  have kf : ∀ i, w9.frozen? ⟨w.heap.size, i, none⟩ = false := fun i => frozen_of_row _ _ _ _ _ hb
  clear hb
  go_wp2
  refine bodyPost_ret (by simp [results, Try.results27, go_sem, k0, k1]; try rfl) rfl ?_
  exact ⟨rfl, ((HN0.out.trans HN.out).setCell (Nat.le_refl _) _).setCell (Nat.le_refl _) _⟩
set_option maxHeartbeats 1000000 in
theorem count_no (v m : BitVec 64) (k : Nat) (h : chkR k m = 0) (hv : m.toNat ≤ v.toNat) (w : World) : Calls Try.prog 27 #[.int .u64 (W64 v), .int .i64 (k : Int), .int .u64 (W64 m)] w fun e w' => e = .returned (.tuple #[.agg #[.int .u64 0, .int .u64 0], .int .i64 2]) ∧ New w w' := by
  have HC := Lib.hid (check_r k m)
  rw [h] at HC
  have z1 : decide (W64 m ≤ W64 v) = true := by rw [decide_eq_true_eq]; unfold W64; omega
  clear h hv
  have hz := heap_alloc_new w (.cells #[.int .u64 0, .int .u64 0] 24)
  have HN0 := Lib.hid ((New.refl w).alloc (.cells #[.int .u64 0, .int .u64 0] 24))
  have hsz : (w.alloc (.cells #[.int .u64 0, .int .u64 0] 24)).heap.size = w.heap.size + 1 := by simp
  obtain ⟨w0, hw0⟩ : ∃ w0, w.alloc (.cells #[.int .u64 0, .int .u64 0] 24) = w0 := ⟨_, rfl⟩
  rw [hw0] at HN0 hz hsz
  have HW0 := Lib.hid hw0
  have HZ := Lib.hid hz
  have HSZ := Lib.hid hsz
  have HN := Lib.hid (New.refl w0)
  clear hw0 hz hsz
  go_enter Try.func27, Try.ntmps27
  go_wp2_with fail
  rw [HW0.out]
  refine (HC.out _).mono ?_
  rintro e w9 ⟨rfl, hn⟩
  replace HN := Lib.hid (HN.out.trans hn)
  clear hn
  have hb := (HN.out.block _ (lt_of_block HZ.out)).trans HZ.out
  have k0 := cell_of_row _ _ 0 _ _ _ hb
  have k1 := cell_of_row _ _ 1 _ _ _ hb
  have kf : ∀ i, w9.frozen? ⟨w.heap.size, i, none⟩ = false := fun i => frozen_of_row _ _ _ _ _ hb
  clear hb
  go_wp2
  refine bodyPost_ret (by simp [results, Try.results27, go_sem, k0, k1]; try rfl) rfl ?_
  exact ⟨rfl, ((HN0.out.trans HN.out).setCell (Nat.le_refl _) _).setCell (Nat.le_refl _) _⟩
set_option maxHeartbeats 1000000 in
theorem first_ok (v m : BitVec 64) (k : Nat) (hk : k ≤ 64) (hm : ¬ m = 0#64) (h : chkR k m = 0) (hv : v.toNat ≤ m.toNat) (w : World) : Calls Try.prog 26 #[.int .u64 (W64 v), .int .i64 (k : Int), .int .u64 (W64 m)] w fun e w' => e = .returned (.tuple #[.agg #[.int .u64 (W64 (hiN (frst v m k))), .int .u64 (W64 (loN (frst v m k)))], .int .i64 0]) ∧ New w w' := by
  have HC := Lib.hid (check_r k m)
  rw [h] at HC
  have z1 : decide (W64 m < W64 v) = false := by rw [decide_eq_false_iff_not]; unfold W64; omega
  have HF := Lib.hid (fun v p q w hp hq => first_r v m k hk hm p q w hp hq)
  clear h hv hk hm
  have hz := heap_alloc_new w (.cells #[.int .u64 0, .int .u64 0] 24)
  have HN0 := Lib.hid ((New.refl w).alloc (.cells #[.int .u64 0, .int .u64 0] 24))
  have hsz : (w.alloc (.cells #[.int .u64 0, .int .u64 0] 24)).heap.size = w.heap.size + 1 := by simp
  obtain ⟨w0, hw0⟩ : ∃ w0, w.alloc (.cells #[.int .u64 0, .int .u64 0] 24) = w0 := ⟨_, rfl⟩
  rw [hw0] at HN0 hz hsz
  have HW0 := Lib.hid hw0
  have HZ := Lib.hid hz
  have HSZ := Lib.hid hsz
  have HN := Lib.hid (New.refl w0)
  clear hw0 hz hsz
  go_enter Try.func26, Try.ntmps26
  go_wp2_with fail
  rw [HW0.out]
  refine (HC.out _).mono ?_
  rintro e w9 ⟨rfl, hn⟩
  replace HN := Lib.hid (HN.out.trans hn)
  clear hn
  go_wp2_with fail
  refine (firsts_r _ _ _).mono ?_
  rintro e w9 ⟨p, q, rfl, hp, hq, hn⟩
  replace HN := Lib.hid (HN.out.trans hn)
  have HFF := Lib.hid (fun (w' : World) (h : New w9 w') (v : BitVec 64) => HF.out v p q w' ((h.block _ (lt_of_block hp)).trans hp) ((h.block _ (lt_of_block hq)).trans hq))
  have HB9 := Lib.hid (New.refl w9)
  clear hp hq hn
  go_wp2_with fail
  refine (HFF.out _ HB9.out v).mono ?_
  rintro e w9 ⟨rfl, hn⟩
  replace HN := Lib.hid (HN.out.trans hn)
  replace HB9 := Lib.hid (HB9.out.trans hn)
  clear hn
  have hb := (HN.out.block _ (lt_of_block HZ.out)).trans HZ.out
  have k0 := cell_of_row _ _ 0 _ _ _ hb
  have k1 := cell_of_row _ _ 1 _ _ _ hb
  have kf : ∀ i, w9.frozen? ⟨w.heap.size, i, none⟩ = false := fun i => frozen_of_row _ _ _ _ _ hb
  clear hb
  go_wp2
  refine bodyPost_ret (by simp [results, Try.results26, go_sem, k0, k1]; try rfl) rfl ?_
  exact ⟨rfl, ((HN0.out.trans HN.out).setCell (Nat.le_refl _) _).setCell (Nat.le_refl _) _⟩
set_option maxHeartbeats 1000000 in
theorem count_ok (v m : BitVec 64) (k : Nat) (hk : k ≤ 64) (hm : ¬ m = 0#64) (h : chkR k m = 0) (hv : v.toNat < m.toNat) (w : World) : Calls Try.prog 27 #[.int .u64 (W64 v), .int .i64 (k : Int), .int .u64 (W64 m)] w fun e w' => e = .returned (.tuple #[.agg #[.int .u64 (W64 (hiN (cntR v m k))), .int .u64 (W64 (loN (cntR v m k)))], .int .i64 0]) ∧ New w w' := by
  have HC := Lib.hid (check_r k m)
  rw [h] at HC
  have z1 : decide (W64 m ≤ W64 v) = false := by rw [decide_eq_false_iff_not]; unfold W64; omega
  have h2 := next_nat v m hv
  have HS := Lib.hid (sub_le (frst (v + 1#64) m k) (frst v m k) (frst_lt _ _ _ hk hm) (frst_mono _ _ _ _ (by omega)))
  unfold cntR
  have HF := Lib.hid (fun v p q w hp hq => first_r v m k hk hm p q w hp hq)
  clear h hv hk hm h2
  generalize frst (v + 1#64) m k - frst v m k = D at *
  generalize hA : frst (v + 1#64) m k = A at *
  generalize hB : frst v m k = B at *
  generalize decide (A < B) = o at *
  have HF1 := Lib.hid (show ∀ p q w, _ from fun p q w => HF.out (v + 1#64) p q w)
  have HF2 := Lib.hid (show ∀ p q w, _ from fun p q w => HF.out v p q w)
  rw [hA] at HF1
  rw [hB] at HF2
  clear hA hB HF
  have hz := heap_alloc_new w (.cells #[.int .u64 0, .int .u64 0] 24)
  have HN0 := Lib.hid ((New.refl w).alloc (.cells #[.int .u64 0, .int .u64 0] 24))
  have hsz : (w.alloc (.cells #[.int .u64 0, .int .u64 0] 24)).heap.size = w.heap.size + 1 := by simp
  obtain ⟨w0, hw0⟩ : ∃ w0, w.alloc (.cells #[.int .u64 0, .int .u64 0] 24) = w0 := ⟨_, rfl⟩
  rw [hw0] at HN0 hz hsz
  have HW0 := Lib.hid hw0
  have HZ := Lib.hid hz
  have HSZ := Lib.hid hsz
  have HN := Lib.hid (New.refl w0)
  clear hw0 hz hsz
  go_enter Try.func27, Try.ntmps27
  go_wp2_with fail
  rw [HW0.out]
  refine (HC.out _).mono ?_
  rintro e w9 ⟨rfl, hn⟩
  replace HN := Lib.hid (HN.out.trans hn)
  clear hn
  go_wp2_with fail
  refine (firsts_r _ _ _).mono ?_
  rintro e w9 ⟨p, q, rfl, hp, hq, hn⟩
  replace HN := Lib.hid (HN.out.trans hn)
  have HFF1 := Lib.hid (fun (w' : World) (h : New w9 w') => HF1.out p q w' ((h.block _ (lt_of_block hp)).trans hp) ((h.block _ (lt_of_block hq)).trans hq))
  have HFF2 := Lib.hid (fun (w' : World) (h : New w9 w') => HF2.out p q w' ((h.block _ (lt_of_block hp)).trans hp) ((h.block _ (lt_of_block hq)).trans hq))
  have HB9 := Lib.hid (New.refl w9)
  clear hp hq hn
  go_wp2_with fail
  refine (HFF1.out _ HB9.out).mono ?_
  rintro e w9 ⟨rfl, hn⟩
  replace HN := Lib.hid (HN.out.trans hn)
  replace HB9 := Lib.hid (HB9.out.trans hn)
  clear hn
  go_wp2_with fail
  refine (HFF2.out _ HB9.out).mono ?_
  rintro e w9 ⟨rfl, hn⟩
  replace HN := Lib.hid (HN.out.trans hn)
  clear hn
  go_wp2_with fail
  refine (HS.out _).mono ?_
  rintro e w9 ⟨rfl, hn⟩
  replace HN := Lib.hid (HN.out.trans hn)
  clear hn
  have hx := heap_alloc_new w9 (.cells #[.int .u64 (W64 (hiN D)), .int .u64 (W64 (loN D))] 24)
  have hn2 := (New.refl w9).alloc (.cells #[.int .u64 (W64 (hiN D)), .int .u64 (W64 (loN D))] 24)
  obtain ⟨wb1, hw2⟩ : ∃ w2, w9.alloc (.cells #[.int .u64 (W64 (hiN D)), .int .u64 (W64 (loN D))] 24) = w2 := ⟨_, rfl⟩
  rw [hw2] at hx hn2
  obtain ⟨q1, hq⟩ : ∃ q, w9.heap.size = q := ⟨_, rfl⟩
  rw [hq] at hx
  have HX1 := Lib.hid hx
  replace HN := Lib.hid (HN.out.trans hn2)
  have HM1 := Lib.hid hn2
  have HE1 := Lib.hid (show w9.alloc (.cells #[.int .u64 (W64 (hiN D)), .int .u64 (W64 (loN D))] 24) = wb1 ∧ w9.heap.size = q1 from ⟨hw2, hq⟩)
  clear hx hn2 hw2 hq
  have x0 := cell_of_row _ _ 0 _ _ _ HX1.out
  have x1 := cell_of_row _ _ 1 _ _ _ HX1.out
  have hb := (HN.out.block _ (lt_of_block HZ.out)).trans HZ.out
  have k0 := cell_of_row _ _ 0 _ _ _ hb
  have k1 := cell_of_row _ _ 1 _ _ _ hb
  have kf : ∀ i, wb1.frozen? ⟨w.heap.size, i, none⟩ = false := fun i => frozen_of_row _ _ _ _ _ hb
  clear hb
  go_wp2_with (rw [HE1.out.1, HE1.out.2])
  refine bodyPost_ret (by simp [results, Try.results27, go_sem, k0, k1]; try rfl) rfl ?_
  exact ⟨rfl, ((HN0.out.trans HN.out).setCell (Nat.le_refl _) _).setCell (Nat.le_refl _) _⟩
set_option maxHeartbeats 1000000 in
theorem rfirst_r (v m : BitVec 64) (k : Nat) (hk : k ≤ 64) (hm : ¬ m = 0#64) (w : World) : Calls Try.prog 28 #[.int .u64 (W64 v), .int .i64 (k : Int), .int .u64 (W64 m)] w fun e w' => e = .returned (.agg #[.int .u64 (W64 (hiN (frst v m k))), .int .u64 (W64 (loN (frst v m k)))]) ∧ New w w' := by
  have hp := pos_of_ne hm
  have hml := m.isLt
  have hn1 : (m - 1#64).toNat = m.toNat - 1 := by
    rw [BitVec.toNat_sub_of_le (by rw [BitVec.le_def]; show 1 ≤ m.toNat; omega)]; rfl
  have hsc := scaled_lt v k hk
  have hf := frst_lt v m k hk hm
  have hfe : (v.toNat * 2 ^ k + (m.toNat - 1)) / m.toNat = frst v m k := rfl
  have HO := Lib.hid (fun w => of_own v 64 64 (by omega) rfl w)
  have HSH := Lib.hid (fun a c w hz => bshl_own v.toNat 64 c k a 130 130 rfl (by omega) (by omega) w hz v.isLt)
  generalize v.toNat * 2 ^ k = N1 at *
  have b1 : N1 < 2 ^ 130 := by omega
  have b4 : N1 + (m.toNat - 1) < 2 ^ 130 := by omega
  have HO2 := Lib.hid (fun w => of_own (m - 1#64) 64 64 (by omega) rfl w)
  have HA2 := Lib.hid (fun a1 c1 a2 c2 w h1 h2 => badd_own N1 (m - 1#64).toNat 130 64 c1 c2 a1 a2 130 130 rfl (by omega) w h1 b1 h2 (m - 1#64).isLt)
  have HO3 := Lib.hid (fun w => of_own m 64 64 (by omega) rfl w)
  have HDV := Lib.hid (fun a1 c1 a2 c2 w h1 h2 => bdiv_own (N1 + (m.toNat - 1)) m.toNat 130 64 c1 c2 a1 a2 130 (by omega) (by omega) (by omega) w h1 b4 h2 hml hp)
  rw [hn1] at HA2 HO2
  rw [hfe] at HDV
  have ht2 := fun a c w hz => to2_any (frst v m k) 130 c a w hz (by omega)
  rw [show BitVec.ofNat 64 (frst v m k / 2 ^ 64) = hiN (frst v m k) from rfl, show BitVec.ofNat 64 (frst v m k) = loN (frst v m k) from rfl] at ht2
  have HTO := Lib.hid ht2
  generalize frst v m k = Q at *
  generalize N1 + (m.toNat - 1) = N3 at *
  clear hp hml hn1 hsc hf hfe b1 b4 ht2 hk hm
  have hz := heap_alloc_new w (.cells #[.int .u64 0, .int .u64 0] 24)
  have HN0 := Lib.hid ((New.refl w).alloc (.cells #[.int .u64 0, .int .u64 0] 24))
  have hsz : (w.alloc (.cells #[.int .u64 0, .int .u64 0] 24)).heap.size = w.heap.size + 1 := by simp
  obtain ⟨w0, hw0⟩ : ∃ w0, w.alloc (.cells #[.int .u64 0, .int .u64 0] 24) = w0 := ⟨_, rfl⟩
  rw [hw0] at HN0 hz hsz
  have HW0 := Lib.hid hw0
  have HZ := Lib.hid hz
  have HSZ := Lib.hid hsz
  have HN := Lib.hid (New.refl w0)
  clear hw0 hz hsz
  go_enter Try.func28, Try.ntmps28
  go_wp2_with fail
  rw [HW0.out]
  refine (HO.out _).mono ?_
  rintro e w1 ⟨v1, rfl, hown, hn⟩
  obtain ⟨a1, c1, rfl, hz⟩ := bits_row hown (by omega)
  have HN1 := Lib.hid (HN.out.trans hn)
  have HZ1 := Lib.hid hz
  clear hown hz hn
  go_wp2_with fail
  refine (HSH.out _ _ _ HZ1.out).mono ?_
  rintro e w2 ⟨v2, rfl, hown, hn⟩
  obtain ⟨a2, c2, rfl, hz⟩ := bits_row hown (by omega)
  have HN2 := Lib.hid (HN1.out.trans hn)
  have HZ2 := Lib.hid hz
  clear hown hz hn
  go_wp2_with fail
  refine (HO2.out _).mono ?_
  rintro e w3 ⟨v3, rfl, hown, hn⟩
  obtain ⟨a3, c3, rfl, hz⟩ := bits_row hown (by omega)
  have HN3 := Lib.hid (HN2.out.trans hn)
  have HZ3 := Lib.hid hz
  replace HZ2 := Lib.hid (HZ2.out.stay hn)
  clear hown hz hn
  go_wp2_with fail
  refine (HA2.out _ _ _ _ _ HZ2.out HZ3.out).mono ?_
  rintro e w4 ⟨v4, rfl, hown, hn⟩
  obtain ⟨a4, c4, rfl, hz⟩ := bits_row hown (by omega)
  have HN4 := Lib.hid (HN3.out.trans hn)
  have HZ4 := Lib.hid hz
  clear hown hz hn
  go_wp2_with fail
  refine (HO3.out _).mono ?_
  rintro e w5 ⟨v5, rfl, hown, hn⟩
  obtain ⟨a5, c5, rfl, hz⟩ := bits_row hown (by omega)
  have HN5 := Lib.hid (HN4.out.trans hn)
  have HZ5 := Lib.hid hz
  replace HZ4 := Lib.hid (HZ4.out.stay hn)
  clear hown hz hn
  go_wp2_with fail
  refine (HDV.out _ _ _ _ _ HZ4.out HZ5.out).mono ?_
  rintro e w6 ⟨v6, u6, rfl, hown, _, hn⟩
  obtain ⟨a6, c6, rfl, hz⟩ := bits_row hown (by omega)
  have HN6 := Lib.hid (HN5.out.trans hn)
  have HZ6 := Lib.hid hz
  clear hown hz hn
  go_wp2_with fail
  refine (HTO.out _ _ _ HZ6.out).mono ?_
  rintro e w9 ⟨rfl, hn⟩
  replace HN := Lib.hid (HN6.out.trans hn)
  clear hn
  have hb := (HN.out.block _ (lt_of_block HZ.out)).trans HZ.out
  have k0 := cell_of_row _ _ 0 _ _ _ hb
  have k1 := cell_of_row _ _ 1 _ _ _ hb
  have kf : ∀ i, w9.frozen? ⟨w.heap.size, i, none⟩ = false := fun i => frozen_of_row _ _ _ _ _ hb
  clear hb
  go_wp2
  refine bodyPost_ret (by simp [results, Try.results28, go_sem, k0, k1]; try rfl) rfl ?_
  exact ⟨rfl, ((HN0.out.trans HN.out).setCell (Nat.le_refl _) _).setCell (Nat.le_refl _) _⟩
set_option maxHeartbeats 1000000 in
theorem rcount_r (v m : BitVec 64) (k : Nat) (hk : k ≤ 64) (hm : ¬ m = 0#64) (hv : v.toNat < m.toNat) (w : World) : Calls Try.prog 32 #[.int .u64 (W64 v), .int .i64 (k : Int), .int .u64 (W64 m)] w fun e w' => e = .returned (.agg #[.int .u64 (W64 (hiN (cntR v m k))), .int .u64 (W64 (loN (cntR v m k)))]) ∧ New w w' := by
  have h2 := next_nat v m hv
  have hle := frst_mono v (v + 1#64) m k (by omega)
  have l1 := frst_lt (v + 1#64) m k hk hm
  have l2 := frst_lt v m k hk hm
  have HF1 := Lib.hid (rfirst_r (v + 1#64) m k hk hm)
  have HF2 := Lib.hid (rfirst_r v m k hk hm)
  have ho1 := of2_own (hiN (frst (v + 1#64) m k)) (loN (frst (v + 1#64) m k))
  have ho2 := of2_own (hiN (frst v m k)) (loN (frst v m k))
  rw [two_n l1] at ho1
  rw [two_n l2] at ho2
  have HO1 := Lib.hid ho1
  have HO2 := Lib.hid ho2
  unfold cntR
  generalize frst (v + 1#64) m k = A at *
  generalize frst v m k = B at *
  have HS := Lib.hid (fun a1 c1 a2 c2 w h1 h2 => bsub_own A B 128 128 c1 c2 a1 a2 128 128 rfl (by omega) w h1 l1 h2 l2 (A - B + 2 ^ 128) (by omega))
  have ht2 := fun a c w hz => to2_mod (A - B + 2 ^ 128) c a w hz
  have e1 : BitVec.ofNat 64 ((A - B + 2 ^ 128) / 2 ^ 64) = hiN (A - B) := hi_over (A - B)
  have e0 : BitVec.ofNat 64 (A - B + 2 ^ 128) = loN (A - B) := lo_over (A - B)
  rw [e1, e0] at ht2
  have HTO := Lib.hid ht2
  generalize A - B + 2 ^ 128 = E at *
  generalize A - B = D at *
  clear ht2 e1 e0 ho1 ho2 l1 l2 hle h2 hk hm hv
  have hz := heap_alloc_new w (.cells #[.int .u64 0, .int .u64 0] 24)
  have HN0 := Lib.hid ((New.refl w).alloc (.cells #[.int .u64 0, .int .u64 0] 24))
  have hsz : (w.alloc (.cells #[.int .u64 0, .int .u64 0] 24)).heap.size = w.heap.size + 1 := by simp
  obtain ⟨w0, hw0⟩ : ∃ w0, w.alloc (.cells #[.int .u64 0, .int .u64 0] 24) = w0 := ⟨_, rfl⟩
  rw [hw0] at HN0 hz hsz
  have HW0 := Lib.hid hw0
  have HZ := Lib.hid hz
  have HSZ := Lib.hid hsz
  have HN := Lib.hid (New.refl w0)
  clear hw0 hz hsz
  go_enter Try.func32, Try.ntmps32
  go_wp2_with fail
  rw [HW0.out]
  refine (HF1.out _).mono ?_
  rintro e w9 ⟨rfl, hn⟩
  replace HN := Lib.hid (HN.out.trans hn)
  clear hn
  go_wp2_with fail
  refine (HO1.out _).mono ?_
  rintro e w1 ⟨v1, rfl, hown, hn⟩
  obtain ⟨a1, c1, rfl, hz⟩ := bits_row hown (by omega)
  have HN1 := Lib.hid (HN.out.trans hn)
  have HZ1 := Lib.hid hz
  clear hown hz hn
  go_wp2_with fail
  refine (HF2.out _).mono ?_
  rintro e w2 ⟨rfl, hn⟩
  have HN2 := Lib.hid (HN1.out.trans hn)
  replace HZ1 := Lib.hid (HZ1.out.stay hn)
  clear hn
  go_wp2_with fail
  refine (HO2.out _).mono ?_
  rintro e w3 ⟨v3, rfl, hown, hn⟩
  obtain ⟨a3, c3, rfl, hz⟩ := bits_row hown (by omega)
  have HN3 := Lib.hid (HN2.out.trans hn)
  have HZ3 := Lib.hid hz
  replace HZ1 := Lib.hid (HZ1.out.stay hn)
  clear hown hz hn
  go_wp2_with fail
  refine (HS.out _ _ _ _ _ HZ1.out HZ3.out).mono ?_
  rintro e w4 ⟨v4, rfl, hown, hn⟩
  obtain ⟨a4, c4, rfl, hz⟩ := bits_row hown (by omega)
  have HN4 := Lib.hid (HN3.out.trans hn)
  have HZ4 := Lib.hid hz
  clear hown hz hn
  go_wp2_with fail
  refine (HTO.out _ _ _ HZ4.out).mono ?_
  rintro e w9 ⟨rfl, hn⟩
  replace HN := Lib.hid (HN4.out.trans hn)
  clear hn
  have hb := (HN.out.block _ (lt_of_block HZ.out)).trans HZ.out
  have k0 := cell_of_row _ _ 0 _ _ _ hb
  have k1 := cell_of_row _ _ 1 _ _ _ hb
  have kf : ∀ i, w9.frozen? ⟨w.heap.size, i, none⟩ = false := fun i => frozen_of_row _ _ _ _ _ hb
  clear hb
  go_wp2
  refine bodyPost_ret (by simp [results, Try.results32, go_sem, k0, k1]; try rfl) rfl ?_
  exact ⟨rfl, ((HN0.out.trans HN.out).setCell (Nat.le_refl _) _).setCell (Nat.le_refl _) _⟩
end Go.Proofs.Ytobmgigmoppkkaa
