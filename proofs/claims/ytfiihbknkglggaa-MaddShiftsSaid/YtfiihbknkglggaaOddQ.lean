/- The inverse of an odd number modulo 2^128: modn.Odd2. (As OddA, over madd's lemmas.) -/
import Derived.Test.YtfiihbknkglggaaInvG
import Derived.Test.YtfiihbknkglggaaMadC
namespace Go.Bv
open Go Go.RowKit
/-- the inverse of an odd number of two words -/
def inv2 (C : Nat) : Nat := (invR (loN C) 5).toNat * (2 + 2 ^ 128 - C * (invR (loN C) 5).toNat % 2 ^ 128) % 2 ^ 128
theorem inv2_one (C : Nat) (h : (loN C).toNat % 2 = 1) : C * inv2 C % 2 ^ 128 = 1 := by
  have h1 := inv_odd (loN C) h
  unfold inv2
  generalize invR (loN C) 5 = x at *
  have h2 : C * x.toNat % 2 ^ 64 = 1 := by
    have := congrArg BitVec.toNat h1
    rw [BitVec.toNat_mul] at this
    unfold loN at this
    rw [BitVec.toNat_ofNat, Nat.mod_mul_mod] at this
    exact this
  rw [Nat.mul_mod_mod, ← Nat.mul_assoc, Nat.mul_mod]
  generalize C * x.toNat = P at *
  have h3 : P % 2 ^ 128 % 2 ^ 64 = 1 := by rw [Nat.mod_mod_of_dvd _ (show 2 ^ 64 ∣ 2 ^ 128 from ⟨2 ^ 64, rfl⟩)]; exact h2
  have h4 : P % 2 ^ 128 < 2 ^ 128 := Nat.mod_lt _ (Nat.two_pow_pos _)
  generalize P % 2 ^ 128 = M at *
  obtain ⟨k, hk⟩ : ∃ k, M = 2 ^ 64 * k + 1 := ⟨M / 2 ^ 64, by omega⟩
  have hk2 : k < 2 ^ 64 := by omega
  rw [Nat.mul_mod_mod]
  have e : M * (2 + 2 ^ 128 - M) = 1 + 2 ^ 128 * (1 + 2 ^ 64 * k - k * k) := by
    have hkk : k * k ≤ 2 ^ 64 * k := Nat.mul_le_mul_right k (by omega)
    obtain ⟨s, hs⟩ : ∃ s, 2 + 2 ^ 128 - M = s := ⟨_, rfl⟩
    have hs2 : s + 2 ^ 64 * k = 1 + 2 ^ 128 := by omega
    obtain ⟨u, hu⟩ : ∃ u, 2 ^ 64 * k - k * k = u := ⟨_, rfl⟩
    have hu2 : u + k * k = 2 ^ 64 * k := by omega
    rw [hs, hk, show 1 + 2 ^ 64 * k - k * k = 1 + u by omega]
    have h128 : (2 : Nat) ^ 128 = 2 ^ 64 * 2 ^ 64 := by rw [← Nat.pow_add]
    rw [h128] at hs2 ⊢
    generalize (2 : Nat) ^ 64 = T at *
    grind
  rw [e, Nat.add_mul_mod_self_left]
end Go.Bv
namespace Go.Proofs.Ytfiihbknkglggaa
open Go.RowKit Go.Bv
set_option linter.unusedVariables false
set_option maxHeartbeats 1000000 in
theorem odd_m (a : BitVec 64) (h : (a &&& 1#64 == 0#64) = false) (w : World) :
    Calls Try.prog 45 #[.int .u64 (W64 a)] w fun e w' => e = .returned (.tuple #[.int .u64 (W64 (invR a 5)), .bool true]) ∧ w' = w := by
  have HST : Hid (invR a 0 = a) := Lib.hid rfl
  go_enter Try.func45, Try.ntmps45
  go_wp2
  go_loop [4, 9] (fun X I => ∃ k : Nat, k ≤ 5 ∧ I = .int .i64 k ∧ X = .int .u64 (W64 (invR a k))) (fun _ I => 5 - (intOf I).toNat)
  case atStart => exact ⟨0, by omega, rfl, rfl⟩
  case round =>
    obtain ⟨k, hk, rfl, rfl⟩ := hrel
    by_cases hlt : (k : Int) < 5
    · have HX : Hid (invR a k * (2#64 - a * invR a k) = invR a (k + 1)) := Lib.hid rfl
      go_wp2
      exact ⟨⟨k + 1, by omega, by go_num, by rw [← HX.out]⟩, by simp [intOf]; omega⟩
    · obtain rfl : k = 5 := by omega
      go_wp2
      go_ret2
      exact ⟨rfl, rfl⟩
theorem odd_even (a : BitVec 64) (h : (a &&& 1#64 == 0#64) = true) (w : World) : Calls Try.prog 45 #[.int .u64 (W64 a)] w fun e w' => e = .returned (.tuple #[.int .u64 0, .bool false]) ∧ w' = w := by
  go_enter Try.func45, Try.ntmps45
  go_wp2
  go_returns
  exact ⟨rfl, rfl⟩
theorem and_zero (a : BitVec 64) : (a &&& 1#64 == 0#64) = decide (a.toNat % 2 = 0) := by
  have h : (a &&& 1#64).toNat = a.toNat % 2 := by rw [BitVec.toNat_and]; exact Nat.and_two_pow_sub_one_eq_mod _ 1
  rw [Bool.eq_iff_iff, beq_iff_eq, decide_eq_true_eq]
  constructor
  · intro e; rw [← h, e]; rfl
  · intro e; apply BitVec.eq_of_toNat_eq; rw [h, e]; rfl
set_option maxHeartbeats 1000000 in
theorem odd2_no (C : Nat) (h : (loN C).toNat % 2 = 0) (w : World) : Calls Try.prog 40 #[.agg #[.int .u64 (W64 (hiN (C))), .int .u64 (W64 (loN (C)))]] w fun e w' => e = .returned (.tuple #[.agg #[.int .u64 0, .int .u64 0], .bool false]) ∧ New w w' := by
  have HO := Lib.hid (odd_even (loN C) (by rw [and_zero]; exact decide_eq_true h))
  clear h
  obtain ⟨hbl, HNN⟩ := boxes2 w (.cells #[.int .u64 (W64 (hiN (C))), .int .u64 (W64 (loN (C)))] 24) (.cells #[.int .u64 0, .int .u64 0] 24)
  obtain ⟨hb0, hb1⟩ := hbl
  have HN := Lib.hid HNN
  obtain ⟨w0, hw0⟩ : ∃ w0, (((w.alloc (.cells #[.int .u64 (W64 (hiN (C))), .int .u64 (W64 (loN (C)))] 24))).alloc (.cells #[.int .u64 0, .int .u64 0] 24)) = w0 := ⟨_, rfl⟩
  rw [hw0] at HN hb0 hb1
  have HW0 := Lib.hid hw0
  have HB0 := Lib.hid hb0
  have HB1 := Lib.hid hb1
  clear hw0 HNN hb0 hb1
  have x0 := cell_of_row _ _ 0 _ _ _ HB0.out
  have x1 := cell_of_row _ _ 1 _ _ _ HB0.out
  have k0 := cell_of_row _ _ 0 _ _ _ HB1.out
  have k1 := cell_of_row _ _ 1 _ _ _ HB1.out
  have kf := fun i => frozen_of_row _ _ i _ _ HB1.out
  go_enter Try.func40, Try.ntmps40
  go_wp2_with (rw [HW0.out])
  refine (HO.out _).mono ?_
  rintro e w9 ⟨rfl, rfl⟩
  go_wp2
  refine bodyPost_ret (by simp [results, Try.results40, go_sem, k0, k1]; try rfl) rfl ?_
  exact ⟨rfl, by repeat (first | with_reducible exact HN.out | (with_reducible refine New.setCell ?_ (by first | exact Nat.le_refl _ | exact Nat.le_succ _) _))⟩
set_option maxHeartbeats 1000000 in
theorem odd2_yes (C : Nat) (hC : C < 2 ^ 128) (h : (loN C).toNat % 2 = 1) (w : World) : Calls Try.prog 40 #[.agg #[.int .u64 (W64 (hiN (C))), .int .u64 (W64 (loN (C)))]] w fun e w' => e = .returned (.tuple #[.agg #[.int .u64 (W64 (hiN (inv2 C))), .int .u64 (W64 (loN (inv2 C)))], .bool true]) ∧ New w w' := by
  have HO := Lib.hid (odd_m (loN C) (by rw [and_zero]; exact decide_eq_false (by omega)))
  have hx := (invR (loN C) 5).isLt
  have h1 := times_n C (invR (loN C) 5).toNat hC (by omega)
  rw [hi_word, lo_word, ← hi_mod (C * (invR (loN C) 5).toNat), ← lo_mod (C * (invR (loN C) 5).toNat)] at h1
  have hM : C * (invR (loN C) 5).toNat % 2 ^ 128 < 2 ^ 128 := Nat.mod_lt _ (Nat.two_pow_pos _)
  have h2 := sub_n 2 (C * (invR (loN C) 5).toNat % 2 ^ 128) (by decide) hM
  rw [show W64 (hiN 2) = 0 from rfl, show W64 (loN 2) = 2 from rfl, ← hi_mod (2 + 2 ^ 128 - C * (invR (loN C) 5).toNat % 2 ^ 128), ← lo_mod (2 + 2 ^ 128 - C * (invR (loN C) 5).toNat % 2 ^ 128)] at h2
  have h3 := times_n (invR (loN C) 5).toNat ((2 + 2 ^ 128 - C * (invR (loN C) 5).toNat % 2 ^ 128) % 2 ^ 128) (by omega) (Nat.mod_lt _ (Nat.two_pow_pos _))
  rw [hi_word, lo_word, ← hi_mod ((invR (loN C) 5).toNat * _), ← lo_mod ((invR (loN C) 5).toNat * _), Nat.mul_mod_mod] at h3
  unfold inv2
  generalize (invR (loN C) 5).toNat * (2 + 2 ^ 128 - C * (invR (loN C) 5).toNat % 2 ^ 128) % 2 ^ 128 = Y at *
  generalize (2 + 2 ^ 128 - C * (invR (loN C) 5).toNat % 2 ^ 128) % 2 ^ 128 = F at *
  generalize C * (invR (loN C) 5).toNat % 2 ^ 128 = M at *
  generalize invR (loN C) 5 = x at *
  generalize decide (2 < M) = o at *
  have H1 := Lib.hid h1
  have H2 := Lib.hid h2
  have H3 := Lib.hid h3
  clear h1 h2 h3 hM hx hC h
  obtain ⟨hbl, HNN⟩ := boxes2 w (.cells #[.int .u64 (W64 (hiN (C))), .int .u64 (W64 (loN (C)))] 24) (.cells #[.int .u64 0, .int .u64 0] 24)
  obtain ⟨hb0, hb1⟩ := hbl
  have HN := Lib.hid HNN
  obtain ⟨w0, hw0⟩ : ∃ w0, (((w.alloc (.cells #[.int .u64 (W64 (hiN (C))), .int .u64 (W64 (loN (C)))] 24))).alloc (.cells #[.int .u64 0, .int .u64 0] 24)) = w0 := ⟨_, rfl⟩
  rw [hw0] at HN hb0 hb1
  have HW0 := Lib.hid hw0
  have HB0 := Lib.hid hb0
  have HB1 := Lib.hid hb1
  clear hw0 HNN hb0 hb1
  have x0 := cell_of_row _ _ 0 _ _ _ HB0.out
  have x1 := cell_of_row _ _ 1 _ _ _ HB0.out
  go_enter Try.func40, Try.ntmps40
  go_wp2_with (rw [HW0.out])
  refine (HO.out _).mono ?_
  rintro e w9 ⟨rfl, rfl⟩
  have hx := heap_alloc_new w9 (.cells #[.int .u64 0, .int .u64 (W64 x)] 24)
  have hn2 := (New.refl w9).alloc (.cells #[.int .u64 0, .int .u64 (W64 x)] 24)
  obtain ⟨wb1, hw2⟩ : ∃ w2, w9.alloc (.cells #[.int .u64 0, .int .u64 (W64 x)] 24) = w2 := ⟨_, rfl⟩
  rw [hw2] at hx hn2
  obtain ⟨q1, hq⟩ : ∃ q, w9.heap.size = q := ⟨_, rfl⟩
  rw [hq] at hx
  have HX1 := Lib.hid hx
  replace HN := Lib.hid (HN.out.trans hn2)
  have HM1 := Lib.hid hn2
  have HE1 := Lib.hid (show w9.alloc (.cells #[.int .u64 0, .int .u64 (W64 x)] 24) = wb1 ∧ w9.heap.size = q1 from ⟨hw2, hq⟩)
  clear hx hn2 hw2 hq
  replace HB0 := Lib.hid ((HM1.out.block _ (lt_of_block HB0.out)).trans HB0.out)
  replace HB1 := Lib.hid ((HM1.out.block _ (lt_of_block HB1.out)).trans HB1.out)
  clear x0 x1
  have x0 := cell_of_row _ _ 0 _ _ _ HB0.out
  have x1 := cell_of_row _ _ 1 _ _ _ HB0.out
  have y0 := cell_of_row _ _ 0 _ _ _ HX1.out
  have y1 := cell_of_row _ _ 1 _ _ _ HX1.out
  go_wp2_with (rw [HE1.out.1, HE1.out.2])
  refine (H1.out _).mono ?_
  rintro e w9 ⟨rfl, hn⟩
  replace HN := Lib.hid (HN.out.trans hn)
  replace HB1 := Lib.hid ((hn.block _ (lt_of_block HB1.out)).trans HB1.out)
  replace HX1 := Lib.hid ((hn.block _ (lt_of_block HX1.out)).trans HX1.out)
  clear hn x0 x1 y0 y1
  go_wp2_with fail
  refine (H2.out _).mono ?_
  rintro e w9 ⟨rfl, hn⟩
  replace HN := Lib.hid (HN.out.trans hn)
  replace HB1 := Lib.hid ((hn.block _ (lt_of_block HB1.out)).trans HB1.out)
  replace HX1 := Lib.hid ((hn.block _ (lt_of_block HX1.out)).trans HX1.out)
  clear hn
  have hx := heap_alloc_new w9 (.cells #[.int .u64 (W64 (hiN F)), .int .u64 (W64 (loN F))] 24)
  have hn2 := (New.refl w9).alloc (.cells #[.int .u64 (W64 (hiN F)), .int .u64 (W64 (loN F))] 24)
  obtain ⟨wb2, hw2⟩ : ∃ w2, w9.alloc (.cells #[.int .u64 (W64 (hiN F)), .int .u64 (W64 (loN F))] 24) = w2 := ⟨_, rfl⟩
  rw [hw2] at hx hn2
  obtain ⟨q2, hq⟩ : ∃ q, w9.heap.size = q := ⟨_, rfl⟩
  rw [hq] at hx
  have HX2 := Lib.hid hx
  replace HN := Lib.hid (HN.out.trans hn2)
  have HM2 := Lib.hid hn2
  have HE2 := Lib.hid (show w9.alloc (.cells #[.int .u64 (W64 (hiN F)), .int .u64 (W64 (loN F))] 24) = wb2 ∧ w9.heap.size = q2 from ⟨hw2, hq⟩)
  clear hx hn2 hw2 hq
  replace HB1 := Lib.hid ((HM2.out.block _ (lt_of_block HB1.out)).trans HB1.out)
  replace HX1 := Lib.hid ((HM2.out.block _ (lt_of_block HX1.out)).trans HX1.out)
  have y0 := cell_of_row _ _ 0 _ _ _ HX1.out
  have y1 := cell_of_row _ _ 1 _ _ _ HX1.out
  have z0 := cell_of_row _ _ 0 _ _ _ HX2.out
  have z1 := cell_of_row _ _ 1 _ _ _ HX2.out
  go_wp2_with (rw [HE2.out.1, HE2.out.2])
  refine (H3.out _).mono ?_
  rintro e w9 ⟨rfl, hn⟩
  replace HN := Lib.hid (HN.out.trans hn)
  replace HB1 := Lib.hid ((hn.block _ (lt_of_block HB1.out)).trans HB1.out)
  clear hn y0 y1 z0 z1
  have k0 := cell_of_row _ _ 0 _ _ _ HB1.out
  have k1 := cell_of_row _ _ 1 _ _ _ HB1.out
  have kf := fun i => frozen_of_row _ _ i _ _ HB1.out
  go_wp2
  refine bodyPost_ret (by simp [results, Try.results40, go_sem, k0, k1]; try rfl) rfl ?_
  exact ⟨rfl, (HN.out.setCell (Nat.le_succ _) _).setCell (Nat.le_succ _) _⟩
end Go.Proofs.Ytfiihbknkglggaa
