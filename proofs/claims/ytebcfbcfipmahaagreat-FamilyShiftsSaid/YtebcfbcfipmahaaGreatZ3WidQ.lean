import Derived.Test.YtebcfbcfipmahaaGreatZ3Frame
/- Contracts of wide.Times and wide.Full: for all numbers of two words. · Contracts of wide.Shl and wide.Shr: for all numbers of two words, all counts. -/
namespace Go.Bv
open Go Go.RowKit
theorem times_hi (a1 a0 b1 b0 : BitVec 64) : hiN (a0.toNat * b0.toNat) + (a1 * b0 + a0 * b1) = BitVec.ofNat 64 (two a1 a0 * two b1 b0 / 2 ^ 64) := by
  have e : two a1 a0 * two b1 b0 = 2 ^ 64 * (a1.toNat * b0.toNat + a0.toNat * b1.toNat + 2 ^ 64 * (a1.toNat * b1.toNat)) + a0.toNat * b0.toNat := by
    unfold two
    rw [show (18446744073709551616 : Nat) = 2 ^ 64 from rfl]
    generalize (2 : Nat) ^ 64 = k
    grind
  rw [e, Nat.mul_add_div (Nat.two_pow_pos 64)]
  unfold hiN
  rw [show (18446744073709551616 : Nat) = 2 ^ 64 from rfl]
  generalize a0.toNat * b0.toNat / 2 ^ 64 = q
  apply BitVec.eq_of_toNat_eq
  rw [BitVec.toNat_add, BitVec.toNat_add, BitVec.toNat_mul, BitVec.toNat_mul, BitVec.toNat_ofNat, BitVec.toNat_ofNat]
  generalize a1.toNat * b0.toNat = x
  generalize a0.toNat * b1.toNat = y
  generalize a1.toNat * b1.toNat = z
  omega
theorem times_lo (a1 a0 b1 b0 : BitVec 64) : loN (a0.toNat * b0.toNat) = BitVec.ofNat 64 (two a1 a0 * two b1 b0) := by
  have e : two a1 a0 * two b1 b0 = 2 ^ 64 * (a1.toNat * b0.toNat + a0.toNat * b1.toNat + 2 ^ 64 * (a1.toNat * b1.toNat)) + a0.toNat * b0.toNat := by
    unfold two
    rw [show (18446744073709551616 : Nat) = 2 ^ 64 from rfl]
    generalize (2 : Nat) ^ 64 = k
    grind
  unfold loN
  apply BitVec.eq_of_toNat_eq
  rw [BitVec.toNat_ofNat, BitVec.toNat_ofNat, e, Nat.mul_add_mod]
theorem three_blocks (w : World) (A B C : Obj) : ((((w.alloc A).alloc B).alloc C).heap[w.heap.size]? = some A) ∧ ((((w.alloc A).alloc B).alloc C).heap[w.heap.size + 1]? = some B) ∧ ((((w.alloc A).alloc B).alloc C).heap[w.heap.size + 1 + 1]? = some C) ∧ New w (((w.alloc A).alloc B).alloc C) := by
  have e1 : (w.alloc A).heap.size = w.heap.size + 1 := by simp
  have e2 : ((w.alloc A).alloc B).heap.size = w.heap.size + 1 + 1 := by simp
  refine ⟨?_, ?_, ?_, (((New.refl w).alloc _).alloc _).alloc _⟩
  · rw [(((New.refl (w.alloc A)).alloc B).alloc C).block _ (by rw [e1]; omega)]; exact heap_alloc_new _ _
  · rw [((New.refl ((w.alloc A).alloc B)).alloc C).block _ (by rw [e2]; omega), ← e1]; exact heap_alloc_new _ _
  · rw [← e2]; exact heap_alloc_new _ _
end Go.Bv
namespace Go.Proofs.YtebcfbcfipmahaaGreat
open Go.RowKit Go.Bv
set_option linter.unusedVariables false
set_option maxRecDepth 100000
set_option maxHeartbeats 1000000 in
theorem wtimes_two (a1 a0 b1 b0 : BitVec 64) (w : World) :
    Calls Tryz.prog 134 #[.agg #[.int .u64 (W64 a1), .int .u64 (W64 a0)], .agg #[.int .u64 (W64 b1), .int .u64 (W64 b0)]] w fun e w' =>
      e = .returned (.agg #[.int .u64 (W64 (BitVec.ofNat 64 (two a1 a0 * two b1 b0 / 2 ^ 64))), .int .u64 (W64 (BitVec.ofNat 64 (two a1 a0 * two b1 b0)))]) ∧ New w w' := by
  have HH := Lib.hid (times_hi a1 a0 b1 b0)
  have hL := times_lo a1 a0 b1 b0
  have hm := fun w => wmul_any a0 b0 w
  rw [hL] at hm
  have HM := Lib.hid hm
  clear hm hL
  generalize BitVec.ofNat 64 (two a1 a0 * two b1 b0) = y0 at *
  generalize BitVec.ofNat 64 (two a1 a0 * two b1 b0 / 2 ^ 64) = y1 at *
  generalize hiN (a0.toNat * b0.toNat) = p1 at *
  go_enter Tryz.func134, Tryz.ntmps134
  go_wp2_with fail
  obtain ⟨hA, hB, hC, hN⟩ := three_blocks w (.cells #[.int .u64 (W64 a1), .int .u64 (W64 a0)] 63) (.cells #[.int .u64 (W64 b1), .int .u64 (W64 b0)] 63) (.cells #[.int .u64 0, .int .u64 0] 63)
  generalize ((w.alloc (.cells #[.int .u64 (W64 a1), .int .u64 (W64 a0)] 63)).alloc (.cells #[.int .u64 (W64 b1), .int .u64 (W64 b0)] 63)).alloc (.cells #[.int .u64 0, .int .u64 0] 63) = w0 at hA hB hC hN ⊢
  refine (HM.out _).mono ?_
  rintro e w1 ⟨rfl, hn1⟩
  have hn2 := hn1.alloc (.cells #[.int .u64 (W64 p1), .int .u64 (W64 y0)] 63)
  have hA2 := (hn2.block _ (lt_of_block hA)).trans hA
  have hB2 := (hn2.block _ (lt_of_block hB)).trans hB
  have hn3 := hn1.alloc (.cells #[.int .u64 (W64 (p1 + (a1 * b0 + a0 * b1))), .int .u64 (W64 y0)] 63)
  have hC2 := (hn3.block _ (lt_of_block hC)).trans hC
  have k0 : (w1.alloc (.cells #[.int .u64 (W64 (p1 + (a1 * b0 + a0 * b1))), .int .u64 (W64 y0)] 63)).cell? ⟨w.heap.size + 1 + 1, 0, none⟩ = some (.int .u64 0) := by rw [cell_of_row _ _ _ _ _ _ hC2]; rfl
  have k1 : (w1.alloc (.cells #[.int .u64 (W64 (p1 + (a1 * b0 + a0 * b1))), .int .u64 (W64 y0)] 63)).cell? ⟨w.heap.size + 1 + 1, 1, none⟩ = some (.int .u64 0) := by rw [cell_of_row _ _ _ _ _ _ hC2]; rfl
  have kf := fun i => frozen_of_row _ (w.heap.size + 1 + 1) i _ _ hC2
  have hg : w1.heap.size ≠ w.heap.size + 1 + 1 := by have := lt_of_block hC; have := hn1.le; omega
  have HN := Lib.hid (hN.trans hn3)
  clear hA hB hC hN hn1 hn2 hn3
  have a_0 : (w1.alloc (.cells #[.int .u64 (W64 p1), .int .u64 (W64 y0)] 63)).cell? ⟨w.heap.size, 0, none⟩ = some (.int .u64 (W64 a1)) := by rw [cell_of_row _ _ _ _ _ _ hA2]; rfl
  have a_1 : (w1.alloc (.cells #[.int .u64 (W64 p1), .int .u64 (W64 y0)] 63)).cell? ⟨w.heap.size, 1, none⟩ = some (.int .u64 (W64 a0)) := by rw [cell_of_row _ _ _ _ _ _ hA2]; rfl
  have b_0 : (w1.alloc (.cells #[.int .u64 (W64 p1), .int .u64 (W64 y0)] 63)).cell? ⟨w.heap.size + 1, 0, none⟩ = some (.int .u64 (W64 b1)) := by rw [cell_of_row _ _ _ _ _ _ hB2]; rfl
  have b_1 : (w1.alloc (.cells #[.int .u64 (W64 p1), .int .u64 (W64 y0)] 63)).cell? ⟨w.heap.size + 1, 1, none⟩ = some (.int .u64 (W64 b0)) := by rw [cell_of_row _ _ _ _ _ _ hB2]; rfl
  clear hA2 hB2 hC2
  go_wp2
  refine bodyPost_ret (by simp [results, Tryz.results134, go_sem, k0, k1]; try rfl) rfl ?_
  rw [HH.out] at HN ⊢
  exact ⟨rfl, ((HN.out.setCell (by show _ ≤ w.heap.size + 1 + 1; omega) _).setCell (by show _ ≤ w.heap.size + 1 + 1; omega) _)⟩
end Go.Proofs.YtebcfbcfipmahaaGreat
namespace Go.Bv
open Go Go.RowKit
theorem two_bit (a1 a0 : BitVec 64) (j : Nat) : (two a1 a0).testBit j = if j < 64 then a0.getLsbD j else a1.getLsbD (j - 64) := by
  unfold two
  rw [Nat.mul_comm, show (18446744073709551616 : Nat) = 2 ^ 64 from rfl, Nat.testBit_two_pow_mul_add _ a0.isLt]
  rfl
theorem get_high (a : BitVec 64) (j : Nat) (h : 64 ≤ j) : a.getLsbD j = false := BitVec.getLsbD_of_ge a j h
theorem shl_hi (a1 a0 : BitVec 64) (m i : Nat) (hi : i < 64) : (BitVec.ofNat 64 (two a1 a0 * 2 ^ m / 2 ^ 64)).getLsbD i = (decide (m ≤ 64 + i) && if 64 + i - m < 64 then a0.getLsbD (64 + i - m) else a1.getLsbD (64 + i - m - 64)) := by
  rw [BitVec.getLsbD_ofNat, ← Nat.shiftRight_eq_div_pow, ← Nat.shiftLeft_eq, Nat.testBit_shiftRight, Nat.testBit_shiftLeft, two_bit, decide_eq_true hi, Bool.true_and]
theorem shl_lo (a1 a0 : BitVec 64) (m i : Nat) (hi : i < 64) : (BitVec.ofNat 64 (two a1 a0 * 2 ^ m)).getLsbD i = (decide (m ≤ i) && a0.getLsbD (i - m)) := by
  rw [BitVec.getLsbD_ofNat, ← Nat.shiftLeft_eq, Nat.testBit_shiftLeft, two_bit, decide_eq_true hi, Bool.true_and, if_pos (by omega)]
theorem shr_hi (a1 a0 : BitVec 64) (m i : Nat) (hi : i < 64) : (BitVec.ofNat 64 (two a1 a0 / 2 ^ m / 2 ^ 64)).getLsbD i = a1.getLsbD (m + i) := by
  rw [BitVec.getLsbD_ofNat, ← Nat.shiftRight_eq_div_pow, ← Nat.shiftRight_eq_div_pow, Nat.testBit_shiftRight, Nat.testBit_shiftRight, two_bit, decide_eq_true hi, Bool.true_and, if_neg (by omega), show m + (64 + i) - 64 = m + i by omega]
theorem shr_lo (a1 a0 : BitVec 64) (m i : Nat) (hi : i < 64) : (BitVec.ofNat 64 (two a1 a0 / 2 ^ m)).getLsbD i = if m + i < 64 then a0.getLsbD (m + i) else a1.getLsbD (m + i - 64) := by
  rw [BitVec.getLsbD_ofNat, ← Nat.shiftRight_eq_div_pow, Nat.testBit_shiftRight, two_bit, decide_eq_true hi, Bool.true_and]
theorem shl_far_hi (a1 a0 : BitVec 64) (K m : Nat) (hK : 64 ≤ K) (hm : min K 128 = m) : a0 <<< (K - 64) = BitVec.ofNat 64 (two a1 a0 * 2 ^ m / 2 ^ 64) := by
  apply BitVec.eq_of_getLsbD_eq
  intro i hi
  rw [shl_hi _ _ _ _ hi, BitVec.getLsbD_shiftLeft, decide_eq_true hi, Bool.true_and]
  by_cases h : i < K - 64
  · rw [decide_eq_true h, decide_eq_false (by omega)]; rfl
  · rw [decide_eq_false h, decide_eq_true (by omega), if_pos (by omega), show i - (K - 64) = 64 + i - m by omega]; rfl
theorem shl_far_lo (a1 a0 : BitVec 64) (K m : Nat) (hK : 64 ≤ K) (hm : min K 128 = m) : 0#64 = BitVec.ofNat 64 (two a1 a0 * 2 ^ m) := by
  apply BitVec.eq_of_getLsbD_eq
  intro i hi
  rw [shl_lo _ _ _ _ hi, decide_eq_false (by omega), BitVec.getLsbD_zero, Bool.false_and]
theorem shl_near_hi (a1 a0 : BitVec 64) (K : Nat) (hK : ¬ 64 ≤ K) : a1 <<< K ||| a0 >>> (64 - K) = BitVec.ofNat 64 (two a1 a0 * 2 ^ K / 2 ^ 64) := by
  apply BitVec.eq_of_getLsbD_eq
  intro i hi
  rw [shl_hi _ _ _ _ hi, BitVec.getLsbD_or, BitVec.getLsbD_shiftLeft, BitVec.getLsbD_ushiftRight, decide_eq_true hi, Bool.true_and, decide_eq_true (show K ≤ 64 + i by omega), Bool.true_and]
  by_cases h : i < K
  · rw [decide_eq_true h, if_pos (by omega), show 64 - K + i = 64 + i - K by omega]; rfl
  · rw [decide_eq_false h, if_neg (by omega), get_high a0 _ (by omega), show 64 + i - K - 64 = i - K by omega, Bool.or_false]; rfl
theorem shl_near_lo (a1 a0 : BitVec 64) (K : Nat) : a0 <<< K = BitVec.ofNat 64 (two a1 a0 * 2 ^ K) := by
  apply BitVec.eq_of_getLsbD_eq
  intro i hi
  rw [shl_lo _ _ _ _ hi, BitVec.getLsbD_shiftLeft, decide_eq_true hi, Bool.true_and]
  by_cases h : i < K
  · rw [decide_eq_true h, decide_eq_false (by omega)]; rfl
  · rw [decide_eq_false h, decide_eq_true (by omega)]; rfl
theorem shr_far_hi (a1 a0 : BitVec 64) (K m : Nat) (hK : 64 ≤ K) (hm : min K 128 = m) : 0#64 = BitVec.ofNat 64 (two a1 a0 / 2 ^ m / 2 ^ 64) := by
  apply BitVec.eq_of_getLsbD_eq
  intro i hi
  rw [shr_hi _ _ _ _ hi, BitVec.getLsbD_zero, get_high _ _ (by omega)]
theorem shr_far_lo (a1 a0 : BitVec 64) (K m : Nat) (hK : 64 ≤ K) (hm : min K 128 = m) : a1 >>> (K - 64) = BitVec.ofNat 64 (two a1 a0 / 2 ^ m) := by
  apply BitVec.eq_of_getLsbD_eq
  intro i hi
  rw [shr_lo _ _ _ _ hi, BitVec.getLsbD_ushiftRight, if_neg (by omega)]
  by_cases h : K ≤ 128
  · rw [show K - 64 + i = m + i - 64 by omega]
  · rw [get_high _ _ (by omega), get_high _ _ (by omega)]
theorem shr_near_hi (a1 a0 : BitVec 64) (K : Nat) : a1 >>> K = BitVec.ofNat 64 (two a1 a0 / 2 ^ K / 2 ^ 64) := by
  apply BitVec.eq_of_getLsbD_eq
  intro i hi
  rw [shr_hi _ _ _ _ hi, BitVec.getLsbD_ushiftRight]
theorem shr_near_lo (a1 a0 : BitVec 64) (K : Nat) (hK : ¬ 64 ≤ K) : a0 >>> K ||| a1 <<< (64 - K) = BitVec.ofNat 64 (two a1 a0 / 2 ^ K) := by
  apply BitVec.eq_of_getLsbD_eq
  intro i hi
  rw [shr_lo _ _ _ _ hi, BitVec.getLsbD_or, BitVec.getLsbD_shiftLeft, BitVec.getLsbD_ushiftRight, decide_eq_true hi, Bool.true_and]
  by_cases h : K + i < 64
  · rw [if_pos h, decide_eq_true (show i < 64 - K by omega), Bool.not_true, Bool.false_and, Bool.or_false]
  · rw [if_neg h, get_high a0 _ (by omega), decide_eq_false (show ¬ i < 64 - K by omega), show i - (64 - K) = K + i - 64 by omega]; rfl
end Go.Bv
namespace Go.Proofs.YtebcfbcfipmahaaGreat
open Go.RowKit Go.Bv
set_option linter.unusedVariables false
theorem count_any (n : Int) (w : World) :
    Calls Tryz.prog 154 #[.int .i64 n] w fun e w' => e = .returned (.int .u64 (W64 (BitVec.ofInt 64 (max n 0)))) ∧ w' = w := by
  go_enter Tryz.func154, Tryz.ntmps154
  go_wp2
  all_goals (
    go_ret
    first
      | exact ⟨rfl, rfl⟩
      | (rw [show max n 0 = 0 by omega]; exact ⟨rfl, rfl⟩)
      | (rw [show max n 0 = n by omega]; exact ⟨rfl, rfl⟩))
set_option maxHeartbeats 1000000 in
theorem wshl_two (a1 a0 : BitVec 64) (n : Int) (K m : Nat) (hK : max n 0 = (K : Int)) (hn : n ≤ 9223372036854775807) (hm : min K 128 = m) (w : World) :
    Calls Tryz.prog 157 #[.agg #[.int .u64 (W64 a1), .int .u64 (W64 a0)], .int .i64 n] w fun e w' =>
      e = .returned (.agg #[.int .u64 (W64 (BitVec.ofNat 64 (two a1 a0 * 2 ^ m / 2 ^ 64))), .int .u64 (W64 (BitVec.ofNat 64 (two a1 a0 * 2 ^ m)))]) ∧ New w w' := by
  have hc := fun w => count_any n w
  rw [hK, BitVec.ofInt_natCast] at hc
  have hkb : (BitVec.ofNat 64 K).toNat = K := by rw [BitVec.toNat_ofNat]; omega
  have HC := Lib.hid hc
  clear hc
  generalize BitVec.ofNat 64 K = kb at *
  by_cases h64 : 64 ≤ K
  · have hge : decide (64 ≤ W64 kb) = true := decide_eq_true (by unfold W64; omega)
    have hs : N64 (kb - 64#64) = K - 64 := by show (kb - 64#64).toNat = _; rw [BitVec.toNat_sub]; show (2 ^ 64 - 64 + kb.toNat) % 2 ^ 64 = _; omega
    have HH := Lib.hid (shl_far_hi a1 a0 K m h64 hm)
    have HL := Lib.hid (shl_far_lo a1 a0 K m h64 hm)
    have H0 := Lib.hid lo_zero
    clear h64 hm hkb
    go_enter Tryz.func157, Tryz.ntmps157
    go_wp2_with fail
    refine (HC.out _).mono ?_
    rintro e w1 ⟨rfl, rfl⟩
    go_wp2
    go_returns
    rw [← HH.out, ← HL.out, H0.out]
    exact ⟨rfl, ((New.refl _).alloc _).alloc _⟩
  · have hge : decide (64 ≤ W64 kb) = false := decide_eq_false (by unfold W64; omega)
    have hs : N64 (64#64 - kb) = 64 - K := by show (64#64 - kb).toNat = _; rw [BitVec.toNat_sub]; show (2 ^ 64 - kb.toNat + 64) % 2 ^ 64 = _; omega
    have hk : N64 kb = K := hkb
    obtain rfl : m = K := by omega
    have HH := Lib.hid (shl_near_hi a1 a0 m h64)
    have HL := Lib.hid (shl_near_lo a1 a0 m)
    clear h64 hm hkb
    go_enter Tryz.func157, Tryz.ntmps157
    go_wp2_with fail
    refine (HC.out _).mono ?_
    rintro e w1 ⟨rfl, rfl⟩
    go_wp2
    go_returns
    rw [← HH.out, ← HL.out]
    exact ⟨rfl, ((New.refl _).alloc _).alloc _⟩
set_option maxHeartbeats 1000000 in
theorem wshr_two (a1 a0 : BitVec 64) (n : Int) (K m : Nat) (hK : max n 0 = (K : Int)) (hn : n ≤ 9223372036854775807) (hm : min K 128 = m) (w : World) :
    Calls Tryz.prog 128 #[.agg #[.int .u64 (W64 a1), .int .u64 (W64 a0)], .int .i64 n] w fun e w' =>
      e = .returned (.agg #[.int .u64 (W64 (BitVec.ofNat 64 (two a1 a0 / 2 ^ m / 2 ^ 64))), .int .u64 (W64 (BitVec.ofNat 64 (two a1 a0 / 2 ^ m)))]) ∧ New w w' := by
  have hc := fun w => count_any n w
  rw [hK, BitVec.ofInt_natCast] at hc
  have hkb : (BitVec.ofNat 64 K).toNat = K := by rw [BitVec.toNat_ofNat]; omega
  have HC := Lib.hid hc
  clear hc
  generalize BitVec.ofNat 64 K = kb at *
  by_cases h64 : 64 ≤ K
  · have hge : decide (64 ≤ W64 kb) = true := decide_eq_true (by unfold W64; omega)
    have hs : N64 (kb - 64#64) = K - 64 := by show (kb - 64#64).toNat = _; rw [BitVec.toNat_sub]; show (2 ^ 64 - 64 + kb.toNat) % 2 ^ 64 = _; omega
    have HH := Lib.hid (shr_far_hi a1 a0 K m h64 hm)
    have HL := Lib.hid (shr_far_lo a1 a0 K m h64 hm)
    have H0 := Lib.hid lo_zero
    clear h64 hm hkb
    go_enter Tryz.func128, Tryz.ntmps128
    go_wp2_with fail
    refine (HC.out _).mono ?_
    rintro e w1 ⟨rfl, rfl⟩
    go_wp2
    go_returns
    rw [← HH.out, ← HL.out, H0.out]
    exact ⟨rfl, ((New.refl _).alloc _).alloc _⟩
  · have hge : decide (64 ≤ W64 kb) = false := decide_eq_false (by unfold W64; omega)
    have hs : N64 (64#64 - kb) = 64 - K := by show (64#64 - kb).toNat = _; rw [BitVec.toNat_sub]; show (2 ^ 64 - kb.toNat + 64) % 2 ^ 64 = _; omega
    have hk : N64 kb = K := hkb
    obtain rfl : m = K := by omega
    have HH := Lib.hid (shr_near_hi a1 a0 m)
    have HL := Lib.hid (shr_near_lo a1 a0 m h64)
    clear h64 hm hkb
    go_enter Tryz.func128, Tryz.ntmps128
    go_wp2_with fail
    refine (HC.out _).mono ?_
    rintro e w1 ⟨rfl, rfl⟩
    go_wp2
    go_returns
    rw [← HH.out, ← HL.out]
    exact ⟨rfl, ((New.refl _).alloc _).alloc _⟩
end Go.Proofs.YtebcfbcfipmahaaGreat
