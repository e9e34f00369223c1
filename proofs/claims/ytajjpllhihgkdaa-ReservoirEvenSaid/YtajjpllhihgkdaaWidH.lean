/- Contracts of wide.Shl and wide.Shr: for all numbers of two words, all counts. -/
import Derived.Test.YtajjpllhihgkdaaWidF
namespace Go.Bv
open Go Go.RowKit
theorem two_bit (a1 a0 : BitVec 64) (j : Nat) : (two a1 a0).testBit j = if j < 64 then a0.getLsbD j else a1.getLsbD (j - 64) := by
  unfold two
  rw [Nat.mul_comm, show (18446744073709551616 : Nat) = 2 ^ 64 from rfl, Nat.testBit_two_pow_mul_add _ a0.isLt]
  rfl
theorem get_high (a : BitVec 64) (j : Nat) (h : 64 ≤ j) : a.getLsbD j = false := BitVec.getLsbD_of_ge a j h
theorem shl_hi (a1 a0 : BitVec 64) (m i : Nat) (hi : i < 64) : (BitVec.ofNat 64 (two a1 a0 * 2 ^ m / 2 ^ 64)).getLsbD i = (decide (m ≤ 64 + i) && if 64 + i - m < 64 then a0.getLsbD (64 + i - m) else a1.getLsbD (64 + i - m - 64)) := by
  rw [BitVec.getLsbD_ofNat, ← Nat.shiftRight_eq_div_pow, ← Nat.shiftLeft_eq, Nat.testBit_shiftRight, Nat.testBit_shiftLeft, two_bit, decide_eq_true hi, Bool.true_and]
theorem shl_lo (a1 a0 : BitVec 64) (m i : Nat) (hi : i < 64) : (BitVec.ofNat 64 (two a1 a0 * 2 ^ m)).getLsbD i = (decide (m ≤ i) && a0.getLsbD (i - m)) := by
  rw [BitVec.getLsbD_ofNat, ← Nat.shiftLeft_eq, Nat.testBit_shiftLeft, two_bit, decide_eq_true hi, Bool.true_and, if_pos (by omega)]
theorem shr_hi (a1 a0 : BitVec 64) (m i : Nat) (hi : i < 64) : (BitVec.ofNat 64 (two a1 a0 / 2 ^ m / 2 ^ 64)).getLsbD i = a1.getLsbD (m + i) := by
  rw [BitVec.getLsbD_ofNat, ← Nat.shiftRight_eq_div_pow, ← Nat.shiftRight_eq_div_pow, Nat.testBit_shiftRight, Nat.testBit_shiftRight, two_bit, decide_eq_true hi, Bool.true_and, if_neg (by omega), show m + (64 + i) - 64 = m + i by omega]
theorem shr_lo (a1 a0 : BitVec 64) (m i : Nat) (hi : i < 64) : (BitVec.ofNat 64 (two a1 a0 / 2 ^ m)).getLsbD i = if m + i < 64 then a0.getLsbD (m + i) else a1.getLsbD (m + i - 64) := by
  rw [BitVec.getLsbD_ofNat, ← Nat.shiftRight_eq_div_pow, Nat.testBit_shiftRight, two_bit, decide_eq_true hi, Bool.true_and]
theorem shl_far_hi (a1 a0 : BitVec 64) (K m : Nat) (hK : 64 ≤ K) (hm : min K 128 = m) : a0 <<< (K - 64) = BitVec.ofNat 64 (two a1 a0 * 2 ^ m / 2 ^ 64) := by
  apply BitVec.eq_of_getLsbD_eq
  intro i hi
  rw [shl_hi _ _ _ _ hi, BitVec.getLsbD_shiftLeft, decide_eq_true hi, Bool.true_and]
  by_cases h : i < K - 64
  · rw [decide_eq_true h, decide_eq_false (by omega)]; rfl
  · rw [decide_eq_false h, decide_eq_true (by omega), if_pos (by omega), show i - (K - 64) = 64 + i - m by omega]; rfl
theorem shl_far_lo (a1 a0 : BitVec 64) (K m : Nat) (hK : 64 ≤ K) (hm : min K 128 = m) : 0#64 = BitVec.ofNat 64 (two a1 a0 * 2 ^ m) := by
  apply BitVec.eq_of_getLsbD_eq
  intro i hi
  rw [shl_lo _ _ _ _ hi, decide_eq_false (by omega), BitVec.getLsbD_zero, Bool.false_and]
theorem shl_near_hi (a1 a0 : BitVec 64) (K : Nat) (hK : ¬ 64 ≤ K) : a1 <<< K ||| a0 >>> (64 - K) = BitVec.ofNat 64 (two a1 a0 * 2 ^ K / 2 ^ 64) := by
  apply BitVec.eq_of_getLsbD_eq
  intro i hi
  rw [shl_hi _ _ _ _ hi, BitVec.getLsbD_or, BitVec.getLsbD_shiftLeft, BitVec.getLsbD_ushiftRight, decide_eq_true hi, Bool.true_and, decide_eq_true (show K ≤ 64 + i by omega), Bool.true_and]
  by_cases h : i < K
  · rw [decide_eq_true h, if_pos (by omega), show 64 - K + i = 64 + i - K by omega]; rfl
  · rw [decide_eq_false h, if_neg (by omega), get_high a0 _ (by omega), show 64 + i - K - 64 = i - K by omega, Bool.or_false]; rfl
theorem shl_near_lo (a1 a0 : BitVec 64) (K : Nat) : a0 <<< K = BitVec.ofNat 64 (two a1 a0 * 2 ^ K) := by
  apply BitVec.eq_of_getLsbD_eq
  intro i hi
  rw [shl_lo _ _ _ _ hi, BitVec.getLsbD_shiftLeft, decide_eq_true hi, Bool.true_and]
  by_cases h : i < K
  · rw [decide_eq_true h, decide_eq_false (by omega)]; rfl
  · rw [decide_eq_false h, decide_eq_true (by omega)]; rfl
theorem shr_far_hi (a1 a0 : BitVec 64) (K m : Nat) (hK : 64 ≤ K) (hm : min K 128 = m) : 0#64 = BitVec.ofNat 64 (two a1 a0 / 2 ^ m / 2 ^ 64) := by
  apply BitVec.eq_of_getLsbD_eq
  intro i hi
  rw [shr_hi _ _ _ _ hi, BitVec.getLsbD_zero, get_high _ _ (by omega)]
theorem shr_far_lo (a1 a0 : BitVec 64) (K m : Nat) (hK : 64 ≤ K) (hm : min K 128 = m) : a1 >>> (K - 64) = BitVec.ofNat 64 (two a1 a0 / 2 ^ m) := by
  apply BitVec.eq_of_getLsbD_eq
  intro i hi
  rw [shr_lo _ _ _ _ hi, BitVec.getLsbD_ushiftRight, if_neg (by omega)]
  by_cases h : K ≤ 128
  · rw [show K - 64 + i = m + i - 64 by omega]
  · rw [get_high _ _ (by omega), get_high _ _ (by omega)]
theorem shr_near_hi (a1 a0 : BitVec 64) (K : Nat) : a1 >>> K = BitVec.ofNat 64 (two a1 a0 / 2 ^ K / 2 ^ 64) := by
  apply BitVec.eq_of_getLsbD_eq
  intro i hi
  rw [shr_hi _ _ _ _ hi, BitVec.getLsbD_ushiftRight]
theorem shr_near_lo (a1 a0 : BitVec 64) (K : Nat) (hK : ¬ 64 ≤ K) : a0 >>> K ||| a1 <<< (64 - K) = BitVec.ofNat 64 (two a1 a0 / 2 ^ K) := by
  apply BitVec.eq_of_getLsbD_eq
  intro i hi
  rw [shr_lo _ _ _ _ hi, BitVec.getLsbD_or, BitVec.getLsbD_shiftLeft, BitVec.getLsbD_ushiftRight, decide_eq_true hi, Bool.true_and]
  by_cases h : K + i < 64
  · rw [if_pos h, decide_eq_true (show i < 64 - K by omega), Bool.not_true, Bool.false_and, Bool.or_false]
  · rw [if_neg h, get_high a0 _ (by omega), decide_eq_false (show ¬ i < 64 - K by omega), show i - (64 - K) = K + i - 64 by omega]; rfl
end Go.Bv
namespace Go.Proofs.Ytajjpllhihgkdaa
open Go.RowKit Go.Bv
set_option linter.unusedVariables false
end Go.Proofs.Ytajjpllhihgkdaa
