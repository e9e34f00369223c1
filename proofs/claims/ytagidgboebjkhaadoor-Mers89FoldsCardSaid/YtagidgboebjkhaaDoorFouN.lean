/- Plain lemmas: numbers of 256 bits in four words: bits, shifts, lengths. -/
import Derived.Test.YtagidgboebjkhaaDoorFouM
import Derived.Test.YtagidgboebjkhaaDoorBitQ
namespace Go.Bv
open Go Go.RowKit
set_option linter.unusedVariables false
theorem four_bit (x0 x1 x2 x3 : BitVec 64) (i : Nat) : (four x0 x1 x2 x3).testBit i = if i < 64 then x0.getLsbD i else if i < 128 then x1.getLsbD (i - 64) else if i < 192 then x2.getLsbD (i - 128) else x3.getLsbD (i - 192) := by
  obtain ⟨w0, w1, w2, w3⟩ := four_words x0 x1 x2 x3
  have hb : ∀ (s r : Nat), r < 64 → (BitVec.ofNat 64 (four x0 x1 x2 x3 / 2 ^ s)).getLsbD r = (four x0 x1 x2 x3).testBit (s + r) := fun s r hr => by
    rw [BitVec.getLsbD_ofNat, decide_eq_true hr, Bool.true_and, ← Nat.shiftRight_eq_div_pow, Nat.testBit_shiftRight]
  by_cases h0 : i < 64
  · rw [if_pos h0]
    have e := hb 0 i h0
    rw [Nat.pow_zero, Nat.div_one, w0, Nat.zero_add] at e
    exact e.symm
  · rw [if_neg h0]
    by_cases h1 : i < 128
    · rw [if_pos h1]
      have e := hb 64 (i - 64) (by omega)
      rw [w1, show 64 + (i - 64) = i by omega] at e
      exact e.symm
    · rw [if_neg h1]
      by_cases h2 : i < 192
      · rw [if_pos h2]
        have e := hb 128 (i - 128) (by omega)
        rw [w2, show 128 + (i - 128) = i by omega] at e
        exact e.symm
      · rw [if_neg h2]
        by_cases h3 : i < 256
        · have e := hb 192 (i - 192) (by omega)
          rw [w3, show 192 + (i - 192) = i by omega] at e
          exact e.symm
        · rw [BitVec.getLsbD_of_ge _ _ (by omega)]
          exact Nat.testBit_lt_two_pow (Nat.lt_of_lt_of_le (four_lt x0 x1 x2 x3) (Nat.pow_le_pow_right (by omega) (by omega)))
/-- a bit of a word of a shifted number -/
theorem shl_word (A m s i : Nat) (hi : i < 64) : (BitVec.ofNat 64 (A * 2 ^ m / 2 ^ s)).getLsbD i = (decide (m ≤ s + i) && A.testBit (s + i - m)) := by
  rw [BitVec.getLsbD_ofNat, ← Nat.shiftRight_eq_div_pow, ← Nat.shiftLeft_eq, Nat.testBit_shiftRight, Nat.testBit_shiftLeft, decide_eq_true hi, Bool.true_and]
theorem shl_none (A m s : Nat) (h : s + 64 ≤ m) : 0#64 = BitVec.ofNat 64 (A * 2 ^ m / 2 ^ s) := by
  apply BitVec.eq_of_getLsbD_eq
  intro i hi
  rw [shl_word _ _ _ _ hi, decide_eq_false (by omega), BitVec.getLsbD_zero, Bool.false_and]
theorem shl_first (x0 x1 x2 x3 : BitVec 64) (s k : Nat) : x0 <<< k = BitVec.ofNat 64 (four x0 x1 x2 x3 * 2 ^ (s + k) / 2 ^ s) := by
  apply BitVec.eq_of_getLsbD_eq
  intro i hi
  rw [shl_word _ _ _ _ hi, BitVec.getLsbD_shiftLeft, decide_eq_true hi, Bool.true_and, four_bit]
  by_cases h : i < k
  · rw [decide_eq_true h, decide_eq_false (by omega)]; rfl
  · rw [decide_eq_false h, decide_eq_true (by omega), if_pos (by omega), show s + i - (s + k) = i - k by omega]; rfl
theorem join_bit (a b : BitVec 64) (k i : Nat) (hi : i < 64) (hk : k < 64) : (a >>> (64 - k) ||| b <<< k).getLsbD i = if i < k then a.getLsbD (64 + i - k) else b.getLsbD (i - k) := by
  rw [BitVec.getLsbD_or, BitVec.getLsbD_shiftLeft, BitVec.getLsbD_ushiftRight, decide_eq_true hi, Bool.true_and]
  by_cases h : i < k
  · rw [if_pos h, decide_eq_true h, show 64 - k + i = 64 + i - k by omega]; simp
  · rw [if_neg h, decide_eq_false h, BitVec.getLsbD_of_ge a _ (by omega), Bool.false_or]; rfl
theorem shl_next1 (x0 x1 x2 x3 : BitVec 64) (s k : Nat) (hk : k < 64) : x0 >>> (64 - k) ||| x1 <<< k = BitVec.ofNat 64 (four x0 x1 x2 x3 * 2 ^ (s + k) / 2 ^ (s + 64)) := by
  apply BitVec.eq_of_getLsbD_eq
  intro i hi
  rw [shl_word _ _ _ _ hi, decide_eq_true (by omega), Bool.true_and, four_bit, join_bit _ _ _ _ hi hk]
  by_cases h : i < k
  · rw [if_pos h, if_pos (by omega), show s + 64 + i - (s + k) = 64 + i - k by omega]
  · rw [if_neg h, if_neg (by omega), if_pos (by omega), show s + 64 + i - (s + k) - 64 = i - k by omega]
theorem shl_next2 (x0 x1 x2 x3 : BitVec 64) (s k : Nat) (hk : k < 64) : x1 >>> (64 - k) ||| x2 <<< k = BitVec.ofNat 64 (four x0 x1 x2 x3 * 2 ^ (s + k) / 2 ^ (s + 128)) := by
  apply BitVec.eq_of_getLsbD_eq
  intro i hi
  rw [shl_word _ _ _ _ hi, decide_eq_true (by omega), Bool.true_and, four_bit, join_bit _ _ _ _ hi hk]
  by_cases h : i < k
  · rw [if_pos h, if_neg (by omega), if_pos (by omega), show s + 128 + i - (s + k) - 64 = 64 + i - k by omega]
  · rw [if_neg h, if_neg (by omega), if_neg (by omega), if_pos (by omega), show s + 128 + i - (s + k) - 128 = i - k by omega]
theorem shl_next3 (x0 x1 x2 x3 : BitVec 64) (s k : Nat) (hk : k < 64) : x2 >>> (64 - k) ||| x3 <<< k = BitVec.ofNat 64 (four x0 x1 x2 x3 * 2 ^ (s + k) / 2 ^ (s + 192)) := by
  apply BitVec.eq_of_getLsbD_eq
  intro i hi
  rw [shl_word _ _ _ _ hi, decide_eq_true (by omega), Bool.true_and, four_bit, join_bit _ _ _ _ hi hk]
  by_cases h : i < k
  · rw [if_pos h, if_neg (by omega), if_neg (by omega), if_pos (by omega), show s + 192 + i - (s + k) - 128 = 64 + i - k by omega]
  · rw [if_neg h, if_neg (by omega), if_neg (by omega), if_neg (by omega), show s + 192 + i - (s + k) - 192 = i - k by omega]
/-- the length: what the program reckons -/
def len4 (x0 x1 x2 x3 : BitVec 64) : Nat :=
  if x3 = 0#64 then (if x2 = 0#64 then (if x1 = 0#64 then (if x0 = 0#64 then 0 else Lib.bitLen x0.toNat) else 64 + Lib.bitLen x1.toNat) else 128 + Lib.bitLen x2.toNat) else 192 + Lib.bitLen x3.toNat
theorem lenN_is {A : Nat} : ∀ (n L : Nat), L ≤ n → A < 2 ^ L → (L = 0 ∨ 2 ^ (L - 1) ≤ A) → lenN A n = L
  | 0, L, h, _, _ => by have : L = 0 := by omega
                        subst this; rfl
  | n + 1, L, h, h1, h2 => by
    show (if A / 2 ^ n % 2 = 1 then n + 1 else lenN A n) = L
    by_cases e : L = n + 1
    · subst e
      have h3 : 2 ^ n ≤ A := by
        rcases h2 with h2 | h2
        · omega
        · rwa [Nat.add_sub_cancel] at h2
      have h4 : A / 2 ^ n = 1 := by
        rw [Nat.pow_succ] at h1
        exact Nat.div_eq_of_lt_le (by omega) (by omega)
      rw [if_pos (by rw [h4])]
    · have h3 : A < 2 ^ n := Nat.lt_of_lt_of_le h1 (Nat.pow_le_pow_right (by omega) (by omega))
      rw [if_neg (by rw [Nat.div_eq_of_lt h3]; omega)]
      exact lenN_is n L (by omega) h1 h2
theorem bitLen_of (x : BitVec 64) (h : x ≠ 0#64) : 1 ≤ Lib.bitLen x.toNat ∧ Lib.bitLen x.toNat ≤ 64 ∧ 2 ^ (Lib.bitLen x.toNat - 1) ≤ x.toNat ∧ x.toNat < 2 ^ Lib.bitLen x.toNat := by
  have h0 : x.toNat ≠ 0 := fun e => h (BitVec.eq_of_toNat_eq e)
  obtain ⟨h1, h2, h3⟩ := Lib.bitLenAux_bounds 64 x.toNat x.isLt h0
  have h4 : 2 ^ (Lib.bitLenAux 64 x.toNat - 1) < 2 ^ 64 := Nat.lt_of_le_of_lt h2 x.isLt
  have h5 := (Nat.pow_lt_pow_iff_right (by omega : 1 < 2)).1 h4
  exact ⟨h1, by unfold Lib.bitLen; omega, h2, h3⟩
theorem top_len (lo s : Nat) (x : BitVec 64) (h : x ≠ 0#64) (hlo : lo < 2 ^ s) (n : Nat) (hn : s + 64 ≤ n) : lenN (lo + 2 ^ s * x.toNat) n = s + Lib.bitLen x.toNat := by
  obtain ⟨h1, h2, h3, h4⟩ := bitLen_of x h
  refine lenN_is n _ (by omega) ?_ (Or.inr ?_)
  · rw [Nat.pow_add]
    have h5 : 2 ^ s * (x.toNat + 1) ≤ 2 ^ s * 2 ^ Lib.bitLen x.toNat := Nat.mul_le_mul_left _ h4
    rw [Nat.mul_add, Nat.mul_one] at h5
    omega
  · rw [show s + Lib.bitLen x.toNat - 1 = s + (Lib.bitLen x.toNat - 1) by omega, Nat.pow_add]
    have h5 : 2 ^ s * 2 ^ (Lib.bitLen x.toNat - 1) ≤ 2 ^ s * x.toNat := Nat.mul_le_mul_left _ h3
    omega
theorem len4_eq (x0 x1 x2 x3 : BitVec 64) : lenN (four x0 x1 x2 x3) 256 = len4 x0 x1 x2 x3 := by
  have l0 := x0.isLt; have l1 := x1.isLt; have l2 := x2.isLt
  rw [p64] at l0 l1 l2
  unfold len4
  by_cases h3 : x3 = 0#64
  · rw [if_pos h3]
    subst h3
    by_cases h2 : x2 = 0#64
    · rw [if_pos h2]
      subst h2
      by_cases h1 : x1 = 0#64
      · rw [if_pos h1]
        subst h1
        by_cases h0 : x0 = 0#64
        · rw [if_pos h0]; subst h0
          exact lenN_is 256 0 (by omega) (by decide) (Or.inl rfl)
        · rw [if_neg h0]
          have e := top_len 0 0 x0 h0 (by decide) 256 (by omega)
          rw [Nat.zero_add, Nat.pow_zero, Nat.one_mul, Nat.zero_add] at e
          rw [← e]; congr 1
      · rw [if_neg h1]
        have e := top_len x0.toNat 64 x1 h1 (by rw [p64]; exact l0) 256 (by omega)
        rw [← e, p64]; congr 1
    · rw [if_neg h2]
      have e := top_len (x0.toNat + 18446744073709551616 * x1.toNat) 128 x2 h2 (by rw [p128]; omega) 256 (by omega)
      rw [← e, p128]; congr 1
      show x0.toNat + 18446744073709551616 * (x1.toNat + 18446744073709551616 * (x2.toNat + 18446744073709551616 * 0)) = _
      omega
  · rw [if_neg h3]
    have e := top_len (x0.toNat + 18446744073709551616 * (x1.toNat + 18446744073709551616 * x2.toNat)) 192 x3 h3 (by rw [p192]; omega) 256 (by omega)
    rw [← e, p192]; congr 1
    unfold four
    omega
end Go.Bv
