import Derived.Test.YtfaobdmoifnglaaGreatZDivM
import Derived.Test.YtfaobdmoifnglaaGreatZBitQ
import Derived.Test.YtfaobdmoifnglaaGreatZWidS
import Derived.ChangeKeysEq
import Derived.Laws.StructEq
section
/- Plain lemmas: numbers of 256 bits in four words: sums, differences. -/
namespace Go.Bv
open Go Go.RowKit
set_option linter.unusedVariables false
/-- four words as a number, the lowest first -/
def four (x0 x1 x2 x3 : BitVec 64) : Nat := x0.toNat + 18446744073709551616 * (x1.toNat + 18446744073709551616 * (x2.toNat + 18446744073709551616 * x3.toNat))
theorem p64 : (2 : Nat) ^ 64 = 18446744073709551616 := by decide
theorem p128 : (2 : Nat) ^ 128 = 18446744073709551616 * 18446744073709551616 := by decide
theorem p192 : (2 : Nat) ^ 192 = 18446744073709551616 * (18446744073709551616 * 18446744073709551616) := by decide
theorem p256 : (2 : Nat) ^ 256 = 18446744073709551616 * (18446744073709551616 * (18446744073709551616 * 18446744073709551616)) := by decide
theorem div64s (N : Nat) : N / 2 ^ 64 = N / 18446744073709551616 ∧ N / 2 ^ 128 = N / 18446744073709551616 / 18446744073709551616 ∧ N / 2 ^ 192 = N / 18446744073709551616 / 18446744073709551616 / 18446744073709551616 ∧ N / 2 ^ 256 = N / 18446744073709551616 / 18446744073709551616 / 18446744073709551616 / 18446744073709551616 := by
  refine ⟨by rw [p64], by rw [p128, Nat.div_div_eq_div_mul], by rw [p192, Nat.div_div_eq_div_mul, Nat.div_div_eq_div_mul], ?_⟩
  rw [p256, Nat.div_div_eq_div_mul, Nat.div_div_eq_div_mul, Nat.div_div_eq_div_mul]
theorem up64 (x r : Nat) : (x + 18446744073709551616 * r) / 18446744073709551616 = x / 18446744073709551616 + r := by omega
theorem four_div (x0 x1 x2 x3 : BitVec 64) : four x0 x1 x2 x3 / 18446744073709551616 = x1.toNat + 18446744073709551616 * (x2.toNat + 18446744073709551616 * x3.toNat) := by
  unfold four; rw [up64, Nat.div_eq_of_lt x0.isLt, Nat.zero_add]
theorem four_div2 (x0 x1 x2 x3 : BitVec 64) : four x0 x1 x2 x3 / 18446744073709551616 / 18446744073709551616 = x2.toNat + 18446744073709551616 * x3.toNat := by
  rw [four_div, up64, Nat.div_eq_of_lt x1.isLt, Nat.zero_add]
theorem four_div3 (x0 x1 x2 x3 : BitVec 64) : four x0 x1 x2 x3 / 18446744073709551616 / 18446744073709551616 / 18446744073709551616 = x3.toNat := by
  rw [four_div2, up64, Nat.div_eq_of_lt x2.isLt, Nat.zero_add]
theorem four_lt (x0 x1 x2 x3 : BitVec 64) : four x0 x1 x2 x3 < 2 ^ 256 := by
  have h := (div64s (four x0 x1 x2 x3)).2.2.2
  rw [four_div3, Nat.div_eq_of_lt x3.isLt] at h
  rcases Nat.lt_or_ge (four x0 x1 x2 x3) (2 ^ 256) with h1 | h1
  · exact h1
  · have := Nat.div_pos h1 (by decide)
    omega
theorem low64 {x y : Nat} (h : x % 18446744073709551616 = y % 18446744073709551616) : BitVec.ofNat 64 x = BitVec.ofNat 64 y := by
  apply BitVec.eq_of_toNat_eq; rw [BitVec.toNat_ofNat, BitVec.toNat_ofNat, p64]; exact h
theorem ofNat_low (x : BitVec 64) (r : Nat) : BitVec.ofNat 64 (x.toNat + 18446744073709551616 * r) = x := by
  apply BitVec.eq_of_toNat_eq
  have := x.isLt
  rw [BitVec.toNat_ofNat, p64]; omega
theorem four_words (x0 x1 x2 x3 : BitVec 64) : BitVec.ofNat 64 (four x0 x1 x2 x3) = x0 ∧ BitVec.ofNat 64 (four x0 x1 x2 x3 / 2 ^ 64) = x1 ∧ BitVec.ofNat 64 (four x0 x1 x2 x3 / 2 ^ 128) = x2 ∧ BitVec.ofNat 64 (four x0 x1 x2 x3 / 2 ^ 192) = x3 := by
  obtain ⟨e1, e2, e3, _⟩ := div64s (four x0 x1 x2 x3)
  refine ⟨ofNat_low _ _, ?_, ?_, ?_⟩
  · rw [e1, four_div]; exact ofNat_low _ _
  · rw [e2, four_div2]; exact ofNat_low _ _
  · rw [e3, four_div3, BitVec.ofNat_toNat, BitVec.setWidth_eq]
theorem four_inj {x0 x1 x2 x3 y0 y1 y2 y3 : BitVec 64} (h : four x0 x1 x2 x3 = four y0 y1 y2 y3) : x0 = y0 ∧ x1 = y1 ∧ x2 = y2 ∧ x3 = y3 := by
  obtain ⟨a0, a1, a2, a3⟩ := four_words x0 x1 x2 x3
  obtain ⟨b0, b1, b2, b3⟩ := four_words y0 y1 y2 y3
  rw [h] at a0 a1 a2 a3
  exact ⟨a0.symm.trans b0, a1.symm.trans b1, a2.symm.trans b2, a3.symm.trans b3⟩
/-- the words of a sum, one carry behind the other -/
theorem sum_words (a0 a1 a2 a3 b0 b1 b2 b3 : BitVec 64) (c1 c2 c3 c4 : BitVec 64)
    (h1 : c1 = hiN (a0.toNat + b0.toNat)) (h2 : c2 = hiN (a1.toNat + b1.toNat + c1.toNat)) (h3 : c3 = hiN (a2.toNat + b2.toNat + c2.toNat)) (h4 : c4 = hiN (a3.toNat + b3.toNat + c3.toNat)) :
    (c1.toNat ≤ 1 ∧ c2.toNat ≤ 1 ∧ c3.toNat ≤ 1) ∧
    loN (a0.toNat + b0.toNat) = BitVec.ofNat 64 (four a0 a1 a2 a3 + four b0 b1 b2 b3) ∧ loN (a1.toNat + b1.toNat + c1.toNat) = BitVec.ofNat 64 ((four a0 a1 a2 a3 + four b0 b1 b2 b3) / 2 ^ 64) ∧
    loN (a2.toNat + b2.toNat + c2.toNat) = BitVec.ofNat 64 ((four a0 a1 a2 a3 + four b0 b1 b2 b3) / 2 ^ 128) ∧ loN (a3.toNat + b3.toNat + c3.toNat) = BitVec.ofNat 64 ((four a0 a1 a2 a3 + four b0 b1 b2 b3) / 2 ^ 192) ∧
    (c4 == 1#64) = decide (2 ^ 256 ≤ four a0 a1 a2 a3 + four b0 b1 b2 b3) := by
  have la0 := a0.isLt; have la1 := a1.isLt; have la2 := a2.isLt; have la3 := a3.isLt
  have lb0 := b0.isLt; have lb1 := b1.isLt; have lb2 := b2.isLt; have lb3 := b3.isLt
  have n1 : c1.toNat = (a0.toNat + b0.toNat) / 18446744073709551616 := by rw [h1]; unfold hiN; rw [BitVec.toNat_ofNat]; omega
  have n2 : c2.toNat = (a1.toNat + b1.toNat + c1.toNat) / 18446744073709551616 := by rw [h2]; unfold hiN; rw [BitVec.toNat_ofNat]; omega
  have n3 : c3.toNat = (a2.toNat + b2.toNat + c2.toNat) / 18446744073709551616 := by rw [h3]; unfold hiN; rw [BitVec.toNat_ofNat]; omega
  have n4 : c4.toNat = (a3.toNat + b3.toNat + c3.toNat) / 18446744073709551616 := by rw [h4]; unfold hiN; rw [BitVec.toNat_ofNat]; omega
  have s0 : four a0 a1 a2 a3 + four b0 b1 b2 b3 = (a0.toNat + b0.toNat) + 18446744073709551616 * ((a1.toNat + b1.toNat) + 18446744073709551616 * ((a2.toNat + b2.toNat) + 18446744073709551616 * (a3.toNat + b3.toNat))) := by unfold four; omega
  obtain ⟨e1, e2, e3, e4⟩ := div64s (four a0 a1 a2 a3 + four b0 b1 b2 b3)
  have s1 : (four a0 a1 a2 a3 + four b0 b1 b2 b3) / 18446744073709551616 = (a1.toNat + b1.toNat + c1.toNat) + 18446744073709551616 * ((a2.toNat + b2.toNat) + 18446744073709551616 * (a3.toNat + b3.toNat)) := by rw [s0, up64, n1]; omega
  have s2 : (four a0 a1 a2 a3 + four b0 b1 b2 b3) / 18446744073709551616 / 18446744073709551616 = (a2.toNat + b2.toNat + c2.toNat) + 18446744073709551616 * (a3.toNat + b3.toNat) := by rw [s1, up64, n2]; omega
  have s3 : (four a0 a1 a2 a3 + four b0 b1 b2 b3) / 18446744073709551616 / 18446744073709551616 / 18446744073709551616 = a3.toNat + b3.toNat + c3.toNat := by rw [s2, up64, n3]; omega
  refine ⟨⟨by omega, by omega, by omega⟩, ?_, ?_, ?_, ?_, ?_⟩
  · rw [s0]; exact low64 (by omega)
  · rw [e1, s1]; exact low64 (by omega)
  · rw [e2, s2]; exact low64 (by omega)
  · rw [e3, s3]; rfl
  · have e5 : (2 ^ 256 ≤ four a0 a1 a2 a3 + four b0 b1 b2 b3) ↔ c4.toNat = 1 := by
      rw [s3, ← n4] at e4
      have c4l : c4.toNat ≤ 1 := by omega
      constructor
      · intro h
        have := Nat.div_pos h (by decide)
        omega
      · intro h
        rw [h] at e4
        rcases Nat.lt_or_ge (four a0 a1 a2 a3 + four b0 b1 b2 b3) (2 ^ 256) with h5 | h5
        · rw [Nat.div_eq_of_lt h5] at e4; omega
        · exact h5
    by_cases h : c4 = 1#64
    · rw [beq_iff_eq.2 h, decide_eq_true (e5.2 (by rw [h]; rfl))]
    · rw [beq_eq_false_iff_ne.2 h, decide_eq_false (fun h6 => h (BitVec.eq_of_toNat_eq (e5.1 h6)))]
/-- the borrow of a difference of words -/
def bw (x y k : BitVec 64) : BitVec 64 := if x.toNat < y.toNat + k.toNat then 1#64 else 0#64
theorem bw_le (x y k : BitVec 64) : (bw x y k).toNat ≤ 1 := by unfold bw; split <;> decide
theorem bw_sub (x y k : BitVec 64) (hk : k.toNat ≤ 1) : x.toNat + (bw x y k).toNat * 18446744073709551616 = (x - y - k).toNat + y.toNat + k.toNat := by
  have hx := x.isLt; have hy := y.isLt
  rw [BitVec.toNat_sub, BitVec.toNat_sub, p64]
  unfold bw
  by_cases h : x.toNat < y.toNat + k.toNat
  · rw [if_pos h, show (1#64 : BitVec 64).toNat = 1 from rfl]; omega
  · rw [if_neg h, show (0#64 : BitVec 64).toNat = 0 from rfl]; omega
theorem four_ofNat (E : Nat) (d0 d1 d2 d3 : BitVec 64) (k : Nat) (h : E = four d0 d1 d2 d3 + 2 ^ 256 * k) : BitVec.ofNat 64 E = d0 ∧ BitVec.ofNat 64 (E / 2 ^ 64) = d1 ∧ BitVec.ofNat 64 (E / 2 ^ 128) = d2 ∧ BitVec.ofNat 64 (E / 2 ^ 192) = d3 := by
  have h2 : E = d0.toNat + 18446744073709551616 * (d1.toNat + 18446744073709551616 * (d2.toNat + 18446744073709551616 * (d3.toNat + 18446744073709551616 * k))) := by
    rw [h, p256]; unfold four; simp only [Nat.mul_add, Nat.mul_assoc, Nat.add_assoc]
  obtain ⟨e1, e2, e3, _⟩ := div64s E
  have s1 : E / 18446744073709551616 = d1.toNat + 18446744073709551616 * (d2.toNat + 18446744073709551616 * (d3.toNat + 18446744073709551616 * k)) := by rw [h2, up64, Nat.div_eq_of_lt d0.isLt, Nat.zero_add]
  have s2 : E / 18446744073709551616 / 18446744073709551616 = d2.toNat + 18446744073709551616 * (d3.toNat + 18446744073709551616 * k) := by rw [s1, up64, Nat.div_eq_of_lt d1.isLt, Nat.zero_add]
  have s3 : E / 18446744073709551616 / 18446744073709551616 / 18446744073709551616 = d3.toNat + 18446744073709551616 * k := by rw [s2, up64, Nat.div_eq_of_lt d2.isLt, Nat.zero_add]
  refine ⟨?_, ?_, ?_, ?_⟩
  · rw [h2]; exact ofNat_low _ _
  · rw [e1, s1]; exact ofNat_low _ _
  · rw [e2, s2]; exact ofNat_low _ _
  · rw [e3, s3]; exact ofNat_low _ _
/-- the words of a difference, one borrow behind the other -/
theorem sub_words (a0 a1 a2 a3 b0 b1 b2 b3 : BitVec 64) (k1 k2 k3 k4 : BitVec 64)
    (h1 : k1 = bw a0 b0 0#64) (h2 : k2 = bw a1 b1 k1) (h3 : k3 = bw a2 b2 k2) (h4 : k4 = bw a3 b3 k3) :
    (k1.toNat ≤ 1 ∧ k2.toNat ≤ 1 ∧ k3.toNat ≤ 1) ∧ four a0 a1 a2 a3 + k4.toNat * 2 ^ 256 = four (a0 - b0 - 0#64) (a1 - b1 - k1) (a2 - b2 - k2) (a3 - b3 - k3) + four b0 b1 b2 b3 ∧ (k4 == 1#64) = decide (four a0 a1 a2 a3 < four b0 b1 b2 b3) := by
  have l1 : k1.toNat ≤ 1 := by rw [h1]; exact bw_le _ _ _
  have l2 : k2.toNat ≤ 1 := by rw [h2]; exact bw_le _ _ _
  have l3 : k3.toNat ≤ 1 := by rw [h3]; exact bw_le _ _ _
  have l4 : k4.toNat ≤ 1 := by rw [h4]; exact bw_le _ _ _
  have e1 := bw_sub a0 b0 0#64 (by decide)
  have e2 := bw_sub a1 b1 k1 l1
  have e3 := bw_sub a2 b2 k2 l2
  have e4 := bw_sub a3 b3 k3 l3
  rw [← h1] at e1
  rw [← h2] at e2
  rw [← h3] at e3
  rw [← h4] at e4
  have z : (0#64 : BitVec 64).toNat = 0 := rfl
  rw [z] at e1
  have key : four a0 a1 a2 a3 + k4.toNat * 2 ^ 256 = four (a0 - b0 - 0#64) (a1 - b1 - k1) (a2 - b2 - k2) (a3 - b3 - k3) + four b0 b1 b2 b3 := by
    rw [p256]; unfold four
    generalize (a0 - b0 - 0#64).toNat = d0 at *
    generalize (a1 - b1 - k1).toNat = d1 at *
    generalize (a2 - b2 - k2).toNat = d2 at *
    generalize (a3 - b3 - k3).toNat = d3 at *
    omega
  refine ⟨⟨l1, l2, l3⟩, key, ?_⟩
  have hd := four_lt (a0 - b0 - 0#64) (a1 - b1 - k1) (a2 - b2 - k2) (a3 - b3 - k3)
  have hb := four_lt b0 b1 b2 b3
  have ha := four_lt a0 a1 a2 a3
  generalize four (a0 - b0 - 0#64) (a1 - b1 - k1) (a2 - b2 - k2) (a3 - b3 - k3) = D at *
  generalize four a0 a1 a2 a3 = A at *
  generalize four b0 b1 b2 b3 = B at *
  by_cases h : k4 = 1#64
  · rw [beq_iff_eq.2 h]
    rw [h, show (1#64 : BitVec 64).toNat = 1 from rfl, Nat.one_mul] at key
    rw [decide_eq_true (by omega)]
  · have h0 : k4.toNat = 0 := by
      rcases Nat.lt_or_ge k4.toNat 1 with h5 | h5
      · omega
      · exact absurd (BitVec.eq_of_toNat_eq (by rw [show (1#64 : BitVec 64).toNat = 1 from rfl]; omega)) h
    rw [beq_eq_false_iff_ne.2 h]
    rw [h0, Nat.zero_mul, Nat.add_zero] at key
    rw [decide_eq_false (by omega)]
end Go.Bv
end
section
/- Plain lemmas: numbers of 256 bits in four words: bits, shifts, lengths. -/
namespace Go.Bv
open Go Go.RowKit
set_option linter.unusedVariables false
theorem four_bit (x0 x1 x2 x3 : BitVec 64) (i : Nat) : (four x0 x1 x2 x3).testBit i = if i < 64 then x0.getLsbD i else if i < 128 then x1.getLsbD (i - 64) else if i < 192 then x2.getLsbD (i - 128) else x3.getLsbD (i - 192) := by
  obtain ⟨w0, w1, w2, w3⟩ := four_words x0 x1 x2 x3
  have hb : ∀ (s r : Nat), r < 64 → (BitVec.ofNat 64 (four x0 x1 x2 x3 / 2 ^ s)).getLsbD r = (four x0 x1 x2 x3).testBit (s + r) := fun s r hr => by
    rw [BitVec.getLsbD_ofNat, decide_eq_true hr, Bool.true_and, ← Nat.shiftRight_eq_div_pow, Nat.testBit_shiftRight]
  by_cases h0 : i < 64
  · rw [if_pos h0]
    have e := hb 0 i h0
    rw [Nat.pow_zero, Nat.div_one, w0, Nat.zero_add] at e
    exact e.symm
  · rw [if_neg h0]
    by_cases h1 : i < 128
    · rw [if_pos h1]
      have e := hb 64 (i - 64) (by omega)
      rw [w1, show 64 + (i - 64) = i by omega] at e
      exact e.symm
    · rw [if_neg h1]
      by_cases h2 : i < 192
      · rw [if_pos h2]
        have e := hb 128 (i - 128) (by omega)
        rw [w2, show 128 + (i - 128) = i by omega] at e
        exact e.symm
      · rw [if_neg h2]
        by_cases h3 : i < 256
        · have e := hb 192 (i - 192) (by omega)
          rw [w3, show 192 + (i - 192) = i by omega] at e
          exact e.symm
        · rw [BitVec.getLsbD_of_ge _ _ (by omega)]
          exact Nat.testBit_lt_two_pow (Nat.lt_of_lt_of_le (four_lt x0 x1 x2 x3) (Nat.pow_le_pow_right (by omega) (by omega)))
/-- a bit of a word of a shifted number -/
theorem shl_word (A m s i : Nat) (hi : i < 64) : (BitVec.ofNat 64 (A * 2 ^ m / 2 ^ s)).getLsbD i = (decide (m ≤ s + i) && A.testBit (s + i - m)) := by
  rw [BitVec.getLsbD_ofNat, ← Nat.shiftRight_eq_div_pow, ← Nat.shiftLeft_eq, Nat.testBit_shiftRight, Nat.testBit_shiftLeft, decide_eq_true hi, Bool.true_and]
theorem shl_none (A m s : Nat) (h : s + 64 ≤ m) : 0#64 = BitVec.ofNat 64 (A * 2 ^ m / 2 ^ s) := by
  apply BitVec.eq_of_getLsbD_eq
  intro i hi
  rw [shl_word _ _ _ _ hi, decide_eq_false (by omega), BitVec.getLsbD_zero, Bool.false_and]
theorem shl_first (x0 x1 x2 x3 : BitVec 64) (s k : Nat) : x0 <<< k = BitVec.ofNat 64 (four x0 x1 x2 x3 * 2 ^ (s + k) / 2 ^ s) := by
  apply BitVec.eq_of_getLsbD_eq
  intro i hi
  rw [shl_word _ _ _ _ hi, BitVec.getLsbD_shiftLeft, decide_eq_true hi, Bool.true_and, four_bit]
  by_cases h : i < k
  · rw [decide_eq_true h, decide_eq_false (by omega)]; rfl
  · rw [decide_eq_false h, decide_eq_true (by omega), if_pos (by omega), show s + i - (s + k) = i - k by omega]; rfl
theorem join_bit (a b : BitVec 64) (k i : Nat) (hi : i < 64) (hk : k < 64) : (a >>> (64 - k) ||| b <<< k).getLsbD i = if i < k then a.getLsbD (64 + i - k) else b.getLsbD (i - k) := by
  rw [BitVec.getLsbD_or, BitVec.getLsbD_shiftLeft, BitVec.getLsbD_ushiftRight, decide_eq_true hi, Bool.true_and]
  by_cases h : i < k
  · rw [if_pos h, decide_eq_true h, show 64 - k + i = 64 + i - k by omega]; simp
  · rw [if_neg h, decide_eq_false h, BitVec.getLsbD_of_ge a _ (by omega), Bool.false_or]; rfl
theorem shl_next1 (x0 x1 x2 x3 : BitVec 64) (s k : Nat) (hk : k < 64) : x0 >>> (64 - k) ||| x1 <<< k = BitVec.ofNat 64 (four x0 x1 x2 x3 * 2 ^ (s + k) / 2 ^ (s + 64)) := by
  apply BitVec.eq_of_getLsbD_eq
  intro i hi
  rw [shl_word _ _ _ _ hi, decide_eq_true (by omega), Bool.true_and, four_bit, join_bit _ _ _ _ hi hk]
  by_cases h : i < k
  · rw [if_pos h, if_pos (by omega), show s + 64 + i - (s + k) = 64 + i - k by omega]
  · rw [if_neg h, if_neg (by omega), if_pos (by omega), show s + 64 + i - (s + k) - 64 = i - k by omega]
theorem shl_next2 (x0 x1 x2 x3 : BitVec 64) (s k : Nat) (hk : k < 64) : x1 >>> (64 - k) ||| x2 <<< k = BitVec.ofNat 64 (four x0 x1 x2 x3 * 2 ^ (s + k) / 2 ^ (s + 128)) := by
  apply BitVec.eq_of_getLsbD_eq
  intro i hi
  rw [shl_word _ _ _ _ hi, decide_eq_true (by omega), Bool.true_and, four_bit, join_bit _ _ _ _ hi hk]
  by_cases h : i < k
  · rw [if_pos h, if_neg (by omega), if_pos (by omega), show s + 128 + i - (s + k) - 64 = 64 + i - k by omega]
  · rw [if_neg h, if_neg (by omega), if_neg (by omega), if_pos (by omega), show s + 128 + i - (s + k) - 128 = i - k by omega]
theorem shl_next3 (x0 x1 x2 x3 : BitVec 64) (s k : Nat) (hk : k < 64) : x2 >>> (64 - k) ||| x3 <<< k = BitVec.ofNat 64 (four x0 x1 x2 x3 * 2 ^ (s + k) / 2 ^ (s + 192)) := by
  apply BitVec.eq_of_getLsbD_eq
  intro i hi
  rw [shl_word _ _ _ _ hi, decide_eq_true (by omega), Bool.true_and, four_bit, join_bit _ _ _ _ hi hk]
  by_cases h : i < k
  · rw [if_pos h, if_neg (by omega), if_neg (by omega), if_pos (by omega), show s + 192 + i - (s + k) - 128 = 64 + i - k by omega]
  · rw [if_neg h, if_neg (by omega), if_neg (by omega), if_neg (by omega), show s + 192 + i - (s + k) - 192 = i - k by omega]
/-- the length: what the program reckons -/
def len4 (x0 x1 x2 x3 : BitVec 64) : Nat :=
  if x3 = 0#64 then (if x2 = 0#64 then (if x1 = 0#64 then (if x0 = 0#64 then 0 else Lib.bitLen x0.toNat) else 64 + Lib.bitLen x1.toNat) else 128 + Lib.bitLen x2.toNat) else 192 + Lib.bitLen x3.toNat
theorem lenN_is {A : Nat} : ∀ (n L : Nat), L ≤ n → A < 2 ^ L → (L = 0 ∨ 2 ^ (L - 1) ≤ A) → lenN A n = L
  | 0, L, h, _, _ => by have : L = 0 := by omega
                        subst this; rfl
  | n + 1, L, h, h1, h2 => by
    show (if A / 2 ^ n % 2 = 1 then n + 1 else lenN A n) = L
    by_cases e : L = n + 1
    · subst e
      have h3 : 2 ^ n ≤ A := by
        rcases h2 with h2 | h2
        · omega
        · rwa [Nat.add_sub_cancel] at h2
      have h4 : A / 2 ^ n = 1 := by
        rw [Nat.pow_succ] at h1
        exact Nat.div_eq_of_lt_le (by omega) (by omega)
      rw [if_pos (by rw [h4])]
    · have h3 : A < 2 ^ n := Nat.lt_of_lt_of_le h1 (Nat.pow_le_pow_right (by omega) (by omega))
      rw [if_neg (by rw [Nat.div_eq_of_lt h3]; omega)]
      exact lenN_is n L (by omega) h1 h2
theorem bitLen_of (x : BitVec 64) (h : x ≠ 0#64) : 1 ≤ Lib.bitLen x.toNat ∧ Lib.bitLen x.toNat ≤ 64 ∧ 2 ^ (Lib.bitLen x.toNat - 1) ≤ x.toNat ∧ x.toNat < 2 ^ Lib.bitLen x.toNat := by
  have h0 : x.toNat ≠ 0 := fun e => h (BitVec.eq_of_toNat_eq e)
  obtain ⟨h1, h2, h3⟩ := Lib.bitLenAux_bounds 64 x.toNat x.isLt h0
  have h4 : 2 ^ (Lib.bitLenAux 64 x.toNat - 1) < 2 ^ 64 := Nat.lt_of_le_of_lt h2 x.isLt
  have h5 := (Nat.pow_lt_pow_iff_right (by omega : 1 < 2)).1 h4
  exact ⟨h1, by unfold Lib.bitLen; omega, h2, h3⟩
theorem top_len (lo s : Nat) (x : BitVec 64) (h : x ≠ 0#64) (hlo : lo < 2 ^ s) (n : Nat) (hn : s + 64 ≤ n) : lenN (lo + 2 ^ s * x.toNat) n = s + Lib.bitLen x.toNat := by
  obtain ⟨h1, h2, h3, h4⟩ := bitLen_of x h
  refine lenN_is n _ (by omega) ?_ (Or.inr ?_)
  · rw [Nat.pow_add]
    have h5 : 2 ^ s * (x.toNat + 1) ≤ 2 ^ s * 2 ^ Lib.bitLen x.toNat := Nat.mul_le_mul_left _ h4
    rw [Nat.mul_add, Nat.mul_one] at h5
    omega
  · rw [show s + Lib.bitLen x.toNat - 1 = s + (Lib.bitLen x.toNat - 1) by omega, Nat.pow_add]
    have h5 : 2 ^ s * 2 ^ (Lib.bitLen x.toNat - 1) ≤ 2 ^ s * x.toNat := Nat.mul_le_mul_left _ h3
    omega
theorem len4_eq (x0 x1 x2 x3 : BitVec 64) : lenN (four x0 x1 x2 x3) 256 = len4 x0 x1 x2 x3 := by
  have l0 := x0.isLt; have l1 := x1.isLt; have l2 := x2.isLt
  rw [p64] at l0 l1 l2
  unfold len4
  by_cases h3 : x3 = 0#64
  · rw [if_pos h3]
    subst h3
    by_cases h2 : x2 = 0#64
    · rw [if_pos h2]
      subst h2
      by_cases h1 : x1 = 0#64
      · rw [if_pos h1]
        subst h1
        by_cases h0 : x0 = 0#64
        · rw [if_pos h0]; subst h0
          exact lenN_is 256 0 (by omega) (by decide) (Or.inl rfl)
        · rw [if_neg h0]
          have e := top_len 0 0 x0 h0 (by decide) 256 (by omega)
          rw [Nat.zero_add, Nat.pow_zero, Nat.one_mul, Nat.zero_add] at e
          rw [← e]; congr 1
      · rw [if_neg h1]
        have e := top_len x0.toNat 64 x1 h1 (by rw [p64]; exact l0) 256 (by omega)
        rw [← e, p64]; congr 1
    · rw [if_neg h2]
      have e := top_len (x0.toNat + 18446744073709551616 * x1.toNat) 128 x2 h2 (by rw [p128]; omega) 256 (by omega)
      rw [← e, p128]; congr 1
      show x0.toNat + 18446744073709551616 * (x1.toNat + 18446744073709551616 * (x2.toNat + 18446744073709551616 * 0)) = _
      omega
  · rw [if_neg h3]
    have e := top_len (x0.toNat + 18446744073709551616 * (x1.toNat + 18446744073709551616 * x2.toNat)) 192 x3 h3 (by rw [p192]; omega) 256 (by omega)
    rw [← e, p192]; congr 1
    unfold four
    omega
end Go.Bv
end
section
/- wide.Add4, Sub4. -/
namespace Go.Proofs.YtfaobdmoifnglaaGreat
open Go.RowKit Go.Bv
set_option linter.unusedVariables false
theorem four_blocks (w : World) (A B C D : Obj) : ((((w.alloc A).alloc B).alloc C).alloc D).heap[w.heap.size]? = some A ∧ ((((w.alloc A).alloc B).alloc C).alloc D).heap[w.heap.size + 1]? = some B ∧ ((((w.alloc A).alloc B).alloc C).alloc D).heap[w.heap.size + 2]? = some C ∧ ((((w.alloc A).alloc B).alloc C).alloc D).heap[w.heap.size + 3]? = some D ∧ New w ((((w.alloc A).alloc B).alloc C).alloc D) := by
  have e1 : (w.alloc A).heap.size = w.heap.size + 1 := by simp
  have e2 : ((w.alloc A).alloc B).heap.size = w.heap.size + 2 := by simp
  have e3 : (((w.alloc A).alloc B).alloc C).heap.size = w.heap.size + 3 := by simp
  have n3 := (New.refl (((w.alloc A).alloc B).alloc C)).alloc D
  have n2 := (New.refl ((w.alloc A).alloc B)).alloc C
  have n1 := (New.refl (w.alloc A)).alloc B
  refine ⟨?_, ?_, ?_, ?_, ((((New.refl w).alloc _).alloc _).alloc _).alloc _⟩
  · rw [n3.block _ (by rw [e3]; omega), n2.block _ (by rw [e2]; omega), n1.block _ (by rw [e1]; omega)]; exact heap_alloc_new _ _
  · rw [n3.block _ (by rw [e3]; omega), n2.block _ (by rw [e2]; omega), ← e1]; exact heap_alloc_new _ _
  · rw [n3.block _ (by rw [e3]; omega), ← e2]; exact heap_alloc_new _ _
  · rw [← e3]; exact heap_alloc_new _ _
set_option maxRecDepth 100000 in
set_option maxHeartbeats 8000000 in
theorem add4_run (a0 a1 a2 a3 b0 b1 b2 b3 s0 s1 s2 s3 c1 c2 c3 c4 : BitVec 64)
    (h0 : Hid (∀ w, (callFunc 44 #[.int .u64 (W64 a0), .int .u64 (W64 b0), .int .u64 0]).run Tryz.prog w = .ok (.value (.tuple #[.int .u64 (W64 s0), .int .u64 (W64 c1)])) w))
    (h1 : Hid (∀ w, (callFunc 44 #[.int .u64 (W64 a1), .int .u64 (W64 b1), .int .u64 (W64 c1)]).run Tryz.prog w = .ok (.value (.tuple #[.int .u64 (W64 s1), .int .u64 (W64 c2)])) w))
    (h2 : Hid (∀ w, (callFunc 44 #[.int .u64 (W64 a2), .int .u64 (W64 b2), .int .u64 (W64 c2)]).run Tryz.prog w = .ok (.value (.tuple #[.int .u64 (W64 s2), .int .u64 (W64 c3)])) w))
    (h3 : Hid (∀ w, (callFunc 44 #[.int .u64 (W64 a3), .int .u64 (W64 b3), .int .u64 (W64 c3)]).run Tryz.prog w = .ok (.value (.tuple #[.int .u64 (W64 s3), .int .u64 (W64 c4)])) w)) (w : World) :
    Calls Tryz.prog 26 #[.agg #[.int .u64 (W64 a0), .int .u64 (W64 a1), .int .u64 (W64 a2), .int .u64 (W64 a3)], .agg #[.int .u64 (W64 b0), .int .u64 (W64 b1), .int .u64 (W64 b2), .int .u64 (W64 b3)]] w fun e w' => e = .returned (.tuple #[.agg #[.int .u64 (W64 s0), .int .u64 (W64 s1), .int .u64 (W64 s2), .int .u64 (W64 s3)], .bool (c4 == 1#64)]) ∧ New w w' := by
  go_enter Tryz.func26, Tryz.ntmps26
  go_wp2_with fail
  have hbx := four_blocks w (.cells #[.int .u64 (W64 a0), .int .u64 (W64 a1), .int .u64 (W64 a2), .int .u64 (W64 a3)] 49) (.cells #[.int .u64 (W64 b0), .int .u64 (W64 b1), .int .u64 (W64 b2), .int .u64 (W64 b3)] 49) (.cells #[.int .u64 0, .int .u64 0, .int .u64 0, .int .u64 0] 49) (.cells #[.int .u64 0, .int .u64 0, .int .u64 0, .int .u64 0] 49)
  generalize (((w.alloc (.cells #[.int .u64 (W64 a0), .int .u64 (W64 a1), .int .u64 (W64 a2), .int .u64 (W64 a3)] 49)).alloc (.cells #[.int .u64 (W64 b0), .int .u64 (W64 b1), .int .u64 (W64 b2), .int .u64 (W64 b3)] 49)).alloc (.cells #[.int .u64 0, .int .u64 0, .int .u64 0, .int .u64 0] 49)).alloc (.cells #[.int .u64 0, .int .u64 0, .int .u64 0, .int .u64 0] 49) = wz at *
  have HBX := Lib.hid hbx
  clear hbx
  go_loopw [7, 9] (fun cv iv wr => ((iv = .int .i64 0 ∧ cv = .int .u64 0 ∧ wr.heap[w.heap.size + 3]? = some (.cells #[.int .u64 0, .int .u64 0, .int .u64 0, .int .u64 0] 49 (0, 0))) ∨ (iv = .int .i64 1 ∧ cv = .int .u64 (W64 c1) ∧ wr.heap[w.heap.size + 3]? = some (.cells #[.int .u64 (W64 s0), .int .u64 0, .int .u64 0, .int .u64 0] 49 (0, 0))) ∨ (iv = .int .i64 2 ∧ cv = .int .u64 (W64 c2) ∧ wr.heap[w.heap.size + 3]? = some (.cells #[.int .u64 (W64 s0), .int .u64 (W64 s1), .int .u64 0, .int .u64 0] 49 (0, 0))) ∨ (iv = .int .i64 3 ∧ cv = .int .u64 (W64 c3) ∧ wr.heap[w.heap.size + 3]? = some (.cells #[.int .u64 (W64 s0), .int .u64 (W64 s1), .int .u64 (W64 s2), .int .u64 0] 49 (0, 0))) ∨ (iv = .int .i64 4 ∧ cv = .int .u64 (W64 c4) ∧ wr.heap[w.heap.size + 3]? = some (.cells #[.int .u64 (W64 s0), .int .u64 (W64 s1), .int .u64 (W64 s2), .int .u64 (W64 s3)] 49 (0, 0)))) ∧ wr.heap[w.heap.size]? = some (.cells #[.int .u64 (W64 a0), .int .u64 (W64 a1), .int .u64 (W64 a2), .int .u64 (W64 a3)] 49 (0, 0)) ∧ wr.heap[w.heap.size + 1]? = some (.cells #[.int .u64 (W64 b0), .int .u64 (W64 b1), .int .u64 (W64 b2), .int .u64 (W64 b3)] 49 (0, 0)) ∧ wr.heap[w.heap.size + 2]? = some (.cells #[.int .u64 0, .int .u64 0, .int .u64 0, .int .u64 0] 49 (0, 0)) ∧ New w wr) (fun _ iv _ => 4 - (intOf iv).toNat)
  case atStart => exact ⟨Or.inl ⟨rfl, rfl, HBX.out.2.2.2.1⟩, HBX.out.1, HBX.out.2.1, HBX.out.2.2.1, HBX.out.2.2.2.2⟩
  case round =>
    clear HBX
    obtain ⟨hc, hba, hbb, hbr, hn⟩ := hrel
    have HA := Lib.hid hba
    have HB := Lib.hid hbb
    have HR := Lib.hid hbr
    have HN := Lib.hid hn
    clear hba hbb hbr hn
    rcases hc with ⟨rfl, rfl, hs⟩ | ⟨rfl, rfl, hs⟩ | ⟨rfl, rfl, hs⟩ | ⟨rfl, rfl, hs⟩ | ⟨rfl, rfl, hs⟩
    · have HS := Lib.hid hs
      have hA := cell_of_row _ _ 0 _ _ _ HA.out
      have hB := cell_of_row _ _ 0 _ _ _ HB.out
      have hC := cell_of_row _ _ 0 _ _ _ HS.out
      have hF := frozen_of_row _ _ 0 _ _ HS.out
      have hrun := h0.out
      clear hs h0 h1 h2 h3
      have HD := Lib.hid (heap_setCell_same wr (w.heap.size + 3) 0 _ _ (.int .u64 (W64 s0)) HS.out)
      have HDA := Lib.hid ((heap_setCell_other wr ⟨w.heap.size + 3, 0, none⟩ w.heap.size (.int .u64 (W64 s0)) (by show w.heap.size ≠ w.heap.size + 3; omega)).trans HA.out)
      have HDB := Lib.hid ((heap_setCell_other wr ⟨w.heap.size + 3, 0, none⟩ (w.heap.size + 1) (.int .u64 (W64 s0)) (by show w.heap.size + 1 ≠ w.heap.size + 3; omega)).trans HB.out)
      have HDR := Lib.hid ((heap_setCell_other wr ⟨w.heap.size + 3, 0, none⟩ (w.heap.size + 2) (.int .u64 (W64 s0)) (by show w.heap.size + 2 ≠ w.heap.size + 3; omega)).trans HR.out)
      have HDN := Lib.hid ((HN.out.setCell (p := ⟨w.heap.size + 3, 0, none⟩) (by show w.heap.size ≤ w.heap.size + 3; omega) (.int .u64 (W64 s0))).drew)
      clear HA HB HR HN HS
      go_wp2_with fail
      go_region
      go_wp2
      exact ⟨⟨(Or.inr (Or.inl ⟨rfl, rfl, HD.out⟩)), HDA.out, HDB.out, HDR.out, HDN.out⟩, by simp [intOf]⟩
    · have HS := Lib.hid hs
      have hA := cell_of_row _ _ 1 _ _ _ HA.out
      have hB := cell_of_row _ _ 1 _ _ _ HB.out
      have hC := cell_of_row _ _ 1 _ _ _ HS.out
      have hF := frozen_of_row _ _ 1 _ _ HS.out
      have hrun := h1.out
      clear hs h0 h1 h2 h3
      have HD := Lib.hid (heap_setCell_same wr (w.heap.size + 3) 1 _ _ (.int .u64 (W64 s1)) HS.out)
      have HDA := Lib.hid ((heap_setCell_other wr ⟨w.heap.size + 3, 1, none⟩ w.heap.size (.int .u64 (W64 s1)) (by show w.heap.size ≠ w.heap.size + 3; omega)).trans HA.out)
      have HDB := Lib.hid ((heap_setCell_other wr ⟨w.heap.size + 3, 1, none⟩ (w.heap.size + 1) (.int .u64 (W64 s1)) (by show w.heap.size + 1 ≠ w.heap.size + 3; omega)).trans HB.out)
      have HDR := Lib.hid ((heap_setCell_other wr ⟨w.heap.size + 3, 1, none⟩ (w.heap.size + 2) (.int .u64 (W64 s1)) (by show w.heap.size + 2 ≠ w.heap.size + 3; omega)).trans HR.out)
      have HDN := Lib.hid ((HN.out.setCell (p := ⟨w.heap.size + 3, 1, none⟩) (by show w.heap.size ≤ w.heap.size + 3; omega) (.int .u64 (W64 s1))).drew)
      clear HA HB HR HN HS
      go_wp2_with fail
      go_region
      go_wp2
      exact ⟨⟨(Or.inr (Or.inr (Or.inl ⟨rfl, rfl, HD.out⟩))), HDA.out, HDB.out, HDR.out, HDN.out⟩, by simp [intOf]⟩
    · have HS := Lib.hid hs
      have hA := cell_of_row _ _ 2 _ _ _ HA.out
      have hB := cell_of_row _ _ 2 _ _ _ HB.out
      have hC := cell_of_row _ _ 2 _ _ _ HS.out
      have hF := frozen_of_row _ _ 2 _ _ HS.out
      have hrun := h2.out
      clear hs h0 h1 h2 h3
      have HD := Lib.hid (heap_setCell_same wr (w.heap.size + 3) 2 _ _ (.int .u64 (W64 s2)) HS.out)
      have HDA := Lib.hid ((heap_setCell_other wr ⟨w.heap.size + 3, 2, none⟩ w.heap.size (.int .u64 (W64 s2)) (by show w.heap.size ≠ w.heap.size + 3; omega)).trans HA.out)
      have HDB := Lib.hid ((heap_setCell_other wr ⟨w.heap.size + 3, 2, none⟩ (w.heap.size + 1) (.int .u64 (W64 s2)) (by show w.heap.size + 1 ≠ w.heap.size + 3; omega)).trans HB.out)
      have HDR := Lib.hid ((heap_setCell_other wr ⟨w.heap.size + 3, 2, none⟩ (w.heap.size + 2) (.int .u64 (W64 s2)) (by show w.heap.size + 2 ≠ w.heap.size + 3; omega)).trans HR.out)
      have HDN := Lib.hid ((HN.out.setCell (p := ⟨w.heap.size + 3, 2, none⟩) (by show w.heap.size ≤ w.heap.size + 3; omega) (.int .u64 (W64 s2))).drew)
      clear HA HB HR HN HS
      go_wp2_with fail
      go_region
      go_wp2
      exact ⟨⟨(Or.inr (Or.inr (Or.inr (Or.inl ⟨rfl, rfl, HD.out⟩)))), HDA.out, HDB.out, HDR.out, HDN.out⟩, by simp [intOf]⟩
    · have HS := Lib.hid hs
      have hA := cell_of_row _ _ 3 _ _ _ HA.out
      have hB := cell_of_row _ _ 3 _ _ _ HB.out
      have hC := cell_of_row _ _ 3 _ _ _ HS.out
      have hF := frozen_of_row _ _ 3 _ _ HS.out
      have hrun := h3.out
      clear hs h0 h1 h2 h3
      have HD := Lib.hid (heap_setCell_same wr (w.heap.size + 3) 3 _ _ (.int .u64 (W64 s3)) HS.out)
      have HDA := Lib.hid ((heap_setCell_other wr ⟨w.heap.size + 3, 3, none⟩ w.heap.size (.int .u64 (W64 s3)) (by show w.heap.size ≠ w.heap.size + 3; omega)).trans HA.out)
      have HDB := Lib.hid ((heap_setCell_other wr ⟨w.heap.size + 3, 3, none⟩ (w.heap.size + 1) (.int .u64 (W64 s3)) (by show w.heap.size + 1 ≠ w.heap.size + 3; omega)).trans HB.out)
      have HDR := Lib.hid ((heap_setCell_other wr ⟨w.heap.size + 3, 3, none⟩ (w.heap.size + 2) (.int .u64 (W64 s3)) (by show w.heap.size + 2 ≠ w.heap.size + 3; omega)).trans HR.out)
      have HDN := Lib.hid ((HN.out.setCell (p := ⟨w.heap.size + 3, 3, none⟩) (by show w.heap.size ≤ w.heap.size + 3; omega) (.int .u64 (W64 s3))).drew)
      clear HA HB HR HN HS
      go_wp2_with fail
      go_region
      go_wp2
      exact ⟨⟨(Or.inr (Or.inr (Or.inr (Or.inr ⟨rfl, rfl, HD.out⟩)))), HDA.out, HDB.out, HDR.out, HDN.out⟩, by simp [intOf]⟩
    · have r0 : wr.cell? ⟨w.heap.size + 3, 0, none⟩ = some (.int .u64 (W64 s0)) := by rw [cell_of_row _ _ _ _ _ _ hs]; rfl
      have r1 : wr.cell? ⟨w.heap.size + 3, 1, none⟩ = some (.int .u64 (W64 s1)) := by rw [cell_of_row _ _ _ _ _ _ hs]; rfl
      have r2 : wr.cell? ⟨w.heap.size + 3, 2, none⟩ = some (.int .u64 (W64 s2)) := by rw [cell_of_row _ _ _ _ _ _ hs]; rfl
      have r3 : wr.cell? ⟨w.heap.size + 3, 3, none⟩ = some (.int .u64 (W64 s3)) := by rw [cell_of_row _ _ _ _ _ _ hs]; rfl
      have q0 : wr.cell? ⟨w.heap.size + 2, 0, none⟩ = some (.int .u64 0) := by rw [cell_of_row _ _ _ _ _ _ HR.out]; rfl
      have q1 : wr.cell? ⟨w.heap.size + 2, 1, none⟩ = some (.int .u64 0) := by rw [cell_of_row _ _ _ _ _ _ HR.out]; rfl
      have q2 : wr.cell? ⟨w.heap.size + 2, 2, none⟩ = some (.int .u64 0) := by rw [cell_of_row _ _ _ _ _ _ HR.out]; rfl
      have q3 : wr.cell? ⟨w.heap.size + 2, 3, none⟩ = some (.int .u64 0) := by rw [cell_of_row _ _ _ _ _ _ HR.out]; rfl
      have hF := fun i => frozen_of_row _ _ i _ _ HR.out
      clear hs h0 h1 h2 h3 HA HB HR
      go_wp2
      refine bodyPost_ret (by simp [results, Tryz.results26, go_sem, q0, q1, q2, q3]; try rfl) rfl ?_
      exact ⟨rfl, (((HN.out.setCell (by simp; try omega) _).setCell (by simp; try omega) _).setCell (by simp; try omega) _).setCell (by simp; try omega) _⟩
theorem wadd4 (a0 a1 a2 a3 b0 b1 b2 b3 : BitVec 64) (w : World) :
    Calls Tryz.prog 26 #[.agg #[.int .u64 (W64 a0), .int .u64 (W64 a1), .int .u64 (W64 a2), .int .u64 (W64 a3)], .agg #[.int .u64 (W64 b0), .int .u64 (W64 b1), .int .u64 (W64 b2), .int .u64 (W64 b3)]] w fun e w' => ∃ s0 s1 s2 s3,
      e = .returned (.tuple #[.agg #[.int .u64 (W64 s0), .int .u64 (W64 s1), .int .u64 (W64 s2), .int .u64 (W64 s3)], .bool (decide (2 ^ 256 ≤ four a0 a1 a2 a3 + four b0 b1 b2 b3))]) ∧
      (s0 = BitVec.ofNat 64 (four a0 a1 a2 a3 + four b0 b1 b2 b3) ∧ s1 = BitVec.ofNat 64 ((four a0 a1 a2 a3 + four b0 b1 b2 b3) / 2 ^ 64) ∧ s2 = BitVec.ofNat 64 ((four a0 a1 a2 a3 + four b0 b1 b2 b3) / 2 ^ 128) ∧ s3 = BitVec.ofNat 64 ((four a0 a1 a2 a3 + four b0 b1 b2 b3) / 2 ^ 192)) ∧ New w w' := by
  obtain ⟨⟨l1, l2, l3⟩, e0, e1, e2, e3, ec⟩ := sum_words a0 a1 a2 a3 b0 b1 b2 b3 _ _ _ _ rfl rfl rfl rfl
  rw [← ec]
  refine (add4_run a0 a1 a2 a3 b0 b1 b2 b3 _ _ _ _ _ _ _ _ (Lib.hid fun w => add64_run0 a0 b0 w) (Lib.hid fun w => add64_run a1 b1 _ l1 w) (Lib.hid fun w => add64_run a2 b2 _ l2 w) (Lib.hid fun w => add64_run a3 b3 _ l3 w) w).mono ?_
  rintro e w9 ⟨rfl, hn⟩
  exact ⟨_, _, _, _, rfl, ⟨e0, e1, e2, e3⟩, hn⟩
end Go.Proofs.YtfaobdmoifnglaaGreat
end
section
/- wide.Cmp4, Len4, Of4. -/
namespace Go.Proofs.YtfaobdmoifnglaaGreat
open Go.RowKit Go.Bv
set_option linter.unusedVariables false
theorem eq4F (x0 x1 x2 x3 y0 y1 y2 y3 : BitVec 64) : (x0 == y0 && (x1 == y1 && (x2 == y2 && x3 == y3))) = decide (four x0 x1 x2 x3 = four y0 y1 y2 y3) := by
  by_cases h : four x0 x1 x2 x3 = four y0 y1 y2 y3
  · obtain ⟨rfl, rfl, rfl, rfl⟩ := four_inj h
    rw [decide_eq_true rfl]; simp
  · rw [decide_eq_false h]
    by_cases h0 : x0 = y0
    · by_cases h1 : x1 = y1
      · by_cases h2 : x2 = y2
        · by_cases h3 : x3 = y3
          · exact absurd (by rw [h0, h1, h2, h3]) h
          · rw [beq_eq_false_iff_ne.2 h3]; simp
        · rw [beq_eq_false_iff_ne.2 h2]; simp
      · rw [beq_eq_false_iff_ne.2 h1]; simp
    · rw [beq_eq_false_iff_ne.2 h0]; simp
theorem two_b4 (w : World) (A B : Obj) : ((w.alloc A).alloc B).heap[w.heap.size]? = some A ∧ ((w.alloc A).alloc B).heap[w.heap.size + 1]? = some B ∧ New w ((w.alloc A).alloc B) := by
  have e1 : (w.alloc A).heap.size = w.heap.size + 1 := by simp
  refine ⟨?_, ?_, ((New.refl w).alloc _).alloc _⟩
  · rw [((New.refl (w.alloc A)).alloc B).block _ (by rw [e1]; omega)]; exact heap_alloc_new _ _
  · rw [← e1]; exact heap_alloc_new _ _
set_option maxHeartbeats 4000000 in
theorem wlen4_run (a0 a1 a2 a3 : BitVec 64) (L1 L2 L3 L4 : Nat) (h1 : L1 = (if a0 = 0#64 then 0 else Lib.bitLen a0.toNat)) (h2 : L2 = (if a1 = 0#64 then L1 else 64 + Lib.bitLen a1.toNat)) (h3 : L3 = (if a2 = 0#64 then L2 else 128 + Lib.bitLen a2.toNat)) (h4 : L4 = (if a3 = 0#64 then L3 else 192 + Lib.bitLen a3.toNat)) (w : World) :
    Calls Tryz.prog 140 #[.agg #[.int .u64 (W64 a0), .int .u64 (W64 a1), .int .u64 (W64 a2), .int .u64 (W64 a3)]] w fun e w' => e = .returned (.int .i64 (L4 : Nat)) ∧ New w w' := by
  have HL1 := Lib.hid h1
  have HL2 := Lib.hid h2
  have HL3 := Lib.hid h3
  have HL4 := Lib.hid h4
  have HBX := Lib.hid (heap_alloc_new w (.cells #[.int .u64 (W64 a0), .int .u64 (W64 a1), .int .u64 (W64 a2), .int .u64 (W64 a3)] 49))
  have HN0 := Lib.hid ((New.refl w).alloc (.cells #[.int .u64 (W64 a0), .int .u64 (W64 a1), .int .u64 (W64 a2), .int .u64 (W64 a3)] 49))
  clear h1 h2 h3 h4
  go_enter Tryz.func140, Tryz.ntmps140
  go_wp2_with fail
  generalize w.alloc (.cells #[.int .u64 (W64 a0), .int .u64 (W64 a1), .int .u64 (W64 a2), .int .u64 (W64 a3)] 49) = wz at *
  go_loopw [3, 5] (fun lv iv wr => ((iv = .int .i64 0 ∧ lv = .int .i64 0) ∨ (iv = .int .i64 1 ∧ lv = .int .i64 (L1 : Nat)) ∨ (iv = .int .i64 2 ∧ lv = .int .i64 (L2 : Nat)) ∨ (iv = .int .i64 3 ∧ lv = .int .i64 (L3 : Nat)) ∨ (iv = .int .i64 4 ∧ lv = .int .i64 (L4 : Nat))) ∧ wr = wz) (fun _ iv _ => 4 - (intOf iv).toNat)
  case atStart => exact ⟨Or.inl ⟨rfl, rfl⟩, rfl⟩
  case round =>
    obtain ⟨hc, hwr⟩ := hrel
    replace hwr := hwr.symm
    subst hwr
    rcases hc with ⟨rfl, rfl⟩ | ⟨rfl, rfl⟩ | ⟨rfl, rfl⟩ | ⟨rfl, rfl⟩ | ⟨rfl, rfl⟩
    · have hA : wz.cell? ⟨w.heap.size, 0, none⟩ = some (.int .u64 (W64 a0)) := by rw [cell_of_row _ _ _ _ _ _ HBX.out]; rfl
      by_cases h0 : a0 = 0#64
      · have HE : Hid (L1 = 0) := Lib.hid (by rw [HL1.out, if_pos h0])
        rw [h0, lo_zero] at hA
        clear h0
        go_wp2
        exact ⟨⟨(Or.inr (Or.inl ⟨rfl, by rw [HE.out] <;> first | rfl | simp⟩)), by first | rfl | trivial⟩, by simp [intOf]⟩
      · have HE : Hid (L1 = Lib.bitLen a0.toNat) := Lib.hid (by rw [HL1.out, if_neg h0])
        have hne : (a0 != 0#64) = true := by rw [bne_iff_ne]; exact h0
        have hl := (bitLen_of a0 h0).2.1
        have HB := Lib.hid (fun w => Tryz.bits_Len64 (W64 a0) w (by unfold W64; omega) (by have := a0.isLt; unfold W64; omega))
        rw [show (W64 a0).toNat = a0.toNat from toNat_W64 _] at HB
        clear h0
        obtain ⟨l, hl2⟩ : ∃ z, Lib.bitLen a0.toNat = z := ⟨_, rfl⟩
        rw [hl2] at hl HB HE
        clear hl2
        go_wp2_with fail
        refine (HB.out _).mono ?_
        rintro e w' ⟨rfl, hw⟩
        replace hw := hw.symm
        subst hw
        go_wp2
        exact ⟨⟨(Or.inr (Or.inl ⟨rfl, by rw [HE.out] <;> first | rfl | simp⟩)), by first | rfl | trivial⟩, by simp [intOf]⟩
    · have hA : wz.cell? ⟨w.heap.size, 1, none⟩ = some (.int .u64 (W64 a1)) := by rw [cell_of_row _ _ _ _ _ _ HBX.out]; rfl
      by_cases h0 : a1 = 0#64
      · have HE : Hid (L2 = L1) := Lib.hid (by rw [HL2.out, if_pos h0])
        rw [h0, lo_zero] at hA
        clear h0
        go_wp2
        exact ⟨⟨(Or.inr (Or.inr (Or.inl ⟨rfl, by rw [HE.out] <;> first | rfl | simp⟩))), by first | rfl | trivial⟩, by simp [intOf]⟩
      · have HE : Hid (L2 = 64 + Lib.bitLen a1.toNat) := Lib.hid (by rw [HL2.out, if_neg h0])
        have hne : (a1 != 0#64) = true := by rw [bne_iff_ne]; exact h0
        have hl := (bitLen_of a1 h0).2.1
        have HB := Lib.hid (fun w => Tryz.bits_Len64 (W64 a1) w (by unfold W64; omega) (by have := a1.isLt; unfold W64; omega))
        rw [show (W64 a1).toNat = a1.toNat from toNat_W64 _] at HB
        clear h0
        obtain ⟨l, hl2⟩ : ∃ z, Lib.bitLen a1.toNat = z := ⟨_, rfl⟩
        rw [hl2] at hl HB HE
        clear hl2
        go_wp2_with fail
        refine (HB.out _).mono ?_
        rintro e w' ⟨rfl, hw⟩
        replace hw := hw.symm
        subst hw
        go_wp2
        exact ⟨⟨(Or.inr (Or.inr (Or.inl ⟨rfl, by rw [HE.out] <;> first | rfl | simp⟩))), by first | rfl | trivial⟩, by simp [intOf]⟩
    · have hA : wz.cell? ⟨w.heap.size, 2, none⟩ = some (.int .u64 (W64 a2)) := by rw [cell_of_row _ _ _ _ _ _ HBX.out]; rfl
      by_cases h0 : a2 = 0#64
      · have HE : Hid (L3 = L2) := Lib.hid (by rw [HL3.out, if_pos h0])
        rw [h0, lo_zero] at hA
        clear h0
        go_wp2
        exact ⟨⟨(Or.inr (Or.inr (Or.inr (Or.inl ⟨rfl, by rw [HE.out] <;> first | rfl | simp⟩)))), by first | rfl | trivial⟩, by simp [intOf]⟩
      · have HE : Hid (L3 = 128 + Lib.bitLen a2.toNat) := Lib.hid (by rw [HL3.out, if_neg h0])
        have hne : (a2 != 0#64) = true := by rw [bne_iff_ne]; exact h0
        have hl := (bitLen_of a2 h0).2.1
        have HB := Lib.hid (fun w => Tryz.bits_Len64 (W64 a2) w (by unfold W64; omega) (by have := a2.isLt; unfold W64; omega))
        rw [show (W64 a2).toNat = a2.toNat from toNat_W64 _] at HB
        clear h0
        obtain ⟨l, hl2⟩ : ∃ z, Lib.bitLen a2.toNat = z := ⟨_, rfl⟩
        rw [hl2] at hl HB HE
        clear hl2
        go_wp2_with fail
        refine (HB.out _).mono ?_
        rintro e w' ⟨rfl, hw⟩
        replace hw := hw.symm
        subst hw
        go_wp2
        exact ⟨⟨(Or.inr (Or.inr (Or.inr (Or.inl ⟨rfl, by rw [HE.out] <;> first | rfl | simp⟩)))), by first | rfl | trivial⟩, by simp [intOf]⟩
    · have hA : wz.cell? ⟨w.heap.size, 3, none⟩ = some (.int .u64 (W64 a3)) := by rw [cell_of_row _ _ _ _ _ _ HBX.out]; rfl
      by_cases h0 : a3 = 0#64
      · have HE : Hid (L4 = L3) := Lib.hid (by rw [HL4.out, if_pos h0])
        rw [h0, lo_zero] at hA
        clear h0
        go_wp2
        exact ⟨⟨(Or.inr (Or.inr (Or.inr (Or.inr ⟨rfl, by rw [HE.out] <;> first | rfl | simp⟩)))), by first | rfl | trivial⟩, by simp [intOf]⟩
      · have HE : Hid (L4 = 192 + Lib.bitLen a3.toNat) := Lib.hid (by rw [HL4.out, if_neg h0])
        have hne : (a3 != 0#64) = true := by rw [bne_iff_ne]; exact h0
        have hl := (bitLen_of a3 h0).2.1
        have HB := Lib.hid (fun w => Tryz.bits_Len64 (W64 a3) w (by unfold W64; omega) (by have := a3.isLt; unfold W64; omega))
        rw [show (W64 a3).toNat = a3.toNat from toNat_W64 _] at HB
        clear h0
        obtain ⟨l, hl2⟩ : ∃ z, Lib.bitLen a3.toNat = z := ⟨_, rfl⟩
        rw [hl2] at hl HB HE
        clear hl2
        go_wp2_with fail
        refine (HB.out _).mono ?_
        rintro e w' ⟨rfl, hw⟩
        replace hw := hw.symm
        subst hw
        go_wp2
        exact ⟨⟨(Or.inr (Or.inr (Or.inr (Or.inr ⟨rfl, by rw [HE.out] <;> first | rfl | simp⟩)))), by first | rfl | trivial⟩, by simp [intOf]⟩
    · go_wp2
      go_ret
      exact ⟨rfl, HN0.out⟩
theorem wof4 (x : BitVec 64) (w : World) :
    Calls Tryz.prog 27 #[.int .u64 (W64 x)] w fun e w' => e = .returned (.agg #[.int .u64 (W64 x), .int .u64 0, .int .u64 0, .int .u64 0]) ∧ New w w' := by
  go_enter Tryz.func27, Tryz.ntmps27
  go_wp2
  go_returns
  first | exact ⟨rfl, (New.refl _).alloc _⟩ | exact ⟨rfl, (((((New.refl w).alloc _).setCell (by simp) _).setCell (by simp) _).setCell (by simp) _).setCell (by simp) _⟩
end Go.Proofs.YtfaobdmoifnglaaGreat
end
section
/- wide.Bit4; the document's Of4. -/
namespace Go.Proofs.YtfaobdmoifnglaaGreat
open Go.RowKit Go.Bv
set_option linter.unusedVariables false
theorem bit_word (x : BitVec 64) (r : Nat) : (x >>> r &&& 1#64 == 1#64) = x.getLsbD r := by
  have h : x >>> r &&& 1#64 = if x.getLsbD r then 1#64 else 0#64 := by
    apply BitVec.eq_of_getLsbD_eq
    intro i hi
    rw [BitVec.getLsbD_and, BitVec.getLsbD_ushiftRight]
    by_cases h0 : i = 0
    · subst h0
      rw [Nat.add_zero]
      cases x.getLsbD r <;> rfl
    · have e1 : (1#64).getLsbD i = false := by rw [BitVec.getLsbD_one]; simp [h0]
      rw [e1, Bool.and_false]
      cases x.getLsbD r
      · simp
      · simp [e1]
  rw [h]
  cases x.getLsbD r <;> rfl
set_option maxRecDepth 100000 in
set_option maxHeartbeats 2000000 in
theorem wbit4_in (a0 a1 a2 a3 : BitVec 64) (q r m : Nat) (hq : q < 4) (hr : r < 64) (hm : m = 64 * q + r) (w : World) :
    Calls Tryz.prog 142 #[.agg #[.int .u64 (W64 a0), .int .u64 (W64 a1), .int .u64 (W64 a2), .int .u64 (W64 a3)], .int .i64 (m : Int)] w fun e w' => e = .returned (.bool ((four a0 a1 a2 a3).testBit m)) ∧ New w w' := by
  have HBX := Lib.hid (heap_alloc_new w (.cells #[.int .u64 (W64 a0), .int .u64 (W64 a1), .int .u64 (W64 a2), .int .u64 (W64 a3)] 49))
  have HN0 := Lib.hid ((New.refl w).alloc (.cells #[.int .u64 (W64 a0), .int .u64 (W64 a1), .int .u64 (W64 a2), .int .u64 (W64 a3)] 49))
  have h1 : Int.tdiv (m : Int) 64 = (q : Int) := by rw [Int.tdiv_eq_ediv_of_nonneg (by omega)]; omega
  have h2 : Int.tmod (m : Int) 64 = (r : Int) := by rw [Int.tmod_eq_emod_of_nonneg (by omega)]; omega
  have h3 : (m : Int) / 64 = (q : Int) := by omega
  have h4 : (m : Int) % 64 = (r : Int) := by omega
  have hlt : (m : Int) < 256 := by omega
  have hge : (0 : Int) ≤ (m : Int) := by omega
  have hr0 : (0 : Int) ≤ (r : Int) := by omega
  have hrm : (r : Int) < 64 := by omega
  have HT := Lib.hid (four_bit a0 a1 a2 a3 m)
  have HR := Lib.hid (And.intro hr hm)
  rcases (show q = 0 ∨ q = 1 ∨ q = 2 ∨ q = 3 by omega) with rfl | rfl | rfl | rfl
  · have HE : Hid ((four a0 a1 a2 a3).testBit m = (a0 >>> r &&& 1#64 == 1#64)) := Lib.hid (by rw [bit_word, HT.out, if_pos (by have := HR.out; omega)]; rw [show m = r by have := HR.out; omega])
    have hA : (w.alloc (.cells #[.int .u64 (W64 a0), .int .u64 (W64 a1), .int .u64 (W64 a2), .int .u64 (W64 a3)] 49)).cell? ⟨w.heap.size, 0, none⟩ = some (.int .u64 (W64 a0)) := by rw [cell_of_row _ _ _ _ _ _ HBX.out]; rfl
    clear hq hr hm
    go_enter Tryz.func142, Tryz.ntmps142
    go_wp2
    go_ret
    rw [HE.out]
    exact ⟨rfl, HN0.out⟩
  · have HE : Hid ((four a0 a1 a2 a3).testBit m = (a1 >>> r &&& 1#64 == 1#64)) := Lib.hid (by rw [bit_word, HT.out, if_neg (by have := HR.out; omega), if_pos (by have := HR.out; omega)]; rw [show m - 64 = r by have := HR.out; omega])
    have hA : (w.alloc (.cells #[.int .u64 (W64 a0), .int .u64 (W64 a1), .int .u64 (W64 a2), .int .u64 (W64 a3)] 49)).cell? ⟨w.heap.size, 1, none⟩ = some (.int .u64 (W64 a1)) := by rw [cell_of_row _ _ _ _ _ _ HBX.out]; rfl
    clear hq hr hm
    go_enter Tryz.func142, Tryz.ntmps142
    go_wp2
    go_ret
    rw [HE.out]
    exact ⟨rfl, HN0.out⟩
  · have HE : Hid ((four a0 a1 a2 a3).testBit m = (a2 >>> r &&& 1#64 == 1#64)) := Lib.hid (by rw [bit_word, HT.out, if_neg (by have := HR.out; omega), if_neg (by have := HR.out; omega), if_pos (by have := HR.out; omega)]; rw [show m - 128 = r by have := HR.out; omega])
    have hA : (w.alloc (.cells #[.int .u64 (W64 a0), .int .u64 (W64 a1), .int .u64 (W64 a2), .int .u64 (W64 a3)] 49)).cell? ⟨w.heap.size, 2, none⟩ = some (.int .u64 (W64 a2)) := by rw [cell_of_row _ _ _ _ _ _ HBX.out]; rfl
    clear hq hr hm
    go_enter Tryz.func142, Tryz.ntmps142
    go_wp2
    go_ret
    rw [HE.out]
    exact ⟨rfl, HN0.out⟩
  · have HE : Hid ((four a0 a1 a2 a3).testBit m = (a3 >>> r &&& 1#64 == 1#64)) := Lib.hid (by rw [bit_word, HT.out, if_neg (by have := HR.out; omega), if_neg (by have := HR.out; omega), if_neg (by have := HR.out; omega)]; rw [show m - 192 = r by have := HR.out; omega])
    have hA : (w.alloc (.cells #[.int .u64 (W64 a0), .int .u64 (W64 a1), .int .u64 (W64 a2), .int .u64 (W64 a3)] 49)).cell? ⟨w.heap.size, 3, none⟩ = some (.int .u64 (W64 a3)) := by rw [cell_of_row _ _ _ _ _ _ HBX.out]; rfl
    clear hq hr hm
    go_enter Tryz.func142, Tryz.ntmps142
    go_wp2
    go_ret
    rw [HE.out]
    exact ⟨rfl, HN0.out⟩
set_option maxHeartbeats 2000000 in
theorem wbit4 (a0 a1 a2 a3 : BitVec 64) (n : Int) (w : World) :
    Calls Tryz.prog 142 #[.agg #[.int .u64 (W64 a0), .int .u64 (W64 a1), .int .u64 (W64 a2), .int .u64 (W64 a3)], .int .i64 n] w fun e w' => e = .returned (.bool (decide (0 ≤ n ∧ n < 256) && (four a0 a1 a2 a3).testBit n.toNat)) ∧ New w w' := by
  by_cases h0 : n < 0
  · rw [decide_eq_false (by omega), Bool.false_and]
    go_enter Tryz.func142, Tryz.ntmps142
    go_wp2
    go_ret
    exact ⟨rfl, (New.refl _).alloc _⟩
  · by_cases h1 : 256 ≤ n
    · rw [decide_eq_false (by omega), Bool.false_and]
      go_enter Tryz.func142, Tryz.ntmps142
      go_wp2
      go_ret
      exact ⟨rfl, (New.refl _).alloc _⟩
    · obtain ⟨m, rfl⟩ : ∃ m : Nat, n = (m : Int) := ⟨n.toNat, by omega⟩
      rw [decide_eq_true (by omega), Bool.true_and, Int.toNat_natCast]
      exact wbit4_in a0 a1 a2 a3 (m / 64) (m % 64) m (by omega) (by omega) (by omega) w
theorem bits_join (L s : Nat) (x : BitVec 64) (hL : L < 2 ^ s) : bitsOf L s ++ bitsOf x.toNat 64 = bitsOf (L + 2 ^ s * x.toNat) (s + 64) := by
  apply ints_eq (n := s + 64)
  · rw [List.length_append, bitsOf_len, bitsOf_len]
  · rw [bitsOf_len]
  · intro j hj
    rw [bitsOf_at hj]
    by_cases h : j < s
    · rw [List.getD_eq_getElem?_getD, List.getElem?_append_left (by rw [bitsOf_len]; exact h), ← List.getD_eq_getElem?_getD, bitsOf_at h]
      unfold bt
      congr 1
      obtain ⟨d, rfl⟩ : ∃ d, s = j + (d + 1) := ⟨s - j - 1, by omega⟩
      rw [show L + 2 ^ (j + (d + 1)) * x.toNat = L + 2 ^ j * (2 * (2 ^ d * x.toNat)) by rw [Nat.pow_add, Nat.pow_succ]; grind, Nat.add_mul_div_left _ _ (Nat.two_pow_pos j)]
      omega
    · rw [List.getD_eq_getElem?_getD, List.getElem?_append_right (by rw [bitsOf_len]; omega), ← List.getD_eq_getElem?_getD, bitsOf_len, bitsOf_at (by omega)]
      unfold bt
      congr 1
      obtain ⟨d, rfl⟩ : ∃ d, j = s + d := ⟨j - s, by omega⟩
      rw [show s + d - s = d by omega, Nat.pow_add, ← Nat.div_div_eq_div_mul, Nat.add_mul_div_left _ _ (Nat.two_pow_pos s), Nat.div_eq_of_lt hL, Nat.zero_add]
end Go.Proofs.YtfaobdmoifnglaaGreat
end
