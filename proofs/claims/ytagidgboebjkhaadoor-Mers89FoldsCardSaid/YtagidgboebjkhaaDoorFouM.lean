/- Plain lemmas: numbers of 256 bits in four words: sums, differences. -/
import Derived.Test.YtagidgboebjkhaaDoorWidA
namespace Go.Bv
open Go Go.RowKit
set_option linter.unusedVariables false
/-- four words as a number, the lowest first -/
def four (x0 x1 x2 x3 : BitVec 64) : Nat := x0.toNat + 18446744073709551616 * (x1.toNat + 18446744073709551616 * (x2.toNat + 18446744073709551616 * x3.toNat))
theorem p64 : (2 : Nat) ^ 64 = 18446744073709551616 := by decide
theorem p128 : (2 : Nat) ^ 128 = 18446744073709551616 * 18446744073709551616 := by decide
theorem p192 : (2 : Nat) ^ 192 = 18446744073709551616 * (18446744073709551616 * 18446744073709551616) := by decide
theorem p256 : (2 : Nat) ^ 256 = 18446744073709551616 * (18446744073709551616 * (18446744073709551616 * 18446744073709551616)) := by decide
theorem div64s (N : Nat) : N / 2 ^ 64 = N / 18446744073709551616 ∧ N / 2 ^ 128 = N / 18446744073709551616 / 18446744073709551616 ∧ N / 2 ^ 192 = N / 18446744073709551616 / 18446744073709551616 / 18446744073709551616 ∧ N / 2 ^ 256 = N / 18446744073709551616 / 18446744073709551616 / 18446744073709551616 / 18446744073709551616 := by
  refine ⟨by rw [p64], by rw [p128, Nat.div_div_eq_div_mul], by rw [p192, Nat.div_div_eq_div_mul, Nat.div_div_eq_div_mul], ?_⟩
  rw [p256, Nat.div_div_eq_div_mul, Nat.div_div_eq_div_mul, Nat.div_div_eq_div_mul]
theorem up64 (x r : Nat) : (x + 18446744073709551616 * r) / 18446744073709551616 = x / 18446744073709551616 + r := by omega
theorem four_div (x0 x1 x2 x3 : BitVec 64) : four x0 x1 x2 x3 / 18446744073709551616 = x1.toNat + 18446744073709551616 * (x2.toNat + 18446744073709551616 * x3.toNat) := by
  unfold four; rw [up64, Nat.div_eq_of_lt x0.isLt, Nat.zero_add]
theorem four_div2 (x0 x1 x2 x3 : BitVec 64) : four x0 x1 x2 x3 / 18446744073709551616 / 18446744073709551616 = x2.toNat + 18446744073709551616 * x3.toNat := by
  rw [four_div, up64, Nat.div_eq_of_lt x1.isLt, Nat.zero_add]
theorem four_div3 (x0 x1 x2 x3 : BitVec 64) : four x0 x1 x2 x3 / 18446744073709551616 / 18446744073709551616 / 18446744073709551616 = x3.toNat := by
  rw [four_div2, up64, Nat.div_eq_of_lt x2.isLt, Nat.zero_add]
theorem four_lt (x0 x1 x2 x3 : BitVec 64) : four x0 x1 x2 x3 < 2 ^ 256 := by
  have h := (div64s (four x0 x1 x2 x3)).2.2.2
  rw [four_div3, Nat.div_eq_of_lt x3.isLt] at h
  rcases Nat.lt_or_ge (four x0 x1 x2 x3) (2 ^ 256) with h1 | h1
  · exact h1
  · have := Nat.div_pos h1 (by decide)
    omega
theorem low64 {x y : Nat} (h : x % 18446744073709551616 = y % 18446744073709551616) : BitVec.ofNat 64 x = BitVec.ofNat 64 y := by
  apply BitVec.eq_of_toNat_eq; rw [BitVec.toNat_ofNat, BitVec.toNat_ofNat, p64]; exact h
theorem ofNat_low (x : BitVec 64) (r : Nat) : BitVec.ofNat 64 (x.toNat + 18446744073709551616 * r) = x := by
  apply BitVec.eq_of_toNat_eq
  have := x.isLt
  rw [BitVec.toNat_ofNat, p64]; omega
theorem four_words (x0 x1 x2 x3 : BitVec 64) : BitVec.ofNat 64 (four x0 x1 x2 x3) = x0 ∧ BitVec.ofNat 64 (four x0 x1 x2 x3 / 2 ^ 64) = x1 ∧ BitVec.ofNat 64 (four x0 x1 x2 x3 / 2 ^ 128) = x2 ∧ BitVec.ofNat 64 (four x0 x1 x2 x3 / 2 ^ 192) = x3 := by
  obtain ⟨e1, e2, e3, _⟩ := div64s (four x0 x1 x2 x3)
  refine ⟨ofNat_low _ _, ?_, ?_, ?_⟩
  · rw [e1, four_div]; exact ofNat_low _ _
  · rw [e2, four_div2]; exact ofNat_low _ _
  · rw [e3, four_div3, BitVec.ofNat_toNat, BitVec.setWidth_eq]
theorem four_inj {x0 x1 x2 x3 y0 y1 y2 y3 : BitVec 64} (h : four x0 x1 x2 x3 = four y0 y1 y2 y3) : x0 = y0 ∧ x1 = y1 ∧ x2 = y2 ∧ x3 = y3 := by
  obtain ⟨a0, a1, a2, a3⟩ := four_words x0 x1 x2 x3
  obtain ⟨b0, b1, b2, b3⟩ := four_words y0 y1 y2 y3
  rw [h] at a0 a1 a2 a3
  exact ⟨a0.symm.trans b0, a1.symm.trans b1, a2.symm.trans b2, a3.symm.trans b3⟩
/-- the words of a sum, one carry behind the other -/
theorem sum_words (a0 a1 a2 a3 b0 b1 b2 b3 : BitVec 64) (c1 c2 c3 c4 : BitVec 64)
    (h1 : c1 = hiN (a0.toNat + b0.toNat)) (h2 : c2 = hiN (a1.toNat + b1.toNat + c1.toNat)) (h3 : c3 = hiN (a2.toNat + b2.toNat + c2.toNat)) (h4 : c4 = hiN (a3.toNat + b3.toNat + c3.toNat)) :
    (c1.toNat ≤ 1 ∧ c2.toNat ≤ 1 ∧ c3.toNat ≤ 1) ∧
    loN (a0.toNat + b0.toNat) = BitVec.ofNat 64 (four a0 a1 a2 a3 + four b0 b1 b2 b3) ∧ loN (a1.toNat + b1.toNat + c1.toNat) = BitVec.ofNat 64 ((four a0 a1 a2 a3 + four b0 b1 b2 b3) / 2 ^ 64) ∧
    loN (a2.toNat + b2.toNat + c2.toNat) = BitVec.ofNat 64 ((four a0 a1 a2 a3 + four b0 b1 b2 b3) / 2 ^ 128) ∧ loN (a3.toNat + b3.toNat + c3.toNat) = BitVec.ofNat 64 ((four a0 a1 a2 a3 + four b0 b1 b2 b3) / 2 ^ 192) ∧
    (c4 == 1#64) = decide (2 ^ 256 ≤ four a0 a1 a2 a3 + four b0 b1 b2 b3) := by
  have la0 := a0.isLt; have la1 := a1.isLt; have la2 := a2.isLt; have la3 := a3.isLt
  have lb0 := b0.isLt; have lb1 := b1.isLt; have lb2 := b2.isLt; have lb3 := b3.isLt
  have n1 : c1.toNat = (a0.toNat + b0.toNat) / 18446744073709551616 := by rw [h1]; unfold hiN; rw [BitVec.toNat_ofNat]; omega
  have n2 : c2.toNat = (a1.toNat + b1.toNat + c1.toNat) / 18446744073709551616 := by rw [h2]; unfold hiN; rw [BitVec.toNat_ofNat]; omega
  have n3 : c3.toNat = (a2.toNat + b2.toNat + c2.toNat) / 18446744073709551616 := by rw [h3]; unfold hiN; rw [BitVec.toNat_ofNat]; omega
  have n4 : c4.toNat = (a3.toNat + b3.toNat + c3.toNat) / 18446744073709551616 := by rw [h4]; unfold hiN; rw [BitVec.toNat_ofNat]; omega
  have s0 : four a0 a1 a2 a3 + four b0 b1 b2 b3 = (a0.toNat + b0.toNat) + 18446744073709551616 * ((a1.toNat + b1.toNat) + 18446744073709551616 * ((a2.toNat + b2.toNat) + 18446744073709551616 * (a3.toNat + b3.toNat))) := by unfold four; omega
  obtain ⟨e1, e2, e3, e4⟩ := div64s (four a0 a1 a2 a3 + four b0 b1 b2 b3)
  have s1 : (four a0 a1 a2 a3 + four b0 b1 b2 b3) / 18446744073709551616 = (a1.toNat + b1.toNat + c1.toNat) + 18446744073709551616 * ((a2.toNat + b2.toNat) + 18446744073709551616 * (a3.toNat + b3.toNat)) := by rw [s0, up64, n1]; omega
  have s2 : (four a0 a1 a2 a3 + four b0 b1 b2 b3) / 18446744073709551616 / 18446744073709551616 = (a2.toNat + b2.toNat + c2.toNat) + 18446744073709551616 * (a3.toNat + b3.toNat) := by rw [s1, up64, n2]; omega
  have s3 : (four a0 a1 a2 a3 + four b0 b1 b2 b3) / 18446744073709551616 / 18446744073709551616 / 18446744073709551616 = a3.toNat + b3.toNat + c3.toNat := by rw [s2, up64, n3]; omega
  refine ⟨⟨by omega, by omega, by omega⟩, ?_, ?_, ?_, ?_, ?_⟩
  · rw [s0]; exact low64 (by omega)
  · rw [e1, s1]; exact low64 (by omega)
  · rw [e2, s2]; exact low64 (by omega)
  · rw [e3, s3]; rfl
  · have e5 : (2 ^ 256 ≤ four a0 a1 a2 a3 + four b0 b1 b2 b3) ↔ c4.toNat = 1 := by
      rw [s3, ← n4] at e4
      have c4l : c4.toNat ≤ 1 := by omega
      constructor
      · intro h
        have := Nat.div_pos h (by decide)
        omega
      · intro h
        rw [h] at e4
        rcases Nat.lt_or_ge (four a0 a1 a2 a3 + four b0 b1 b2 b3) (2 ^ 256) with h5 | h5
        · rw [Nat.div_eq_of_lt h5] at e4; omega
        · exact h5
    by_cases h : c4 = 1#64
    · rw [beq_iff_eq.2 h, decide_eq_true (e5.2 (by rw [h]; rfl))]
    · rw [beq_eq_false_iff_ne.2 h, decide_eq_false (fun h6 => h (BitVec.eq_of_toNat_eq (e5.1 h6)))]
/-- the borrow of a difference of words -/
def bw (x y k : BitVec 64) : BitVec 64 := if x.toNat < y.toNat + k.toNat then 1#64 else 0#64
theorem bw_le (x y k : BitVec 64) : (bw x y k).toNat ≤ 1 := by unfold bw; split <;> decide
theorem bw_sub (x y k : BitVec 64) (hk : k.toNat ≤ 1) : x.toNat + (bw x y k).toNat * 18446744073709551616 = (x - y - k).toNat + y.toNat + k.toNat := by
  have hx := x.isLt; have hy := y.isLt
  rw [BitVec.toNat_sub, BitVec.toNat_sub, p64]
  unfold bw
  by_cases h : x.toNat < y.toNat + k.toNat
  · rw [if_pos h, show (1#64 : BitVec 64).toNat = 1 from rfl]; omega
  · rw [if_neg h, show (0#64 : BitVec 64).toNat = 0 from rfl]; omega
theorem four_ofNat (E : Nat) (d0 d1 d2 d3 : BitVec 64) (k : Nat) (h : E = four d0 d1 d2 d3 + 2 ^ 256 * k) : BitVec.ofNat 64 E = d0 ∧ BitVec.ofNat 64 (E / 2 ^ 64) = d1 ∧ BitVec.ofNat 64 (E / 2 ^ 128) = d2 ∧ BitVec.ofNat 64 (E / 2 ^ 192) = d3 := by
  have h2 : E = d0.toNat + 18446744073709551616 * (d1.toNat + 18446744073709551616 * (d2.toNat + 18446744073709551616 * (d3.toNat + 18446744073709551616 * k))) := by
    rw [h, p256]; unfold four; simp only [Nat.mul_add, Nat.mul_assoc, Nat.add_assoc]
  obtain ⟨e1, e2, e3, _⟩ := div64s E
  have s1 : E / 18446744073709551616 = d1.toNat + 18446744073709551616 * (d2.toNat + 18446744073709551616 * (d3.toNat + 18446744073709551616 * k)) := by rw [h2, up64, Nat.div_eq_of_lt d0.isLt, Nat.zero_add]
  have s2 : E / 18446744073709551616 / 18446744073709551616 = d2.toNat + 18446744073709551616 * (d3.toNat + 18446744073709551616 * k) := by rw [s1, up64, Nat.div_eq_of_lt d1.isLt, Nat.zero_add]
  have s3 : E / 18446744073709551616 / 18446744073709551616 / 18446744073709551616 = d3.toNat + 18446744073709551616 * k := by rw [s2, up64, Nat.div_eq_of_lt d2.isLt, Nat.zero_add]
  refine ⟨?_, ?_, ?_, ?_⟩
  · rw [h2]; exact ofNat_low _ _
  · rw [e1, s1]; exact ofNat_low _ _
  · rw [e2, s2]; exact ofNat_low _ _
  · rw [e3, s3]; exact ofNat_low _ _
/-- the words of a difference, one borrow behind the other -/
theorem sub_words (a0 a1 a2 a3 b0 b1 b2 b3 : BitVec 64) (k1 k2 k3 k4 : BitVec 64)
    (h1 : k1 = bw a0 b0 0#64) (h2 : k2 = bw a1 b1 k1) (h3 : k3 = bw a2 b2 k2) (h4 : k4 = bw a3 b3 k3) :
    (k1.toNat ≤ 1 ∧ k2.toNat ≤ 1 ∧ k3.toNat ≤ 1) ∧ four a0 a1 a2 a3 + k4.toNat * 2 ^ 256 = four (a0 - b0 - 0#64) (a1 - b1 - k1) (a2 - b2 - k2) (a3 - b3 - k3) + four b0 b1 b2 b3 ∧ (k4 == 1#64) = decide (four a0 a1 a2 a3 < four b0 b1 b2 b3) := by
  have l1 : k1.toNat ≤ 1 := by rw [h1]; exact bw_le _ _ _
  have l2 : k2.toNat ≤ 1 := by rw [h2]; exact bw_le _ _ _
  have l3 : k3.toNat ≤ 1 := by rw [h3]; exact bw_le _ _ _
  have l4 : k4.toNat ≤ 1 := by rw [h4]; exact bw_le _ _ _
  have e1 := bw_sub a0 b0 0#64 (by decide)
  have e2 := bw_sub a1 b1 k1 l1
  have e3 := bw_sub a2 b2 k2 l2
  have e4 := bw_sub a3 b3 k3 l3
  rw [← h1] at e1
  rw [← h2] at e2
  rw [← h3] at e3
  rw [← h4] at e4
  have z : (0#64 : BitVec 64).toNat = 0 := rfl
  rw [z] at e1
  have key : four a0 a1 a2 a3 + k4.toNat * 2 ^ 256 = four (a0 - b0 - 0#64) (a1 - b1 - k1) (a2 - b2 - k2) (a3 - b3 - k3) + four b0 b1 b2 b3 := by
    rw [p256]; unfold four
    generalize (a0 - b0 - 0#64).toNat = d0 at *
    generalize (a1 - b1 - k1).toNat = d1 at *
    generalize (a2 - b2 - k2).toNat = d2 at *
    generalize (a3 - b3 - k3).toNat = d3 at *
    omega
  refine ⟨⟨l1, l2, l3⟩, key, ?_⟩
  have hd := four_lt (a0 - b0 - 0#64) (a1 - b1 - k1) (a2 - b2 - k2) (a3 - b3 - k3)
  have hb := four_lt b0 b1 b2 b3
  have ha := four_lt a0 a1 a2 a3
  generalize four (a0 - b0 - 0#64) (a1 - b1 - k1) (a2 - b2 - k2) (a3 - b3 - k3) = D at *
  generalize four a0 a1 a2 a3 = A at *
  generalize four b0 b1 b2 b3 = B at *
  by_cases h : k4 = 1#64
  · rw [beq_iff_eq.2 h]
    rw [h, show (1#64 : BitVec 64).toNat = 1 from rfl, Nat.one_mul] at key
    rw [decide_eq_true (by omega)]
  · have h0 : k4.toNat = 0 := by
      rcases Nat.lt_or_ge k4.toNat 1 with h5 | h5
      · omega
      · exact absurd (BitVec.eq_of_toNat_eq (by rw [show (1#64 : BitVec 64).toNat = 1 from rfl]; omega)) h
    rw [beq_eq_false_iff_ne.2 h]
    rw [h0, Nat.zero_mul, Nat.add_zero] at key
    rw [decide_eq_false (by omega)]
end Go.Bv
