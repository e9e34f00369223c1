/- Plain lemmas: long division of a number of two words by a word, digit by digit. No program in sight. -/
import Derived.Test.YtdjlbpgjbgepdaaGreatNew
import Derived.Lib.ItoaNum
namespace Go.Bv
open Go Go.RowKit
set_option linter.unusedVariables false
set_option maxRecDepth 100000
/-- the number of two words -/
def two (hi lo : BitVec 64) : Nat := hi.toNat * 18446744073709551616 + lo.toNat
def divQ (hi lo y : BitVec 64) : BitVec 64 := BitVec.ofNat 64 (two hi lo / y.toNat)
def divR (hi lo y : BitVec 64) : BitVec 64 := BitVec.ofNat 64 (two hi lo % y.toNat)
theorem two_lt {hi lo y : BitVec 64} (h : hi.toNat < y.toNat) : two hi lo < y.toNat * 18446744073709551616 := by
  have := lo.isLt
  have h2 : (hi.toNat + 1) * 18446744073709551616 ≤ y.toNat * 18446744073709551616 := Nat.mul_le_mul_right _ h
  unfold two; omega
theorem divQ_nat {hi lo y : BitVec 64} (h : hi.toNat < y.toNat) : (divQ hi lo y).toNat = two hi lo / y.toNat := by
  unfold divQ
  rw [BitVec.toNat_ofNat]
  refine Nat.mod_eq_of_lt ?_
  rw [Nat.div_lt_iff_lt_mul (by omega), Nat.mul_comm]
  exact two_lt h
theorem divR_nat {hi lo y : BitVec 64} (h : 0 < y.toNat) : (divR hi lo y).toNat = two hi lo % y.toNat := by
  unfold divR
  rw [BitVec.toNat_ofNat]
  have h1 := Nat.mod_lt (two hi lo) h
  have h2 := y.isLt
  exact Nat.mod_eq_of_lt (by omega)
/-- what is guessed of a digit: not too little, with what is left by the divisor's upper half -/
structure Guess (u d yn q r : Nat) : Prop where
  ge : (u * 4294967296 + d) / yn ≤ q
  sum : q * (yn / 4294967296) + r = u
  le : q ≤ 4294967297
  small : r < 4294967296
structure Digit (u d yn : Nat) : Prop where
  top : 9223372036854775808 ≤ yn
  lt : yn < 18446744073709551616
  rest : u < yn
  low : d < 4294967296
theorem mul_split (q yn : Nat) : q * yn = q * (yn / 4294967296) * 4294967296 + q * (yn % 4294967296) := by
  rw [Nat.mul_assoc, ← Nat.mul_add]
  congr 1; omega
theorem digit_lt {u d yn : Nat} (h : Digit u d yn) : (u * 4294967296 + d) / yn < 4294967296 := by
  obtain ⟨h1, h2, h3, h4⟩ := h
  rw [Nat.div_lt_iff_lt_mul (by omega)]
  omega
theorem guess_start {u d yn : Nat} (h : Digit u d yn) : Guess u d yn (u / (yn / 4294967296)) (u - u / (yn / 4294967296) * (yn / 4294967296)) := by
  obtain ⟨h1, h2, h3, h4⟩ := h
  have hy1 : 2147483648 ≤ yn / 4294967296 := by omega
  have hdm := Nat.div_add_mod u (yn / 4294967296)
  have hml := Nat.mod_lt u (show 0 < yn / 4294967296 by omega)
  rw [Nat.mul_comm] at hdm
  refine ⟨?_, by omega, ?_, by omega⟩
  · rw [Nat.le_div_iff_mul_le (by omega)]
    have h5 : (u * 4294967296 + d) / yn * yn ≤ u * 4294967296 + d := Nat.div_mul_le_self _ _
    rw [mul_split ((u * 4294967296 + d) / yn) yn] at h5
    generalize (u * 4294967296 + d) / yn * (yn / 4294967296) = A at h5 ⊢
    generalize (u * 4294967296 + d) / yn * (yn % 4294967296) = B at h5
    omega
  · have h6 : u < 4294967298 * (yn / 4294967296) := by omega
    have := (Nat.div_lt_iff_lt_mul (show 0 < yn / 4294967296 by omega)).2 h6
    omega
/-- the guess is too much just if the test says so -/
theorem guess_test {u d yn q r : Nat} (h : Digit u d yn) (g : Guess u d yn q r) : 4294967296 * r + d < q * (yn % 4294967296) ↔ (u * 4294967296 + d) / yn < q := by
  obtain ⟨h1, h2, h3, h4⟩ := h
  obtain ⟨g1, g2, g3, g4⟩ := g
  rw [Nat.div_lt_iff_lt_mul (by omega), mul_split q yn]
  generalize q * (yn / 4294967296) = A at g2 ⊢
  generalize q * (yn % 4294967296) = B
  omega
theorem guess_next {u d yn q r : Nat} (h : Digit u d yn) (g : Guess u d yn q r) (ht : (u * 4294967296 + d) / yn < q) (hr : r + yn / 4294967296 < 4294967296) : Guess u d yn (q - 1) (r + yn / 4294967296) := by
  obtain ⟨g1, g2, g3, g4⟩ := g
  have h0 : 0 < q := Nat.lt_of_le_of_lt (Nat.zero_le _) ht
  refine ⟨by omega, ?_, by omega, hr⟩
  have : q = (q - 1) + 1 := by omega
  rw [this, Nat.add_mul] at g2
  omega
theorem guess_break {u d yn q r : Nat} (h : Digit u d yn) (g : Guess u d yn q r) (ht : (u * 4294967296 + d) / yn < q) (hr : 4294967296 ≤ r + yn / 4294967296) : q - 1 = (u * 4294967296 + d) / yn := by
  have hl := digit_lt h
  obtain ⟨h1, h2, h3, h4⟩ := h
  obtain ⟨g1, g2, g3, g4⟩ := g
  have h0 : 0 < q := Nat.lt_of_le_of_lt (Nat.zero_le _) ht
  apply Nat.le_antisymm
  · rw [Nat.le_div_iff_mul_le (by omega), mul_split (q - 1) yn]
    have e : q = (q - 1) + 1 := by omega
    rw [e, Nat.add_mul] at g2
    have h5 : (q - 1) * (yn % 4294967296) ≤ 4294967296 * 4294967295 := Nat.mul_le_mul (by omega) (by omega)
    generalize (q - 1) * (yn / 4294967296) = A at g2 ⊢
    generalize (q - 1) * (yn % 4294967296) = B at h5 ⊢
    omega
  · omega
theorem guess_end {u d yn q r : Nat} (h : Digit u d yn) (g : Guess u d yn q r) (ht : ¬ (u * 4294967296 + d) / yn < q) : q = (u * 4294967296 + d) / yn := by
  have := g.ge; omega
/-- both digits -/
theorem two_digits (u v yn q1 r1 : Nat) (hy : 0 < yn) (h1 : yn * q1 + r1 = u * 4294967296 + v / 4294967296) :
    (u * 18446744073709551616 + v) / yn = q1 * 4294967296 + (r1 * 4294967296 + v % 4294967296) / yn ∧
    (u * 18446744073709551616 + v) % yn = (r1 * 4294967296 + v % 4294967296) % yn := by
  have e : u * 18446744073709551616 + v = r1 * 4294967296 + v % 4294967296 + yn * (q1 * 4294967296) := by
    rw [← Nat.mul_assoc yn q1 4294967296]
    generalize yn * q1 = A at h1 ⊢
    omega
  rw [e]
  refine ⟨?_, Nat.add_mul_mod_self_left _ _ _⟩
  rw [Nat.add_mul_div_left _ _ hy]
  omega
/-- the divisor moved up till its highest bit is set -/
theorem norm_parts (hi lo y : BitVec 64) (s : Nat) (hs : s ≤ 63) (hlt : hi.toNat < y.toNat) (hy : y.toNat * 2 ^ s < 18446744073709551616) :
    (y <<< s).toNat = y.toNat * 2 ^ s ∧ (lo <<< s).toNat = lo.toNat * 2 ^ s % 18446744073709551616 ∧
    (hi <<< s ||| lo >>> (64 - s)).toNat * 18446744073709551616 + (lo <<< s).toNat = two hi lo * 2 ^ s ∧ (hi <<< s ||| lo >>> (64 - s)).toNat < y.toNat * 2 ^ s := by
  have hp : 0 < 2 ^ s := Nat.two_pow_pos s
  have hpp : 2 ^ s * 2 ^ (64 - s) = 18446744073709551616 := by rw [← Nat.pow_add, show s + (64 - s) = 64 by omega]
  have hh : hi.toNat * 2 ^ s < y.toNat * 2 ^ s := Nat.mul_lt_mul_of_pos_right hlt hp
  have e1 : (y <<< s).toNat = y.toNat * 2 ^ s := by
    rw [BitVec.toNat_shiftLeft, Nat.shiftLeft_eq]; exact Nat.mod_eq_of_lt hy
  have e2 : (lo <<< s).toNat = lo.toNat * 2 ^ s % 18446744073709551616 := by
    rw [BitVec.toNat_shiftLeft, Nat.shiftLeft_eq]
  have el : lo.toNat / 2 ^ (64 - s) < 2 ^ s := by
    rw [Nat.div_lt_iff_lt_mul (Nat.two_pow_pos _), hpp]; exact lo.isLt
  have e3 : (hi <<< s ||| lo >>> (64 - s)).toNat = hi.toNat * 2 ^ s + lo.toNat / 2 ^ (64 - s) := by
    rw [BitVec.toNat_or, BitVec.toNat_shiftLeft, BitVec.toNat_ushiftRight, Nat.shiftRight_eq_div_pow, Nat.shiftLeft_eq, Nat.mod_eq_of_lt (by omega), ← Nat.shiftLeft_eq, ← Nat.shiftLeft_add_eq_or_of_lt el]
  have e4 : lo.toNat * 2 ^ s / 18446744073709551616 = lo.toNat / 2 ^ (64 - s) := by
    rw [← hpp, Nat.mul_comm (2 ^ s), Nat.mul_div_mul_right _ _ hp]
  have e5 : (hi <<< s ||| lo >>> (64 - s)).toNat * 18446744073709551616 + (lo <<< s).toNat = two hi lo * 2 ^ s := by
    rw [e3, e2]
    unfold two
    rw [Nat.add_mul (hi.toNat * 18446744073709551616), Nat.mul_right_comm]
    have := Nat.div_add_mod (lo.toNat * 2 ^ s) 18446744073709551616
    rw [e4] at this
    generalize lo.toNat * 2 ^ s = A at this ⊢
    generalize hi.toNat * 2 ^ s = B
    omega
  refine ⟨e1, e2, e5, ?_⟩
  have h6 : two hi lo * 2 ^ s < y.toNat * 2 ^ s * 18446744073709551616 := by
    rw [Nat.mul_right_comm]; exact Nat.mul_lt_mul_of_pos_right (two_lt hlt) hp
  generalize y.toNat * 2 ^ s = Y at h6 ⊢
  generalize (hi <<< s ||| lo >>> (64 - s)).toNat = U at e5 ⊢
  omega
theorem quo_any (x y : BitVec 64) : (W64 x).tdiv (W64 y) = W64 (x / y) := by
  unfold W64; rw [Int.tdiv_eq_ediv_of_nonneg (by omega), BitVec.toNat_udiv]; exact (Int.natCast_ediv _ _).symm
theorem rem_any (x y : BitVec 64) : (W64 x).tmod (W64 y) = W64 (x % y) := by
  unfold W64; rw [Int.tmod_eq_emod_of_nonneg (by omega), BitVec.toNat_umod]; exact (Int.natCast_emod _ _).symm
attribute [go_sem] quo_any rem_any
theorem rest_aux (N y : Nat) : BitVec.ofNat 64 N - BitVec.ofNat 64 (y * (N / y)) = BitVec.ofNat 64 (N % y) := by
  have h := congrArg (BitVec.ofNat 64) (Nat.div_add_mod N y)
  rw [BitVec.ofNat_add] at h
  rw [← h, BitVec.add_comm, BitVec.add_sub_cancel]
theorem ofNat_self (u : BitVec 64) : BitVec.ofNat 64 u.toNat = u := by rw [BitVec.ofNat_toNat, BitVec.setWidth_eq]
theorem rest_any (u d q yn : BitVec 64) (K N : Nat) (hN : u.toNat * K + d.toNat = N) (hy : 0 < yn.toNat) (hq : q.toNat = N / yn.toNat) :
    (u * BitVec.ofNat 64 K + d - q * yn).toNat = N % yn.toNat := by
  have e1 : u * BitVec.ofNat 64 K + d = BitVec.ofNat 64 N := by
    rw [← hN, BitVec.ofNat_add, BitVec.ofNat_mul, ofNat_self, ofNat_self]
  have e2 : q * yn = BitVec.ofNat 64 (yn.toNat * (N / yn.toNat)) := by
    rw [← hq, BitVec.ofNat_mul, ofNat_self, ofNat_self, BitVec.mul_comm]
  rw [e1, e2, rest_aux, BitVec.toNat_ofNat]
  exact Nat.mod_eq_of_lt (Nat.lt_trans (Nat.mod_lt N hy) yn.isLt)
theorem rest_nat (u d q yn : BitVec 64) (hy : 0 < yn.toNat) (hq : q.toNat = (u.toNat * 4294967296 + d.toNat) / yn.toNat) :
    (u * 4294967296#64 + d - q * yn).toNat = (u.toNat * 4294967296 + d.toNat) % yn.toNat := rest_any u d q yn 4294967296 _ rfl hy hq
end Go.Bv
