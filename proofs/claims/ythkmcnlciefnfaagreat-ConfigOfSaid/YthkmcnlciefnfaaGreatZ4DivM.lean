import Derived.Test.YthkmcnlciefnfaaGreatZ4New
import Derived.Lib.ItoaNum
/- Plain lemmas: long division of a number of two words by a word, digit by digit. No program in sight. -/
namespace Go.Bv
open Go Go.RowKit
set_option linter.unusedVariables false
set_option maxRecDepth 100000
/-- the number of two words -/
def two (hi lo : BitVec 64) : Nat := hi.toNat * 18446744073709551616 + lo.toNat
def divQ (hi lo y : BitVec 64) : BitVec 64 := BitVec.ofNat 64 (two hi lo / y.toNat)
def divR (hi lo y : BitVec 64) : BitVec 64 := BitVec.ofNat 64 (two hi lo % y.toNat)
/-- what is guessed of a digit: not too little, with what is left by the divisor's upper half -/
structure Guess (u d yn q r : Nat) : Prop where
  ge : (u * 4294967296 + d) / yn ≤ q
  sum : q * (yn / 4294967296) + r = u
  le : q ≤ 4294967297
  small : r < 4294967296
structure Digit (u d yn : Nat) : Prop where
  top : 9223372036854775808 ≤ yn
  lt : yn < 18446744073709551616
  rest : u < yn
  low : d < 4294967296
theorem quo_any (x y : BitVec 64) : (W64 x).tdiv (W64 y) = W64 (x / y) := by
  unfold W64; rw [Int.tdiv_eq_ediv_of_nonneg (by omega), BitVec.toNat_udiv]; exact (Int.natCast_ediv _ _).symm
theorem rem_any (x y : BitVec 64) : (W64 x).tmod (W64 y) = W64 (x % y) := by
  unfold W64; rw [Int.tmod_eq_emod_of_nonneg (by omega), BitVec.toNat_umod]; exact (Int.natCast_emod _ _).symm
attribute [go_sem] quo_any rem_any
end Go.Bv
