import Derived.Test.YthkmcnlciefnfaaGreatZ5Bv
/- Plain lemmas on turned words: the shapes in which the program and the document's own answer turn a word, as rotateLeft. -/
namespace Go.Bv

theorem div_shr {n : Nat} (y : BitVec n) (k : Nat) (h : k < n) : y / BitVec.ofNat n (2 ^ k) = y >>> k := by
  apply BitVec.eq_of_toNat_eq
  rw [BitVec.toNat_udiv, BitVec.toNat_ofNat, Nat.mod_eq_of_lt (Nat.pow_lt_pow_right (by omega) h), BitVec.toNat_ushiftRight, Nat.shiftRight_eq_div_pow]
end Go.Bv
