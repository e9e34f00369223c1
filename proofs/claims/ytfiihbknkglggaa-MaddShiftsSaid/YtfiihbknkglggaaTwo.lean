/- Trailing zeros of a word: the document's Twos, modn.Left; for seats without layer 20. -/
import Derived.Test.YtfiihbknkglggaaDorA
import Derived.Test.YtfiihbknkglggaaDivM
import Derived.Handy
namespace Go.Bv
open Go Go.RowKit
theorem tz_lt {x : BitVec 64} (h : ¬ x = 0#64) : tzN x < 64 := by
  have hx0 : x.toNat ≠ 0 := fun e => h (BitVec.eq_of_toNat_eq e)
  exact (Lib.lowest_bit 64 x.toNat hx0 x.isLt).2
theorem half_shift (x : BitVec 64) (k : Nat) : (x >>> k) / 2#64 = x >>> (k + 1) := by
  apply BitVec.eq_of_toNat_eq
  rw [BitVec.toNat_udiv, BitVec.toNat_ushiftRight, BitVec.toNat_ushiftRight, Nat.shiftRight_eq_div_pow, Nat.shiftRight_eq_div_pow, Nat.pow_succ, ← Nat.div_div_eq_div_mul]
  rfl
theorem shl_nat (x : BitVec 64) (s : Nat) : (x <<< s).toNat = x.toNat * 2 ^ s % 2 ^ 64 := by rw [BitVec.toNat_shiftLeft, Nat.shiftLeft_eq]
theorem tz_spec {x : BitVec 64} (h : ¬ x = 0#64) : ∃ m, x.toNat = 2 ^ tzN x * (2 * m + 1) := by
  have hx0 : x.toNat ≠ 0 := fun e => h (BitVec.eq_of_toNat_eq e)
  obtain ⟨m, hm, _⟩ := Lib.ctzFrom_spec 64 x.toNat (Nat.pos_of_ne_zero hx0) x.isLt
  refine ⟨m, ?_⟩
  unfold tzN Lib.ctz
  rw [if_neg hx0]
  exact hm
theorem shr_nat (x : BitVec 64) (s : Nat) : (x >>> s).toNat = x.toNat / 2 ^ s := by rw [BitVec.toNat_ushiftRight, Nat.shiftRight_eq_div_pow]
theorem mod_two (x : BitVec 64) : (x % 2#64 == 0#64) = decide (x.toNat % 2 = 0) := by
  rw [Bool.eq_iff_iff, beq_iff_eq, decide_eq_true_eq]
  constructor
  · intro e; have := congrArg BitVec.toNat e; rw [BitVec.toNat_umod] at this; exact this
  · intro e; apply BitVec.eq_of_toNat_eq; rw [BitVec.toNat_umod]; exact e
theorem tz_below {x : BitVec 64} (h : ¬ x = 0#64) {k : Nat} (hk : k < tzN x) : (x >>> k % 2#64 == 0#64) = true := by
  obtain ⟨m, hm⟩ := tz_spec h
  rw [mod_two, decide_eq_true_eq, shr_nat, hm, show tzN x = k + ((tzN x - k - 1) + 1) by omega, Nat.pow_add, Nat.mul_assoc, Nat.mul_div_cancel_left _ (Nat.two_pow_pos k), Nat.pow_succ, Nat.mul_right_comm]
  exact Nat.mul_mod_left _ _
theorem tz_there {x : BitVec 64} (h : ¬ x = 0#64) : (x >>> tzN x % 2#64 == 0#64) = false := by
  obtain ⟨m, hm⟩ := tz_spec h
  rw [mod_two, decide_eq_false_iff_not, shr_nat]
  conv => rhs; lhs; lhs; rw [hm]
  rw [Nat.mul_div_cancel_left _ (Nat.two_pow_pos _)]
  omega
/-- a number is its odd part, shifted -/
theorem tz_back {x : BitVec 64} (h : ¬ x = 0#64) : (x >>> tzN x) <<< tzN x = x := by
  obtain ⟨m, hm⟩ := tz_spec h
  apply BitVec.eq_of_toNat_eq
  have hx := x.isLt
  rw [shl_nat, shr_nat]
  have e : x.toNat / 2 ^ tzN x = 2 * m + 1 := by
    conv => lhs; lhs; rw [hm]
    exact Nat.mul_div_cancel_left _ (Nat.two_pow_pos _)
  rw [e, Nat.mul_comm, ← hm, Nat.mod_eq_of_lt hx]
end Go.Bv
namespace Go.Proofs.Ytfiihbknkglggaa
open Go.RowKit Go.Bv
set_option linter.unusedVariables false
set_option linter.unusedVariables false
end Go.Proofs.Ytfiihbknkglggaa
