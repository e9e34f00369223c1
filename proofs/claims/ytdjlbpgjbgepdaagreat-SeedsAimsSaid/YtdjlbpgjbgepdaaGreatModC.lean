/- Contracts of the document's own Mul and Pow modulo a word and of modn.Pow: for all words. -/
import Derived.Test.YtdjlbpgjbgepdaaGreatModB
namespace Go.Bv
open Go Go.RowKit
set_option linter.unusedVariables false
theorem mod_lift (A B C n : Nat) : (A % n + (B % n) * C) % n = (A + B * C) % n := by
  rw [Nat.mod_add_mod, Nat.add_mod A, Nat.mod_mul_mod, ← Nat.add_mod]
theorem half_parts (q : BitVec 64) : (q / 2#64).toNat = q.toNat / 2 ∧ (q % 2#64).toNat = q.toNat % 2 := ⟨BitVec.toNat_udiv, BitVec.toNat_umod⟩
theorem odd_test (q : BitVec 64) : (q % 2#64 == 1#64) = decide (q.toNat % 2 = 1) := by
  rw [Bool.eq_iff_iff, beq_iff_eq, decide_eq_true_eq, ← (half_parts q).2]
  exact ⟨fun e => by rw [e]; rfl, fun e => BitVec.eq_of_toNat_eq (by rw [e]; rfl)⟩
theorem even_test (q : BitVec 64) : (q % 2#64 == 0#64) = decide (q.toNat % 2 = 0) := by
  rw [Bool.eq_iff_iff, beq_iff_eq, decide_eq_true_eq, ← (half_parts q).2]
  exact ⟨fun e => by rw [e]; rfl, fun e => BitVec.eq_of_toNat_eq (by rw [e]; rfl)⟩
theorem and_test (q : BitVec 64) : (q &&& 1#64 == 1#64) = decide (q.toNat % 2 = 1) := by
  rw [Bool.eq_iff_iff, beq_iff_eq, decide_eq_true_eq]
  have h : (q &&& 1#64).toNat = q.toNat % 2 := by rw [BitVec.toNat_and]; exact Nat.and_two_pow_sub_one_eq_mod _ 1
  constructor
  · intro e; rw [← h, e]; rfl
  · intro e; apply BitVec.eq_of_toNat_eq; rw [h, e]; rfl
theorem shr_one (q : BitVec 64) : (q >>> 1).toNat = q.toNat / 2 := by rw [BitVec.toNat_ushiftRight, Nat.shiftRight_eq_div_pow]
theorem zero_test {q : BitVec 64} (h : ¬ q = 0#64) : decide (0 < W64 q) = true := decide_eq_true (by have := pos_of_ne h; unfold W64; omega)
theorem md_pow (A B h : Nat) (n : BitVec 64) : md ((md A n).toNat * (md B n).toNat ^ h) n = md (A * B ^ h) n := by
  by_cases hz : n = 0#64
  · subst hz; rw [md_zero, md_zero]
  · apply md_congr
    rw [md_nat hz, md_nat hz, Nat.mul_mod, Nat.mod_mod, Nat.pow_mod, Nat.mod_mod, ← Nat.pow_mod, ← Nat.mul_mod]
theorem md_md (A : Nat) (n : BitVec 64) : md (md A n).toNat n = md A n := by
  have := md_pow A 0 0 n
  rw [Nat.pow_zero, Nat.pow_zero, Nat.mul_one, Nat.mul_one] at this
  exact this
theorem md_pow1 (p B h : Nat) (n : BitVec 64) : md (p * (md B n).toNat ^ h) n = md (p * B ^ h) n := by
  by_cases hz : n = 0#64
  · subst hz; rw [md_zero, md_zero]
  · apply md_congr
    rw [md_nat hz, Nat.mul_mod, Nat.pow_mod, Nat.mod_mod, ← Nat.pow_mod, ← Nat.mul_mod]
theorem pow_odd (p x y : Nat) (h : y % 2 = 1) : p * x * (x * x) ^ (y / 2) = p * x ^ y := by
  have e : x ^ y = x * (x * x) ^ (y / 2) := by
    conv => lhs; rw [show y = 2 * (y / 2) + 1 by omega, Nat.pow_succ, Nat.pow_mul, Nat.pow_two]
    rw [Nat.mul_comm]
  rw [e, Nat.mul_assoc]
theorem pow_even (p x y : Nat) (h : y % 2 = 0) : p * (x * x) ^ (y / 2) = p * x ^ y := by
  have e : x ^ y = (x * x) ^ (y / 2) := by
    conv => lhs; rw [show y = 2 * (y / 2) by omega, Nat.pow_mul, Nat.pow_two]
  rw [e]
theorem mul_odd (o x y : Nat) (h : y % 2 = 1) : o + x + (x + x) * (y / 2) = o + x * y := by
  have e : x * y = x * (2 * (y / 2) + 1) := by rw [show 2 * (y / 2) + 1 = y by omega]
  rw [e]; generalize y / 2 = z; grind
theorem mul_even (o x y : Nat) (h : y % 2 = 0) : o + (x + x) * (y / 2) = o + x * y := by
  have e : x * y = x * (2 * (y / 2)) := by rw [show 2 * (y / 2) = y by omega]
  rw [e]; generalize y / 2 = z; grind
end Go.Bv
namespace Go.Proofs.YtdjlbpgjbgepdaaGreat
open Go.RowKit Go.Bv
set_option linter.unusedVariables false
theorem half_meas {y z : BitVec 64} (h : ¬ y = 0#64) (hz : z.toNat = y.toNat / 2) : (intOf (.int .u64 (W64 z))).toNat < (intOf (.int .u64 (W64 y))).toNat := by
  have e : ∀ z : BitVec 64, (intOf (.int .u64 (W64 z))).toNat = z.toNat := fun z => by simp [intOf, W64]
  have := pos_of_ne h
  rw [e, e, hz]; omega
end Go.Proofs.YtdjlbpgjbgepdaaGreat
