/- Contracts of the document's own Shr and Len: for all lists of bits. -/
import Derived.Test.YtfaobdmoifnglaaBitM
namespace Go.Bv
open Go Go.RowKit
theorem shr_bit (A b i : Nat) : bt (A / 2 ^ b) i = btI A ((i : Int) + (b : Int)) := by
  rw [show (i : Int) + (b : Int) = ((i + b : Nat) : Int) by omega, btI_nat]
  unfold bt
  rw [Nat.div_div_eq_div_mul, ← Nat.pow_add, Nat.add_comm b i]
/-- one more than the greatest bit that is set, below k -/
def lenN (A : Nat) : Nat → Nat
  | 0 => 0
  | k + 1 => if A / 2 ^ k % 2 = 1 then k + 1 else lenN A k
theorem lenN_zero (A : Nat) : ∀ k, lenN A k = 0 → A % 2 ^ k = 0
  | 0, _ => by rw [Nat.pow_zero, Nat.mod_one]
  | k + 1, h => by
    unfold lenN at h
    by_cases h1 : A / 2 ^ k % 2 = 1
    · rw [if_pos h1] at h; omega
    · rw [if_neg h1] at h
      rw [mod_bit, lenN_zero A k h, show A / 2 ^ k % 2 = 0 by omega, Nat.mul_zero]
theorem lenN_le (A : Nat) : ∀ k, lenN A k ≤ k
  | 0 => Nat.le_refl _
  | k + 1 => by
    have := lenN_le A k
    unfold lenN; split <;> omega
theorem lenN_pos {A n : Nat} (h : A < 2 ^ n) (h0 : A ≠ 0) : lenN A n ≠ 0 := by
  intro e
  have := lenN_zero A n e
  rw [Nat.mod_eq_of_lt h] at this
  exact h0 this
end Go.Bv
namespace Go.Proofs.Ytfaobdmoifnglaa
open Go.RowKit Go.Bv
set_option linter.unusedVariables false
end Go.Proofs.Ytfaobdmoifnglaa
