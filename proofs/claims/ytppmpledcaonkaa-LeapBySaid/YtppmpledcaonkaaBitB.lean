/- Contracts of the document's own Add, Sub, Shl, Cmp and To2 of numbers as lists of bits. -/
import Derived.Test.YtppmpledcaonkaaBitA
import Derived.Handy
namespace Go.Bv
open Go Go.RowKit
set_option linter.unusedVariables false
/-- what is carried from the lowest bits of a sum -/
def cy (A B k : Nat) : Nat := (A % 2 ^ k + B % 2 ^ k) / 2 ^ k
theorem cy_zero (A B : Nat) : cy A B 0 = 0 := by unfold cy; simp [Nat.mod_one]
theorem cy_le (A B k : Nat) : cy A B k ≤ 1 := by
  unfold cy
  have h1 := Nat.mod_lt A (Nat.two_pow_pos k)
  have h2 := Nat.mod_lt B (Nat.two_pow_pos k)
  have : (A % 2 ^ k + B % 2 ^ k) / 2 ^ k < 2 := by rw [Nat.div_lt_iff_lt_mul (Nat.two_pow_pos k)]; omega
  omega
theorem mod_bit (A k : Nat) : A % 2 ^ (k + 1) = A % 2 ^ k + 2 ^ k * (A / 2 ^ k % 2) := by rw [Nat.pow_succ, Nat.mod_mul]
theorem cy_succ (A B k : Nat) : cy A B (k + 1) = (A / 2 ^ k % 2 + B / 2 ^ k % 2 + cy A B k) / 2 := by
  unfold cy
  rw [mod_bit A k, mod_bit B k, Nat.pow_succ, ← Nat.div_div_eq_div_mul]
  congr 1
  generalize A / 2 ^ k % 2 = p
  generalize B / 2 ^ k % 2 = q
  rw [show A % 2 ^ k + 2 ^ k * p + (B % 2 ^ k + 2 ^ k * q) = 2 ^ k * (p + q) + (A % 2 ^ k + B % 2 ^ k) by rw [Nat.mul_add]; omega]
  exact Nat.mul_add_div (Nat.two_pow_pos k) _ _
theorem add_bit (A B k : Nat) : (A + B) / 2 ^ k % 2 = (A / 2 ^ k % 2 + B / 2 ^ k % 2 + cy A B k) % 2 := by
  have h1 := Nat.div_add_mod A (2 ^ k)
  have h2 := Nat.div_add_mod B (2 ^ k)
  have e : A + B = 2 ^ k * (A / 2 ^ k + B / 2 ^ k) + (A % 2 ^ k + B % 2 ^ k) := by rw [Nat.mul_add]; omega
  have e2 : (A + B) / 2 ^ k = A / 2 ^ k + B / 2 ^ k + cy A B k := by
    conv => lhs; rw [e]
    exact Nat.mul_add_div (Nat.two_pow_pos k) _ _
  rw [e2]; omega
theorem shl_bit (A b i : Nat) : bt (A * 2 ^ b) i = btI A ((i : Int) - (b : Int)) := by
  by_cases h : i < b
  · unfold btI
    rw [if_pos (by omega)]
    unfold bt
    obtain ⟨d, rfl⟩ : ∃ d, b = i + (d + 1) := ⟨b - i - 1, by omega⟩
    rw [Nat.pow_add, show A * (2 ^ i * 2 ^ (d + 1)) = 2 ^ i * (A * 2 ^ (d + 1)) by grind, Nat.mul_div_cancel_left _ (Nat.two_pow_pos i), Nat.pow_succ, ← Nat.mul_assoc, Nat.mul_mod_left]; rfl
  · unfold btI
    rw [if_neg (by omega)]
    obtain ⟨d, rfl⟩ : ∃ d, i = b + d := ⟨i - b, by omega⟩
    rw [show (((b + d : Nat) : Int) - (b : Int)).toNat = d by omega]
    unfold bt
    rw [Nat.pow_add, ← Nat.div_div_eq_div_mul, Nat.mul_div_cancel _ (Nat.two_pow_pos b)]
theorem top_bits {A B k : Nat} (h : A / 2 ^ (k + 1) = B / 2 ^ (k + 1)) : (A / 2 ^ k % 2 = B / 2 ^ k % 2 → A / 2 ^ k = B / 2 ^ k) ∧ (A / 2 ^ k % 2 < B / 2 ^ k % 2 → A < B) := by
  have h1 := bt_step A k
  have h2 := bt_step B k
  refine ⟨fun e => by omega, fun e => ?_⟩
  have h3 : A / 2 ^ k < B / 2 ^ k := by omega
  rcases Nat.lt_or_ge A B with h4 | h4
  · exact h4
  · exact absurd (Nat.div_le_div_right (c := 2 ^ k) h4) (by omega)
def cmpN (A B : Nat) : Int := if A < B then -1 else if B < A then 1 else 0
theorem bitsOf_mod (N n : Nat) : bitsOf (N % 2 ^ n) n = bitsOf N n := by
  unfold bitsOf
  apply List.map_congr_left
  intro i hi
  have hi := List.mem_range.1 hi
  unfold bt
  congr 1
  rw [← Nat.mod_mul_right_div_self, ← Nat.mod_mul_right_div_self, ← Nat.pow_succ, Nat.mod_mod_of_dvd]
  exact Nat.pow_dvd_pow 2 (by omega)
end Go.Bv
namespace Go.Proofs.Ytppmpledcaonkaa
open Go.RowKit Go.Bv
set_option linter.unusedVariables false
theorem bits_row {w : World} {base : Nat} {v : Value} {n N : Nat} (h : w.ownsRow base 3 1 v n ((bitsOf N n).map fun y => .int .i64 y)) (hn : n ≤ 4096) :
    ∃ a c, v = .slice a n c ∧ ZRow w a n c (bitsOf N n) := ZRow.of_owns h (by omega) (bitsOf_wf N n)
end Go.Proofs.Ytppmpledcaonkaa
