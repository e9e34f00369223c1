import Derived.Test.YtebcfbcfipmahaaGreatYWidN
import Derived.Test.YtebcfbcfipmahaaGreatClass
section
/- Contracts of layer 26: firsts. -/
namespace Go.Bv
open Go Go.RowKit
theorem ceil_cases (n : Nat) (hn : 0 < n) (N : Nat) : (N + (n - 1)) / n = N / n + if N / n * n = N then 0 else 1 := by
  have h1 := Nat.div_add_mod N n
  have h2 := Nat.mod_lt N hn
  have h3 := Nat.mul_comm n (N / n)
  have e : N + (n - 1) = n * (N / n) + (N % n + (n - 1)) := by omega
  rw [e, Nat.mul_add_div hn]
  congr 1
  split
  · rw [Nat.div_eq_of_lt (by omega)]
  · exact Nat.div_eq_of_lt_le (by omega) (by omega)
/-- the first number that is brought to v or more -/
def frst (v m : BitVec 64) (k : Nat) : Nat := (v.toNat * 2 ^ k + (m.toNat - 1)) / m.toNat
theorem pow_le {k : Nat} (h : k ≤ 64) : 2 ^ k ≤ 18446744073709551616 := Nat.pow_le_pow_right (by omega) h
theorem scaled_lt (v : BitVec 64) (k : Nat) (h : k ≤ 64) : v.toNat * 2 ^ k < 2 ^ 128 := by
  have h1 := v.isLt
  have h2 := pow_le h
  calc v.toNat * 2 ^ k ≤ v.toNat * 18446744073709551616 := Nat.mul_le_mul_left _ h2
    _ < 2 ^ 128 := by omega
end Go.Bv
namespace Go.Proofs.YtebcfbcfipmahaaGreat
open Go.RowKit Go.Bv
set_option linter.unusedVariables false
end Go.Proofs.YtebcfbcfipmahaaGreat
end
section
/- Contracts of layer 26: Check, Reduce; the document's own Check, Has, Reduce. -/
namespace Go.Bv
open Go Go.RowKit
theorem calls_anew {P : Program} {F : FuncId} {args : Array Value} {v : Value} (h : ∀ w, Calls P F args w fun e w' => e = .returned v ∧ w' = w) (w : World) : Calls P F args w fun e w' => e = .returned v ∧ New w w' :=
  (h w).mono fun _ _ ⟨a, b⟩ => ⟨a, b ▸ New.refl w⟩
theorem lenR_bounds (A : Nat) : ∀ n, A < 2 ^ n → A ≠ 0 → 1 ≤ lenN A n ∧ 2 ^ (lenN A n - 1) ≤ A ∧ A < 2 ^ lenN A n
  | 0, h, h0 => by rw [Nat.pow_zero] at h; omega
  | k + 1, h, h0 => by
    unfold lenN
    by_cases h1 : A / 2 ^ k % 2 = 1
    · rw [if_pos h1]
      refine ⟨by omega, ?_, h⟩
      rw [Nat.add_sub_cancel]
      rcases Nat.lt_or_ge A (2 ^ k) with h2 | h2
      · rw [Nat.div_eq_of_lt h2] at h1; omega
      · exact h2
    · rw [if_neg h1]
      refine lenR_bounds A k ?_ h0
      rcases Nat.lt_or_ge A (2 ^ k) with h2 | h2
      · exact h2
      · exfalso
        apply h1
        have h3 : A / 2 ^ k = 1 := by
          rw [Nat.pow_succ] at h
          exact Nat.div_eq_of_lt_le (by omega) (by omega)
        rw [h3]
theorem lenR_zero : ∀ n, lenN 0 n = 0
  | 0 => rfl
  | k + 1 => by unfold lenN; rw [Nat.zero_div, if_neg (by omega)]; exact lenR_zero k
theorem lenR_le (A n k : Nat) (h : A < 2 ^ n) : lenN A n ≤ k ↔ A < 2 ^ k := by
  by_cases h0 : A = 0
  · subst h0; rw [lenR_zero]; exact ⟨fun _ => Nat.two_pow_pos k, fun _ => Nat.zero_le _⟩
  · obtain ⟨a, b, c⟩ := lenR_bounds A n h h0
    constructor
    · intro h1; exact Nat.lt_of_lt_of_le c (Nat.pow_le_pow_right (by omega) h1)
    · intro h1
      have := (Nat.pow_lt_pow_iff_right (by omega : 1 < 2)).1 (Nat.lt_of_le_of_lt b h1)
      omega
/-- what a number is brought to -/
def redR (x m : BitVec 64) (k : Nat) : BitVec 64 := loN (x.toNat * m.toNat / 2 ^ k)
theorem prod_lt (x m : BitVec 64) : x.toNat * m.toNat < 2 ^ 128 := by
  have hx := x.isLt
  have hm := m.isLt
  exact Nat.lt_of_lt_of_le (Nat.mul_lt_mul'' hx hm) (by decide)
theorem shr_none (x : BitVec 64) (k : Nat) : (x >>> k == 0#64) = decide (x.toNat < 2 ^ k) := by
  rw [Bool.eq_iff_iff, beq_iff_eq, decide_eq_true_eq]
  constructor
  · intro h
    have h2 := congrArg BitVec.toNat h
    rw [BitVec.toNat_ushiftRight, Nat.shiftRight_eq_div_pow] at h2
    exact (Nat.div_eq_zero_iff_lt (Nat.two_pow_pos k)).1 h2
  · intro h
    apply BitVec.eq_of_toNat_eq
    rw [BitVec.toNat_ushiftRight, Nat.shiftRight_eq_div_pow, Nat.div_eq_of_lt h]; rfl
/-- the error's number -/
def chkR (k : Int) (m : BitVec 64) : Int := if k < 1 ∨ 64 < k then 1 else if m = 0#64 then 8 else 0
end Go.Bv
namespace Go.Proofs.YtebcfbcfipmahaaGreat
open Go.RowKit Go.Bv
set_option linter.unusedVariables false
end Go.Proofs.YtebcfbcfipmahaaGreat
end
