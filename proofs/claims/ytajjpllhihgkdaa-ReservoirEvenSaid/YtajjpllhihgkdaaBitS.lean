/- Contracts of the document's own Shr and Len: for all lists of bits. -/
import Derived.Test.YtajjpllhihgkdaaBitM
namespace Go.Bv
open Go Go.RowKit
theorem shr_bit (A b i : Nat) : bt (A / 2 ^ b) i = btI A ((i : Int) + (b : Int)) := by
  rw [show (i : Int) + (b : Int) = ((i + b : Nat) : Int) by omega, btI_nat]
  unfold bt
  rw [Nat.div_div_eq_div_mul, ← Nat.pow_add, Nat.add_comm b i]
/-- one more than the greatest bit that is set, below k -/
def lenN (A : Nat) : Nat → Nat
  | 0 => 0
  | k + 1 => if A / 2 ^ k % 2 = 1 then k + 1 else lenN A k
theorem lenN_zero (A : Nat) : ∀ k, lenN A k = 0 → A % 2 ^ k = 0
  | 0, _ => by rw [Nat.pow_zero, Nat.mod_one]
  | k + 1, h => by
    unfold lenN at h
    by_cases h1 : A / 2 ^ k % 2 = 1
    · rw [if_pos h1] at h; omega
    · rw [if_neg h1] at h
      rw [mod_bit, lenN_zero A k h, show A / 2 ^ k % 2 = 0 by omega, Nat.mul_zero]
theorem lenN_le (A : Nat) : ∀ k, lenN A k ≤ k
  | 0 => Nat.le_refl _
  | k + 1 => by
    have := lenN_le A k
    unfold lenN; split <;> omega
theorem lenN_pos {A n : Nat} (h : A < 2 ^ n) (h0 : A ≠ 0) : lenN A n ≠ 0 := by
  intro e
  have := lenN_zero A n e
  rw [Nat.mod_eq_of_lt h] at this
  exact h0 this
end Go.Bv
namespace Go.Proofs.Ytajjpllhihgkdaa
open Go.RowKit Go.Bv
set_option linter.unusedVariables false
set_option maxHeartbeats 1000000 in
theorem blen_any (A n c : Nat) (a : Option Addr) (w : World) (hr : ZRow w a n c (bitsOf A n)) :
    Calls Try.prog 101 #[.slice a n c] w fun e w' => e = .returned (.int .i64 (lenN A n : Nat)) ∧ w' = w := by
  have hm := hr.most
  go_enter Try.func101, Try.ntmps101
  go_wp2
  go_loop [3, 4] (fun L I => ∃ k : Nat, k ≤ n ∧ I = .int .i64 k ∧ L = .int .i64 (lenN A k : Nat)) (fun _ I => n - (intOf I).toNat)
  case atStart => exact ⟨0, by omega, rfl, rfl⟩
  case round =>
    obtain ⟨k, hk, rfl, rfl⟩ := hrel
    by_cases hlt : (k : Int) < n
    · obtain ⟨b, off, rfl, hc⟩ := hr.addr (by omega)
      have c1 := hc k (by omega)
      rw [bitsOf_at (by omega)] at c1
      clear hc
      by_cases hb : A / 2 ^ k % 2 = 1
      · have e1 : bt A k = 1 := by unfold bt; rw [hb]; rfl
        have HS : Hid (lenN A (k + 1) = k + 1) := Lib.hid (by rw [lenN, if_pos hb])
        rw [e1] at c1
        clear hb e1
        generalize lenN A k = q at *
        go_wp2
        exact ⟨⟨k + 1, by omega, by go_num, by rw [HS.out]; go_num⟩, by simp [intOf]; omega⟩
      · have e1 : bt A k = 0 := by unfold bt; rw [show A / 2 ^ k % 2 = 0 by omega]; rfl
        have HS : Hid (lenN A (k + 1) = lenN A k) := Lib.hid (by rw [lenN, if_neg hb])
        rw [e1] at c1
        clear hb e1
        go_wp2
        exact ⟨⟨k + 1, by omega, by go_num, by rw [HS.out]⟩, by simp [intOf]; omega⟩
    · obtain rfl : k = n := by omega
      go_wp2
      go_ret
      exact ⟨rfl, rfl⟩
end Go.Proofs.Ytajjpllhihgkdaa
