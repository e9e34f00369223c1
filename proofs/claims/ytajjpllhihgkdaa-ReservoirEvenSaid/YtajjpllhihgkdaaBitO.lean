/- The contract of the document's own Of2: for all numbers of two words. -/
import Derived.Test.YtajjpllhihgkdaaBitB
import Derived.Test.YtajjpllhihgkdaaWidA
import Derived.Deep.RegionLaw
import Derived.Deep.RegionWith
import Derived.Deep.AppendLies
namespace Go.Bv
open Go Go.RowKit
set_option linter.unusedVariables false
theorem bits_two (a1 a0 : BitVec 64) : bitsOf a0.toNat 64 ++ bitsOf a1.toNat 64 = bitsOf (two a1 a0) 128 := by
  apply ints_eq (n := 128)
  · rw [List.length_append, bitsOf_len, bitsOf_len]
  · rw [bitsOf_len]
  · intro j hj
    rw [bitsOf_at hj]
    by_cases h : j < 64
    · rw [List.getD_eq_getElem?_getD, List.getElem?_append_left (by rw [bitsOf_len]; exact h), ← List.getD_eq_getElem?_getD, bitsOf_at h]
      unfold bt two
      congr 1
      obtain ⟨d, hd⟩ : ∃ d, 64 = j + (d + 1) := ⟨63 - j, by omega⟩
      rw [show (18446744073709551616 : Nat) = 2 ^ j * 2 ^ (d + 1) by rw [← Nat.pow_add, ← hd], show a1.toNat * (2 ^ j * 2 ^ (d + 1)) = 2 ^ j * (a1.toNat * 2 ^ d * 2) by rw [Nat.pow_succ]; grind, Nat.mul_add_div (Nat.two_pow_pos j)]
      omega
    · rw [List.getD_eq_getElem?_getD, List.getElem?_append_right (by rw [bitsOf_len]; omega), ← List.getD_eq_getElem?_getD, bitsOf_len, bitsOf_at (by omega)]
      unfold bt two
      congr 1
      obtain ⟨d, rfl⟩ : ∃ d, j = 64 + d := ⟨j - 64, by omega⟩
      rw [show 64 + d - 64 = d by omega, Nat.pow_add, ← Nat.div_div_eq_div_mul]
      have := a0.isLt
      rw [show (a1.toNat * 18446744073709551616 + a0.toNat) / 2 ^ 64 = a1.toNat by omega]
end Go.Bv
namespace Go.Proofs.Ytajjpllhihgkdaa
open Go.RowKit Go.Bv
set_option linter.unusedVariables false
theorem own_low {w : World} {base base' : Nat} {e : TypeId} {size : Nat} {v : Value} {n : Nat} {xs : List Value} (h : w.ownsRow base e size v n xs) (hb : base' ≤ base) : w.ownsRow base' e size v n xs := by
  obtain ⟨hl, h⟩ := h
  refine ⟨hl, ?_⟩
  rcases h with h | ⟨g, cap, cur, hv, hb', hc, h2⟩
  · exact Or.inl h
  · exact Or.inr ⟨g, cap, cur, hv, by omega, hc, h2⟩
end Go.Proofs.Ytajjpllhihgkdaa
