/- Contracts of layer 39: Bits, yields and the function that it hands back. · Contract of layer 39: Take: the first word that is taken. · Layer 39: the law's own check that the program is there; the law MaskHalf. -/
import Derived.Test.YtajjpllhihgkdaaTapE
import Derived.Test.YtajjpllhihgkdaaLemD
import Derived.Test.YtajjpllhihgkdaaLemC
namespace Go.Bv
open Go Go.RowKit
/-- how many bits a limit less 1 has -/
def bitsM (n : BitVec 64) : Nat := if n = 0#64 then 0 else Lib.bitLen (n - 1#64).toNat
/-- what a word tells -/
def telM (x n : BitVec 64) : BitVec 64 := x &&& (1#64 <<< bitsM n - 1#64)
/-- whether a word is taken -/
def takM (x n : BitVec 64) : Bool := decide (W64 (telM x n) < W64 n)
theorem bitLen_up (x : Nat) (h : x < 2 ^ 64) : Lib.bitLen x ≤ 64 ∧ (x ≠ 0 → 1 ≤ Lib.bitLen x ∧ 2 ^ (Lib.bitLen x - 1) ≤ x ∧ x < 2 ^ Lib.bitLen x) ∧ (x = 0 → Lib.bitLen x = 0) := by
  refine ⟨?_, fun h0 => Lib.bitLenAux_bounds 64 x h h0, fun h0 => by subst h0; exact Lib.bitLenAux_zero 64⟩
  by_cases h0 : x = 0
  · subst h0; unfold Lib.bitLen; rw [Lib.bitLenAux_zero]; omega
  · obtain ⟨h1, h2, h3⟩ := Lib.bitLenAux_bounds 64 x h h0
    have h4 : 2 ^ (Lib.bitLenAux 64 x - 1) < 2 ^ 64 := Nat.lt_of_le_of_lt h2 h
    have h5 := (Nat.pow_lt_pow_iff_right (by omega : 1 < 2)).1 h4
    unfold Lib.bitLen; omega
theorem bitsM_le (n : BitVec 64) : bitsM n ≤ 64 := by
  unfold bitsM; split
  · omega
  · exact (bitLen_up _ (n - 1#64).isLt).1
end Go.Bv
namespace Go.Proofs.Ytajjpllhihgkdaa
open Go.RowKit Go.Bv
set_option linter.unusedVariables false
end Go.Proofs.Ytajjpllhihgkdaa
namespace Go.Proofs.Ytajjpllhihgkdaa
open Go.RowKit Go.Bv
set_option linter.unusedVariables false
/-- the rank of a word -/
def rnkM (x n : BitVec 64) : BitVec 64 := x >>> bitsM n
end Go.Proofs.Ytajjpllhihgkdaa
namespace Go.Bv
open Go Go.RowKit
theorem takm_a : takM 7#64 5#64 = false := by decide +kernel
theorem takm_b : takM 12#64 5#64 = true := by decide +kernel
theorem telm_b : W64 (telM 12#64 5#64) = 4 := by decide +kernel
theorem bits_5 : bitsM 5#64 = 3 := by decide +kernel
theorem bits_above (n : BitVec 64) (h : 2 ≤ n.toNat) : ∃ t, bitsM n = t + 1 ∧ t ≤ 63 ∧ 2 ^ t < n.toNat ∧ n.toNat ≤ 2 ^ (t + 1) := by
  have h0 : ¬ n = 0#64 := fun e => by rw [e] at h; exact absurd h (by decide)
  have h1 : (n - 1#64).toNat = n.toNat - 1 := by
    rw [BitVec.toNat_sub_of_le (by rw [BitVec.le_def]; show 1 ≤ n.toNat; omega)]; rfl
  unfold bitsM
  rw [if_neg h0, h1]
  obtain ⟨a, b, _⟩ := bitLen_up (n.toNat - 1) (by have := n.isLt; omega)
  obtain ⟨c, d, e⟩ := b (by omega)
  refine ⟨Lib.bitLen (n.toNat - 1) - 1, by omega, by omega, by omega, ?_⟩
  rw [show Lib.bitLen (n.toNat - 1) - 1 + 1 = Lib.bitLen (n.toNat - 1) by omega]; omega
theorem shr_one (n : BitVec 64) (t : Nat) (h : 2 ^ t < n.toNat) : decide (1 ≤ W64 (n >>> t)) = true := by
  rw [decide_eq_true_eq]
  unfold W64
  rw [BitVec.toNat_ushiftRight, Nat.shiftRight_eq_div_pow]
  have := (Nat.one_le_div_iff (Nat.two_pow_pos t)).2 (Nat.le_of_lt h)
  omega
theorem shl_up (n : BitVec 64) (t : Nat) (ht : t + 1 < 64) (h : n.toNat ≤ 2 ^ (t + 1)) : decide (W64 n ≤ W64 (1#64 <<< (t + 1))) = true := by
  rw [decide_eq_true_eq]
  unfold W64
  rw [BitVec.toNat_shiftLeft, Nat.shiftLeft_eq]
  show (n.toNat : Int) ≤ ((1 * 2 ^ (t + 1) % 2 ^ 64 : Nat) : Int)
  rw [Nat.one_mul, Nat.mod_eq_of_lt ((Nat.pow_lt_pow_iff_right (by omega)).2 ht)]
  omega
end Go.Bv
namespace Go.Proofs.Ytajjpllhihgkdaa
open Go.RowKit Go.Bv
set_option linter.unusedVariables false
end Go.Proofs.Ytajjpllhihgkdaa
