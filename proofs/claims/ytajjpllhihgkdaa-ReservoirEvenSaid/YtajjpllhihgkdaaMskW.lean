/- The law MaskWords, walked. -/
import Derived.Test.YtajjpllhihgkdaaMskG
import Derived.Test.YtajjpllhihgkdaaClass
namespace Go.Bv
open Go Go.RowKit
theorem two_low (r : BitVec 64) : two 0#64 r = r.toNat := by unfold two; simp
theorem tak_zero (x : BitVec 64) : takM x 0#64 = false := by
  unfold takM
  rw [decide_eq_false_iff_not, show W64 0#64 = 0 by decide]
  unfold W64
  omega
/-- a contract that changes nothing, as one that makes memory -/
theorem calls_new {P : Program} {F : FuncId} {args : Array Value} {v : Value} (h : ∀ w, Calls P F args w fun e w' => e = .returned v ∧ w' = w) (w : World) : Calls P F args w fun e w' => e = .returned v ∧ New w w' :=
  (h w).mono fun _ _ ⟨a, b⟩ => ⟨a, b ▸ New.refl w⟩
end Go.Bv
namespace Go.Proofs.Ytajjpllhihgkdaa
open Go.RowKit Go.Bv
set_option linter.unusedVariables false
theorem rnk_lt (x n : BitVec 64) (h : ¬ n = 0#64) : (rnkM x n).toNat < eachM n := by
  have hb := bitsM_le n
  have hx := x.isLt
  unfold rnkM eachM
  rw [if_neg h, Nat.one_mul, BitVec.toNat_ushiftRight, Nat.shiftRight_eq_div_pow, Nat.div_lt_iff_lt_mul (Nat.two_pow_pos _), ← Nat.pow_add, show 64 - bitsM n + bitsM n = 64 by omega]
  exact hx
end Go.Proofs.Ytajjpllhihgkdaa
