/- The law ShuffleThen. -/
import Derived.Test.YtajjpllhihgkdaaShfG
namespace Go.Proofs.Ytajjpllhihgkdaa
open Go Go.RowKit Go.Bv
set_option linter.unusedVariables false
theorem thR_no {p q : List Int} (h : ¬ (p.length = q.length ∧ isO p ∧ isO q)) : thR p q = [] := by
  have : thB p q = false := by
    rw [← Bool.not_eq_true]
    intro h2
    unfold thB at h2
    rw [Bool.and_eq_true, Bool.and_eq_true, decide_eq_true_eq, isB_iff, isB_iff] at h2
    exact h h2
  unfold thR; rw [this]; rfl
theorem thR_yes {p q : List Int} (h : p.length = q.length) (hp : isO p) (hq : isO q) : thR p q = thI p q := by
  unfold thR thB
  rw [decide_eq_true h, isB_iff.2 hp, isB_iff.2 hq]; rfl
theorem bkR_no {p : List Int} (h : ¬ isO p) : bkR p = [] := by unfold bkR; rw [isB_no h]; rfl
theorem bkR_yes {p : List Int} (h : isO p) : bkR p = bkI p := by unfold bkR; rw [isB_iff.2 h]; rfl
theorem thI_at {p q : List Int} (hp : isO p) (hq : isO q) (hl : p.length = q.length) {j : Nat} (hj : j < p.length) : ∃ x : Nat, q.getD j 0 = (x : Int) ∧ x < p.length ∧ (thI p q).getD j 0 = p.getD x 0 := by
  have h1 := hq.1 j (by omega)
  refine ⟨fnI q j, by unfold fnI; omega, by unfold fnI; omega, ?_⟩
  have h2 := hp.1 (fnI q j) (by unfold fnI; omega)
  unfold thI
  rw [liI_get _ hj]
  show ((fnI p (fnI q j) : Nat) : Int) = _
  have e : fnI p (fnI q j) = (p.getD (fnI q j) 0).toNat := rfl
  rw [e]; omega
end Go.Proofs.Ytajjpllhihgkdaa
