/- For every two numbers pcg32.Seed returns the state and the increment that the document names: the walk of the statement Pcg32Seeds. -/
import Derived.Test.YtfeibahbmkhgoaaPcgA
namespace Go.Proofs.Ytfeibahbmkhgoaa
open Go.RowKit Go.Bv
set_option linter.unusedVariables false
set_option maxHeartbeats 400000 in
theorem Pcg32Seeds_walk (a0 : Int) (a1 : Int) (w0 : (Lit.int .u64 a0).wf = true) (w1 : (Lit.int .u64 a1).wf = true) (w : World) :
    Calls Try.prog 12 #[.int .u64 a0, .int .u64 a1] w fun e w' => e = .returned (.bool true) ∧ Grown w w' := by
  obtain ⟨s, rfl⟩ := wf64 w0
  obtain ⟨t, rfl⟩ := wf64 w1
  have h1 : (step13 (step13 0#64 (2#64 * t + 1#64) + s) (2#64 * t + 1#64) == step13 (2#64 * t + 1#64 + s) (2#64 * t + 1#64)) = true := by
    rw [beq_iff_eq]; unfold step13
    have : (2#64 * t + 1#64) ||| 1#64 = 2#64 * t + 1#64 := by
      rw [← odd13, if_neg]
      intro h
      have h2 := mod_low (2#64 * t + 1#64) 1 (by omega) 0
      have h3 := congrArg (fun x : BitVec 64 => x.toNat) h
      simp [BitVec.toNat_umod, BitVec.toNat_add, BitVec.toNat_mul] at h3
    rw [this, BitVec.zero_mul, BitVec.zero_add]
  go_enter Try.func12, Try.ntmps12
  go_wp2_with (first | (go_at_call 36; refine (awake13 _).mono ?_; rintro e w' ⟨rfl, rfl⟩) | (go_at_call 47; refine (seed_any _ _ _).mono ?_; rintro e w' ⟨rfl, rfl⟩) | (go_at_call 39; refine (step_ref _ _ (b64 _) (b64 _) _).mono ?_; rintro e w' ⟨rfl, rfl⟩))
  go_ret
  exact ⟨rfl, Grown.refl _⟩
end Go.Proofs.Ytfeibahbmkhgoaa
