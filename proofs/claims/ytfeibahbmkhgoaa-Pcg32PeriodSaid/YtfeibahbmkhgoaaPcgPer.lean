/- For every two states, every increment and every number of steps: pcg32.Steps tells how many steps lead from one state to the other, and that number alone below 2^64 does: the walk of the statement Pcg32Period. -/
import Derived.Test.YtfeibahbmkhgoaaPcgB
namespace Go.Proofs.Ytfeibahbmkhgoaa
open Go.RowKit Go.Bv
set_option linter.unusedVariables false
set_option maxHeartbeats 400000 in
theorem Pcg32Period_walk (a0 : Int) (a1 : Int) (a2 : Int) (a3 : Int) (w0 : (Lit.int .u64 a0).wf = true) (w1 : (Lit.int .u64 a1).wf = true) (w2 : (Lit.int .u64 a2).wf = true) (w3 : (Lit.int .u64 a3).wf = true) (w : World) :
    Calls Try.prog 11 #[.int .u64 a0, .int .u64 a1, .int .u64 a2, .int .u64 a3] w fun e w' => e = .returned (.bool true) ∧ Grown w w' := by
  obtain ⟨s, rfl⟩ := wf64 w0
  obtain ⟨t, rfl⟩ := wf64 w1
  obtain ⟨inc, rfl⟩ := wf64 w2
  obtain ⟨n, rfl⟩ := wf64 w3
  have h1 : ((n == 0#64) == (adv13 inc (N64 n) s == s)) = true := by
    rw [beq_iff_eq, Bool.eq_iff_iff, beq_iff_eq, beq_iff_eq]
    constructor
    · intro h; rw [h]; rfl
    · intro h
      have := adv13_inj inc n.toNat 0 n.isLt (by omega) s h
      exact BitVec.eq_of_toNat_eq this
  go_enter Try.func11, Try.ntmps11
  go_wp2_with (first | (go_at_call 36; refine (awake13 _).mono ?_; rintro e w' ⟨rfl, rfl⟩))
  refine (steps_any _ _ _ (b64 _) (b64 _) _).mono ?_
  rintro e w' ⟨k, rfl, hk, rfl⟩
  rw [ofInt_W64, ofInt_W64, ofInt_W64] at hk
  have h2 : (adv13 inc (N64 k) s == t) = true := by rw [beq_iff_eq]; exact hk
  clear hk
  go_wp2_with (first | (go_at_call 44; refine (advance_any _ _ _ (b64 _) (by first | exact b64 _ | omega) _).mono ?_; rintro e w' ⟨rfl, rfl⟩))
  refine (steps_any _ _ _ (b64 _) (b64 _) _).mono ?_
  rintro e w' ⟨k2, rfl, hk, rfl⟩
  rw [ofInt_W64, ofInt_W64, ofInt_W64] at hk
  have h3 : (k2 == n) = true := by
    rw [beq_iff_eq]; exact BitVec.eq_of_toNat_eq (adv13_inj inc _ _ k2.isLt n.isLt s hk)
  clear hk
  go_wp2_with (first | (go_at_call 44; refine (advance_any _ _ _ (b64 _) (by first | exact b64 _ | omega) _).mono ?_; rintro e w' ⟨rfl, rfl⟩))
  go_ret
  exact ⟨rfl, Grown.refl _⟩
end Go.Proofs.Ytfeibahbmkhgoaa
