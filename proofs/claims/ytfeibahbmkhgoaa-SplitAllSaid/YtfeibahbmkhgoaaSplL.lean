/- For every states and numbers: jumps of split add up, steps tell which one leads from a state to another; from any state any number is told at just one place: the walks of the statements SplitJumps and SplitAll. -/
import Derived.Test.YtfeibahbmkhgoaaSplA
namespace Go.Proofs.Ytfeibahbmkhgoaa
open Go.RowKit Go.Bv
set_option linter.unusedVariables false
theorem step_go (s t : BitVec 64) : s + (t - s) * oddInv Gm * Gm = t := by
  rw [mul_inv_left Gm_inv]; grind
theorem go_step (s n : BitVec 64) : (s + n * Gm - s) * oddInv Gm = n := by
  rw [show s + n * Gm - s = n * Gm by grind, mul_inv_right Gm_inv]
set_option maxHeartbeats 1000000 in
theorem SplitJumps_walk (a0 : Int) (a1 : Int) (a2 : Int) (a3 : Int) (w0 : (Lit.int .u64 a0).wf = true) (w1 : (Lit.int .u64 a1).wf = true) (w2 : (Lit.int .u64 a2).wf = true) (w3 : (Lit.int .u64 a3).wf = true) (w : World) :
    Calls Try.prog 7 #[.int .u64 a0, .int .u64 a1, .int .u64 a2, .int .u64 a3] w fun e w' => e = .returned (.bool true) ∧ Below w.heap.size w w' := by
  obtain ⟨s, rfl⟩ := wf64 w0
  obtain ⟨t, rfl⟩ := wf64 w1
  obtain ⟨n, rfl⟩ := wf64 w2
  obtain ⟨m, rfl⟩ := wf64 w3
  have h1 : (s + n * Gm + m * Gm != s + (n + m) * Gm) = false := by rw [bne_eq_false_iff_eq]; grind
  have h2 : (s + Gm != s + 0x9e3779b97f4a7c15#64) = false := by rw [bne_eq_false_iff_eq]; rfl
  have h3 : (s + (t - s) * oddInv Gm * Gm == t) = true := by rw [beq_iff_eq]; exact step_go s t
  have h4 : ((s + n * Gm - s) * oddInv Gm == n) = true := by rw [beq_iff_eq]; exact go_step s n
  have hg := New.refl w
  go_enter Try.func7, Try.ntmps7
  go_wp2_with (first | (go_at_call 26; refine (awake08 _ _ hg).mono ?_; clear hg; rintro e w' ⟨rfl, hg⟩) | (go_at_call 33; refine (jump_any _ _ _).mono ?_; rintro e w' ⟨rfl, rfl⟩) | (go_at_call 29; refine (back_any _ _).mono ?_; rintro e w' ⟨rfl, rfl⟩) | (go_at_call 34; refine (steps_any8 _ _ _).mono ?_; rintro e w' ⟨rfl, rfl⟩) | (go_at_call 28; refine (out_ref _ _ _).mono ?_; rintro e w' ⟨rfl, rfl⟩) | (go_at_call 27; refine (next_any _ _ _ hg).mono ?_; clear hg; rintro e w' ⟨rfl, hg⟩) | (go_at_call 35; refine (before_any _ (b64 _) _ _ hg).mono ?_; clear hg; rintro e w' ⟨rfl, hg⟩))
  go_ret
  exact ⟨rfl, hg⟩
set_option maxHeartbeats 1000000 in
theorem SplitAll_walk (a0 : Int) (a1 : Int) (a2 : Int) (w0 : (Lit.int .u64 a0).wf = true) (w1 : (Lit.int .u64 a1).wf = true) (w2 : (Lit.int .u64 a2).wf = true) (w : World) :
    Calls Try.prog 8 #[.int .u64 a0, .int .u64 a1, .int .u64 a2] w fun e w' => e = .returned (.bool true) ∧ Below w.heap.size w w' := by
  obtain ⟨s, rfl⟩ := wf64 w0
  obtain ⟨o, rfl⟩ := wf64 w1
  obtain ⟨n, rfl⟩ := wf64 w2
  have h1 : (split (unsplit o - Gm + Gm) == o) = true := by rw [beq_iff_eq, BitVec.sub_add_cancel]; exact split_unsplit o
  have h2 : (split (s + ((unsplit o - Gm - s) * oddInv Gm + 1#64) * Gm) == o) = true := by
    rw [beq_iff_eq, show s + ((unsplit o - Gm - s) * oddInv Gm + 1#64) * Gm = s + (unsplit o - Gm - s) * oddInv Gm * Gm + Gm by grind, step_go, BitVec.sub_add_cancel]
    exact split_unsplit o
  have h3 : ((split (s + (n + 1#64) * Gm) == o) == (n == (unsplit o - Gm - s) * oddInv Gm)) = true := by
    rw [beq_iff_eq, Bool.eq_iff_iff, beq_iff_eq, beq_iff_eq]
    constructor
    · intro h
      rw [← h, unsplit_split, show s + (n + 1#64) * Gm - Gm - s = s + n * Gm - s by grind, go_step]
    · intro h
      rw [h]; exact beq_iff_eq.1 h2
  have hg := New.refl w
  go_enter Try.func8, Try.ntmps8
  go_wp2_with (first | (go_at_call 26; refine (awake08 _ _ hg).mono ?_; clear hg; rintro e w' ⟨rfl, hg⟩))
  refine (before_any _ (b64 _) _ _ hg).mono ?_; clear hg; rintro e w' ⟨rfl, hg⟩
  go_wp2_with fail
  refine (next_any _ _ _ hg).mono ?_; clear hg; rintro e w' ⟨rfl, hg⟩
  go_wp2_with fail
  refine (steps_any8 _ _ _).mono ?_; rintro e w' ⟨rfl, rfl⟩
  go_wp2_with fail
  refine (out_ref _ _ _).mono ?_; rintro e w' ⟨rfl, rfl⟩
  go_wp2_with fail
  refine (out_ref _ _ _).mono ?_; rintro e w' ⟨rfl, rfl⟩
  go_wp2_with fail
  go_ret
  exact ⟨rfl, hg⟩
end Go.Proofs.Ytfeibahbmkhgoaa
