/- For every words: mixers return what the document says; each is one for one: the walks of the statements MixMakes, MixBack and MixApart. -/
import Derived.Test.YtfeibahbmkhgoaaMixC
namespace Go.Proofs.Ytfeibahbmkhgoaa
open Go.RowKit Go.Bv
set_option linter.unusedVariables false
theorem sh_cover (n : Int) : 64 ≤ sh n * 2 ^ 6 := by unfold sh; omega
set_option maxHeartbeats 1000000 in
theorem MixMakes_walk (a0 : Int) (a1 : Int) (a2 : Int) (w0 : (Lit.int .u64 a0).wf = true) (w1 : (Lit.int .u32 a1).wf = true) (w2 : (Lit.int .i64 a2).wf = true) (w : World) :
    Calls Try.prog 3 #[.int .u64 a0, .int .u32 a1, .int .i64 a2] w fun e w' => e = .returned (.bool true) ∧ Below w.heap.size w w' := by
  obtain ⟨z, rfl⟩ := wf64 w0
  obtain ⟨h, rfl⟩ := wf32 w1
  obtain ⟨n, hn⟩ : ∃ n, n = a2 := ⟨_, rfl⟩
  subst hn
  have h1 : (fold z n == F (sh n) z) = true := by rw [beq_iff_eq]; rfl
  have hg := New.refl w
  go_enter Try.func3, Try.ntmps3
  go_wp2_with (first | (go_at_call 13; refine (awake07 _ _ hg).mono ?_; clear hg; rintro e w' ⟨rfl, hg⟩) | (go_at_call 14; refine (fold_any _ _ (b64 _) _).mono ?_; rintro e w' ⟨rfl, rfl⟩) | (go_at_call 22; refine (unfold_any _ _ (b64 _) _).mono ?_; rintro e w' ⟨rfl, rfl⟩) | (go_at_call 15; refine (fold_ref _ _ (b64 _) _).mono ?_; rintro e w' ⟨rfl, rfl⟩) | (go_at_call 17; refine (split_ref _ (b64 _) _).mono ?_; rintro e w' ⟨rfl, rfl⟩) | (go_at_call 19; refine (fmix64_ref _ (b64 _) _).mono ?_; rintro e w' ⟨rfl, rfl⟩) | (go_at_call 21; refine (fmix32_ref _ (b32 _) _).mono ?_; rintro e w' ⟨rfl, rfl⟩) | (go_at_call 16; refine (split_any _ (b64 _) _ _ hg).mono ?_; clear hg; rintro e w' ⟨rfl, hg⟩) | (go_at_call 18; refine (fmix64_any _ (b64 _) _ _ hg).mono ?_; clear hg; rintro e w' ⟨rfl, hg⟩) | (go_at_call 23; refine (unsplit_any _ (b64 _) _ _ hg).mono ?_; clear hg; rintro e w' ⟨rfl, hg⟩) | (go_at_call 24; refine (unfmix64_any _ (b64 _) _ _ hg).mono ?_; clear hg; rintro e w' ⟨rfl, hg⟩) | (go_at_call 20; refine (fmix32_any _ (b32 _) _ _ hg).mono ?_; clear hg; rintro e w' ⟨rfl, hg⟩) | (go_at_call 25; refine (unfmix32_any _ (b32 _) _ _ hg).mono ?_; clear hg; rintro e w' ⟨rfl, hg⟩))
  go_ret
  exact ⟨rfl, hg⟩
set_option maxHeartbeats 1000000 in
theorem MixBack_walk (a0 : Int) (a1 : Int) (a2 : Int) (w0 : (Lit.int .u64 a0).wf = true) (w1 : (Lit.int .u32 a1).wf = true) (w2 : (Lit.int .i64 a2).wf = true) (w : World) :
    Calls Try.prog 4 #[.int .u64 a0, .int .u32 a1, .int .i64 a2] w fun e w' => e = .returned (.bool true) ∧ Below w.heap.size w w' := by
  obtain ⟨z, rfl⟩ := wf64 w0
  obtain ⟨h, rfl⟩ := wf32 w1
  obtain ⟨n, hn⟩ : ∃ n, n = a2 := ⟨_, rfl⟩
  subst hn
  have h1 : unf 6 (sh n) (fold z n) = z := unf_F _ _ _ (sh_cover n)
  have h2 : F (sh n) (unf 6 (sh n) z) = z := F_unf _ _ _ (sh_cover n)
  have h3 := unsplit_split z
  have h4 := unfmix_fmix z
  have h5 := unfmix32_fmix32 h
  have h6 := split_unsplit z
  have h7 := fmix_unfmix z
  have h8 := fmix32_unfmix32 h
  have hg := New.refl w
  go_enter Try.func4, Try.ntmps4
  go_wp2_with (first | (go_at_call 13; refine (awake07 _ _ hg).mono ?_; clear hg; rintro e w' ⟨rfl, hg⟩) | (go_at_call 14; refine (fold_any _ _ (b64 _) _).mono ?_; rintro e w' ⟨rfl, rfl⟩) | (go_at_call 22; refine (unfold_any _ _ (b64 _) _).mono ?_; rintro e w' ⟨rfl, rfl⟩) | (go_at_call 15; refine (fold_ref _ _ (b64 _) _).mono ?_; rintro e w' ⟨rfl, rfl⟩) | (go_at_call 17; refine (split_ref _ (b64 _) _).mono ?_; rintro e w' ⟨rfl, rfl⟩) | (go_at_call 19; refine (fmix64_ref _ (b64 _) _).mono ?_; rintro e w' ⟨rfl, rfl⟩) | (go_at_call 21; refine (fmix32_ref _ (b32 _) _).mono ?_; rintro e w' ⟨rfl, rfl⟩) | (go_at_call 16; refine (split_any _ (b64 _) _ _ hg).mono ?_; clear hg; rintro e w' ⟨rfl, hg⟩) | (go_at_call 18; refine (fmix64_any _ (b64 _) _ _ hg).mono ?_; clear hg; rintro e w' ⟨rfl, hg⟩) | (go_at_call 23; refine (unsplit_any _ (b64 _) _ _ hg).mono ?_; clear hg; rintro e w' ⟨rfl, hg⟩) | (go_at_call 24; refine (unfmix64_any _ (b64 _) _ _ hg).mono ?_; clear hg; rintro e w' ⟨rfl, hg⟩) | (go_at_call 20; refine (fmix32_any _ (b32 _) _ _ hg).mono ?_; clear hg; rintro e w' ⟨rfl, hg⟩) | (go_at_call 25; refine (unfmix32_any _ (b32 _) _ _ hg).mono ?_; clear hg; rintro e w' ⟨rfl, hg⟩))
  go_ret
  exact ⟨rfl, hg⟩
set_option maxHeartbeats 1000000 in
theorem MixApart_walk (a0 : Int) (a1 : Int) (a2 : Int) (a3 : Int) (w0 : (Lit.int .u64 a0).wf = true) (w1 : (Lit.int .u64 a1).wf = true) (w2 : (Lit.int .u32 a2).wf = true) (w3 : (Lit.int .u32 a3).wf = true) (w : World) :
    Calls Try.prog 5 #[.int .u64 a0, .int .u64 a1, .int .u32 a2, .int .u32 a3] w fun e w' => e = .returned (.bool true) ∧ Below w.heap.size w w' := by
  obtain ⟨z, rfl⟩ := wf64 w0
  obtain ⟨y, rfl⟩ := wf64 w1
  obtain ⟨h, rfl⟩ := wf32 w2
  obtain ⟨g, rfl⟩ := wf32 w3
  have h1 : ((split z == split y) == (z == y)) = true := by rw [beq_iff_eq, Bool.eq_iff_iff, beq_iff_eq, beq_iff_eq]; exact split_inj
  have h2 : ((fmix z == fmix y) == (z == y)) = true := by rw [beq_iff_eq, Bool.eq_iff_iff, beq_iff_eq, beq_iff_eq]; exact fmix_inj
  have h3 : ((fmix32 h == fmix32 g) == (h == g)) = true := by rw [beq_iff_eq, Bool.eq_iff_iff, beq_iff_eq, beq_iff_eq]; exact fmix32_inj
  have hg := New.refl w
  go_enter Try.func5, Try.ntmps5
  go_wp2_with (first | (go_at_call 13; refine (awake07 _ _ hg).mono ?_; clear hg; rintro e w' ⟨rfl, hg⟩) | (go_at_call 14; refine (fold_any _ _ (b64 _) _).mono ?_; rintro e w' ⟨rfl, rfl⟩) | (go_at_call 22; refine (unfold_any _ _ (b64 _) _).mono ?_; rintro e w' ⟨rfl, rfl⟩) | (go_at_call 15; refine (fold_ref _ _ (b64 _) _).mono ?_; rintro e w' ⟨rfl, rfl⟩) | (go_at_call 17; refine (split_ref _ (b64 _) _).mono ?_; rintro e w' ⟨rfl, rfl⟩) | (go_at_call 19; refine (fmix64_ref _ (b64 _) _).mono ?_; rintro e w' ⟨rfl, rfl⟩) | (go_at_call 21; refine (fmix32_ref _ (b32 _) _).mono ?_; rintro e w' ⟨rfl, rfl⟩) | (go_at_call 16; refine (split_any _ (b64 _) _ _ hg).mono ?_; clear hg; rintro e w' ⟨rfl, hg⟩) | (go_at_call 18; refine (fmix64_any _ (b64 _) _ _ hg).mono ?_; clear hg; rintro e w' ⟨rfl, hg⟩) | (go_at_call 23; refine (unsplit_any _ (b64 _) _ _ hg).mono ?_; clear hg; rintro e w' ⟨rfl, hg⟩) | (go_at_call 24; refine (unfmix64_any _ (b64 _) _ _ hg).mono ?_; clear hg; rintro e w' ⟨rfl, hg⟩) | (go_at_call 20; refine (fmix32_any _ (b32 _) _ _ hg).mono ?_; clear hg; rintro e w' ⟨rfl, hg⟩) | (go_at_call 25; refine (unfmix32_any _ (b32 _) _ _ hg).mono ?_; clear hg; rintro e w' ⟨rfl, hg⟩))
  go_ret
  exact ⟨rfl, hg⟩
end Go.Proofs.Ytfeibahbmkhgoaa
