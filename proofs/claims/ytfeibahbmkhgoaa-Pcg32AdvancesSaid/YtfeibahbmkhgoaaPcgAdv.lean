/- For every state, every increment and every two numbers: advances of pcg32 add up; by 1 it is a step, by a small number so many: the walk of the statement Pcg32Advances. -/
import Derived.Test.YtfeibahbmkhgoaaPcgB
namespace Go.Proofs.Ytfeibahbmkhgoaa
open Go.RowKit Go.Bv
set_option linter.unusedVariables false
theorem adv13_sum (inc : BitVec 64) (n m : BitVec 64) (s : BitVec 64) : adv13 inc m.toNat (adv13 inc n.toNat s) = adv13 inc (n + m).toNat s := by
  rw [← adv13_add, BitVec.toNat_add]; exact (adv13_mod inc _ s).symm
set_option maxHeartbeats 400000 in
theorem Pcg32Advances_walk (a0 : Int) (a1 : Int) (a2 : Int) (a3 : Int) (w0 : (Lit.int .u64 a0).wf = true) (w1 : (Lit.int .u64 a1).wf = true) (w2 : (Lit.int .u64 a2).wf = true) (w3 : (Lit.int .u64 a3).wf = true) (w : World) :
    Calls Try.prog 10 #[.int .u64 a0, .int .u64 a1, .int .u64 a2, .int .u64 a3] w fun e w' => e = .returned (.bool true) ∧ Grown w w' := by
  obtain ⟨s, rfl⟩ := wf64 w0
  obtain ⟨inc, rfl⟩ := wf64 w1
  obtain ⟨n, rfl⟩ := wf64 w2
  obtain ⟨m, rfl⟩ := wf64 w3
  have h1 : (adv13 inc (N64 m) (adv13 inc (N64 n) s) == adv13 inc (N64 (n + m)) s) = true := by
    rw [beq_iff_eq]; exact adv13_sum inc n m s
  have h2 : adv13 inc 1 s = step13 s inc := rfl
  have H2 := Lib.hid h2
  clear h2
  by_cases h500 : (500 : Int) < W64 n
  · go_enter Try.func10, Try.ntmps10
    go_wp2_with (first | (go_at_call 36; refine (awake13 _).mono ?_; rintro e w' ⟨rfl, rfl⟩) | (go_at_call 44; refine (advance_any _ _ _ (b64 _) (by first | exact b64 _ | omega) _).mono ?_; rintro e w' ⟨rfl, rfl⟩) | (go_at_call 39; refine (step_ref _ _ (b64 _) (b64 _) _).mono ?_; rintro e w' ⟨rfl, rfl⟩))
    · exact absurd H2.out (of_bne (by assumption))
    · go_ret
      exact ⟨rfl, Grown.refl _⟩
    · exact absurd (of_eq h1) (by assumption)
  · have hw : wrap64 (W64 n) = W64 n := by have := b64 n; unfold wrap64; omega
    have hn : 0 ≤ W64 n ∧ W64 n ≤ 4096 := by have := b64 n; omega
    go_enter Try.func10, Try.ntmps10
    go_wp2_with (first | (go_at_call 36; refine (awake13 _).mono ?_; rintro e w' ⟨rfl, rfl⟩) | (go_at_call 44; refine (advance_any _ _ _ (b64 _) (by first | exact b64 _ | omega) _).mono ?_; rintro e w' ⟨rfl, rfl⟩) | (go_at_call 39; refine (step_ref _ _ (b64 _) (b64 _) _).mono ?_; rintro e w' ⟨rfl, rfl⟩) | (go_at_call 45; refine (steps_ref _ _ _ (b64 _) (b64 _) hn _).mono ?_; rintro e w' ⟨rfl, rfl⟩))
    · exact absurd H2.out (of_bne (by assumption))
    · go_ret
      exact ⟨rfl, Grown.refl _⟩
    · exact absurd (of_eq h1) (by assumption)
end Go.Proofs.Ytfeibahbmkhgoaa
