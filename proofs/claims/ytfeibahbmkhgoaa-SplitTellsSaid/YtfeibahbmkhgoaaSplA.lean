/- Contracts of package split and of the document's own answers beside it. -/
import Derived.Test.YtfeibahbmkhgoaaMixC
namespace Go.Proofs.Ytfeibahbmkhgoaa
open Go.RowKit Go.Bv
set_option linter.unusedVariables false
def Gm : BitVec 64 := 0x9e3779b97f4a7c15#64
theorem Gm_inv : Gm * oddInv Gm = 1#64 := oddInv_mul _ 0x4f1bbcdcbfa53e0a#64 (by decide)
set_option maxHeartbeats 400000 in
theorem next_any (s : Int) (W w : World) (hg : New W w) :
    Calls Try.prog 27 #[.int .u64 s] w fun e w' => e = .returned (.tuple #[.int .u64 (W64 (split (BitVec.ofInt 64 s + Gm))), .int .u64 (W64 (BitVec.ofInt 64 s + Gm))]) ∧ New W w' := by
  go_enter Try.func27, Try.ntmps27
  go_wp2_with (first | (go_at_call 16; refine (split_any _ (b64 _) _ _ hg).mono ?_; clear hg; rintro e w' ⟨rfl, hg⟩))
  go_ret2
  exact ⟨rfl, hg⟩
set_option maxHeartbeats 400000 in
theorem jump_any (s : Int) (n : Int) (w : World) :
    Calls Try.prog 33 #[.int .u64 s, .int .u64 n] w fun e w' => e = .returned (.int .u64 (W64 (BitVec.ofInt 64 s + BitVec.ofInt 64 n * Gm))) ∧ w' = w := by
  go_enter Try.func33, Try.ntmps33
  go_wp2
  go_ret
  exact ⟨ret64 rfl, rfl⟩
set_option maxHeartbeats 400000 in
theorem back_any (s : Int) (w : World) :
    Calls Try.prog 29 #[.int .u64 s] w fun e w' => e = .returned (.int .u64 (W64 (BitVec.ofInt 64 s - Gm))) ∧ w' = w := by
  go_enter Try.func29, Try.ntmps29
  go_wp2
  go_ret
  exact ⟨ret64 rfl, rfl⟩
set_option maxHeartbeats 400000 in
theorem steps_any8 (s : Int) (t : Int) (w : World) :
    Calls Try.prog 34 #[.int .u64 s, .int .u64 t] w fun e w' => e = .returned (.int .u64 (W64 ((BitVec.ofInt 64 t - BitVec.ofInt 64 s) * oddInv Gm))) ∧ w' = w := by
  go_enter Try.func34, Try.ntmps34
  go_wp2_with (first | (go_at_call 83; refine (odd_yes _ (by omega) (by decide) _).mono ?_; rintro e w' ⟨rfl, rfl⟩))
  go_ret
  exact ⟨ret64 rfl, rfl⟩
set_option maxHeartbeats 400000 in
theorem before_any (s : Int) (hs : 0 ≤ s ∧ s < 18446744073709551616) (W w : World) (hg : New W w) :
    Calls Try.prog 35 #[.int .u64 s] w fun e w' => e = .returned (.int .u64 (W64 (unsplit (BitVec.ofInt 64 s) - Gm))) ∧ New W w' := by
  obtain ⟨s, rfl⟩ := ex64 s hs
  rw [ofInt_W64]
  go_enter Try.func35, Try.ntmps35
  go_wp2_with (first | (go_at_call 23; refine (unsplit_any _ (b64 _) _ _ hg).mono ?_; clear hg; rintro e w' ⟨rfl, hg⟩) | (go_at_call 29; refine (back_any _ _).mono ?_; rintro e w' ⟨rfl, rfl⟩))
  go_ret
  exact ⟨ret64 rfl, hg⟩
set_option maxHeartbeats 400000 in
theorem out_ref (s : Int) (n : Int) (w : World) :
    Calls Try.prog 28 #[.int .u64 s, .int .u64 n] w fun e w' => e = .returned (.int .u64 (W64 (split (BitVec.ofInt 64 s + BitVec.ofInt 64 n * Gm)))) ∧ w' = w := by
  go_enter Try.func28, Try.ntmps28
  go_wp2_with (first | (go_at_call 17; refine (split_ref _ (b64 _) _).mono ?_; rintro e w' ⟨rfl, rfl⟩))
  go_ret
  exact ⟨ret64 rfl, rfl⟩
set_option maxHeartbeats 400000 in
theorem awake08 (W w : World) (hg : New W w) :
    Calls Try.prog 26 #[] w fun e w' => e = .returned (.bool true) ∧ New W w' := by
  have h1 : (split (0#64 + Gm) == 0xe220a8397b1dcdaf#64) = true := by decide +kernel
  have h2 : (0#64 + Gm == 0x9e3779b97f4a7c15#64) = true := by decide
  have h3 : (split Gm == 0xe220a8397b1dcdaf#64) = true := by decide +kernel
  have h4 : (Gm == 0x9e3779b97f4a7c15#64) = true := by decide
  go_enter Try.func26, Try.ntmps26
  go_wp2_with (go_at_call 27; refine (next_any _ _ _ hg).mono ?_; clear hg; rintro e w' ⟨rfl, hg⟩)
  go_ret
  exact ⟨rfl, hg⟩
end Go.Proofs.Ytfeibahbmkhgoaa
