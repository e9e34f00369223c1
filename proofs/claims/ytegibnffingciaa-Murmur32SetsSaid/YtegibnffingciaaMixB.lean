/- Contracts of package mix and of modn.Odd, on: the steps, the mixers and their inverses. -/
import Derived.Test.YtegibnffingciaaMixA
import Derived.Test.YtegibnffingciaaMixM
namespace Go.Proofs.Ytegibnffingciaa
open Go.RowKit Go.Bv
set_option linter.unusedVariables false
theorem sh_eq (n : Int) (h : 1 ≤ n ∧ n ≤ 63) : sh n = n.toNat := by unfold sh; congr 1; omega
theorem unf_fuel {k : Nat} (hk : 1 ≤ k) (x : BitVec 64) (h : k < 64) : unf 6 k x = unf 6 (k * 2) (F k x) := by
  rw [show (6 : Nat) = 5 + 1 from rfl, unf_step 5 k x (by omega), Nat.mul_comm k 2]
  refine F_inj (k := 2 * k) (by omega) ?_
  rw [F_unf 5 _ _ (by omega), F_unf (5 + 1) _ _ (by omega)]
set_option maxHeartbeats 400000 in
theorem short_any (a : Int) (w : World) :
    Calls Try.prog 174 #[.int .u64 a] w fun e w' => e = .returned (.int .u64 (W64 (low (BitVec.ofInt 64 a)))) ∧ w' = w := by
  go_enter Try.func174, Try.ntmps174
  go_wp2
  go_ret
  exact ⟨ret64 rfl, rfl⟩
set_option maxHeartbeats 400000 in
theorem fmix641 : Step64 183 (fun x => F 33 (BitVec.ofInt 64 x)) := by
  intro x w hx
  obtain ⟨x, rfl⟩ := ex64 x hx
  simp only [ofInt_W64]
  go_enter Try.func183, Try.ntmps183
  go_wp2_with (first | (go_at_call 172; refine (fold_any _ _ (b64 _) _).mono ?_; rintro e w' ⟨rfl, rfl⟩))
  go_ret
  exact ⟨ret64 rfl, rfl⟩
set_option maxHeartbeats 400000 in
theorem fmix642 : Step64 184 (fun x => BitVec.ofInt 64 x * L1) := by
  intro x w hx
  obtain ⟨x, rfl⟩ := ex64 x hx
  simp only [ofInt_W64]
  go_enter Try.func184, Try.ntmps184
  go_wp2_with (first | fail)
  go_ret
  exact ⟨ret64 rfl, rfl⟩
set_option maxHeartbeats 400000 in
theorem fmix643 : Step64 185 (fun x => F 33 (BitVec.ofInt 64 x)) := by
  intro x w hx
  obtain ⟨x, rfl⟩ := ex64 x hx
  simp only [ofInt_W64]
  go_enter Try.func185, Try.ntmps185
  go_wp2_with (first | (go_at_call 172; refine (fold_any _ _ (b64 _) _).mono ?_; rintro e w' ⟨rfl, rfl⟩))
  go_ret
  exact ⟨ret64 rfl, rfl⟩
set_option maxHeartbeats 400000 in
theorem fmix644 : Step64 186 (fun x => BitVec.ofInt 64 x * L2) := by
  intro x w hx
  obtain ⟨x, rfl⟩ := ex64 x hx
  simp only [ofInt_W64]
  go_enter Try.func186, Try.ntmps186
  go_wp2_with (first | fail)
  go_ret
  exact ⟨ret64 rfl, rfl⟩
set_option maxHeartbeats 400000 in
theorem fmix645 : Step64 187 (fun x => F 33 (BitVec.ofInt 64 x)) := by
  intro x w hx
  obtain ⟨x, rfl⟩ := ex64 x hx
  simp only [ofInt_W64]
  go_enter Try.func187, Try.ntmps187
  go_wp2_with (first | (go_at_call 172; refine (fold_any _ _ (b64 _) _).mono ?_; rintro e w' ⟨rfl, rfl⟩))
  go_ret
  exact ⟨ret64 rfl, rfl⟩
set_option maxHeartbeats 400000 in
theorem fmix321 : Step64 171 (fun x => F 16 (BitVec.ofInt 64 x)) := by
  intro x w hx
  obtain ⟨x, rfl⟩ := ex64 x hx
  simp only [ofInt_W64]
  go_enter Try.func171, Try.ntmps171
  go_wp2_with (first | (go_at_call 172; refine (fold_any _ _ (b64 _) _).mono ?_; rintro e w' ⟨rfl, rfl⟩))
  go_ret
  exact ⟨ret64 rfl, rfl⟩
set_option maxHeartbeats 400000 in
theorem fmix322 : Step64 173 (fun x => low (BitVec.ofInt 64 x * S1)) := by
  intro x w hx
  obtain ⟨x, rfl⟩ := ex64 x hx
  simp only [ofInt_W64]
  go_enter Try.func173, Try.ntmps173
  go_wp2_with (first | (go_at_call 174; refine (short_any _ _).mono ?_; rintro e w' ⟨rfl, rfl⟩))
  go_ret
  exact ⟨ret64 rfl, rfl⟩
set_option maxHeartbeats 400000 in
theorem fmix323 : Step64 175 (fun x => F 13 (BitVec.ofInt 64 x)) := by
  intro x w hx
  obtain ⟨x, rfl⟩ := ex64 x hx
  simp only [ofInt_W64]
  go_enter Try.func175, Try.ntmps175
  go_wp2_with (first | (go_at_call 172; refine (fold_any _ _ (b64 _) _).mono ?_; rintro e w' ⟨rfl, rfl⟩))
  go_ret
  exact ⟨ret64 rfl, rfl⟩
set_option maxHeartbeats 400000 in
theorem fmix324 : Step64 176 (fun x => low (BitVec.ofInt 64 x * S2)) := by
  intro x w hx
  obtain ⟨x, rfl⟩ := ex64 x hx
  simp only [ofInt_W64]
  go_enter Try.func176, Try.ntmps176
  go_wp2_with (first | (go_at_call 174; refine (short_any _ _).mono ?_; rintro e w' ⟨rfl, rfl⟩))
  go_ret
  exact ⟨ret64 rfl, rfl⟩
set_option maxHeartbeats 400000 in
theorem fmix325 : Step64 177 (fun x => F 16 (BitVec.ofInt 64 x)) := by
  intro x w hx
  obtain ⟨x, rfl⟩ := ex64 x hx
  simp only [ofInt_W64]
  go_enter Try.func177, Try.ntmps177
  go_wp2_with (first | (go_at_call 172; refine (fold_any _ _ (b64 _) _).mono ?_; rintro e w' ⟨rfl, rfl⟩))
  go_ret
  exact ⟨ret64 rfl, rfl⟩
set_option maxHeartbeats 400000 in
theorem fmix64_any (z : Int) (hz : 0 ≤ z ∧ z < 18446744073709551616) (W w : World) (hg : New W w) :
    Calls Try.prog 162 #[.int .u64 z] w fun e w' => e = .returned (.int .u64 (W64 (fmix (BitVec.ofInt 64 z)))) ∧ New W w' := by
  obtain ⟨z, rfl⟩ := ex64 z hz
  simp only [ofInt_W64]
  go_enter Try.func162, Try.ntmps162
  go_wp2_with fail
  refine (run_any _ _ _ _ _ _ _ _ _ _ fmix641 fmix642 fmix643 fmix644 fmix645 (fun _ _ => by go_simp) (fun _ _ => by go_simp) (fun _ _ => by go_simp) (fun _ _ => by go_simp) (fun _ _ => by go_simp) _ (b64 _) W _ hg).mono ?_
  rintro e w' ⟨rfl, hg⟩
  go_wp2
  go_ret
  exact ⟨ret64 (by simp only [chain, ofInt_W64]; rfl), hg⟩
end Go.Proofs.Ytegibnffingciaa
