/- Contracts of package mix and of modn.Odd, on: the steps, the mixers and their inverses. -/
import Derived.Test.YtnapogamcohfaaaMixA
import Derived.Test.YtnapogamcohfaaaMixM
namespace Go.Proofs.Ytnapogamcohfaaa
open Go.RowKit Go.Bv
set_option linter.unusedVariables false
theorem sh_eq (n : Int) (h : 1 ≤ n ∧ n ≤ 63) : sh n = n.toNat := by unfold sh; congr 1; omega
theorem unf_fuel {k : Nat} (hk : 1 ≤ k) (x : BitVec 64) (h : k < 64) : unf 6 k x = unf 6 (k * 2) (F k x) := by
  rw [show (6 : Nat) = 5 + 1 from rfl, unf_step 5 k x (by omega), Nat.mul_comm k 2]
  refine F_inj (k := 2 * k) (by omega) ?_
  rw [F_unf 5 _ _ (by omega), F_unf (5 + 1) _ _ (by omega)]
set_option maxHeartbeats 400000 in
theorem short_any (a : Int) (w : World) :
    Calls Try.prog 63 #[.int .u64 a] w fun e w' => e = .returned (.int .u64 (W64 (low (BitVec.ofInt 64 a)))) ∧ w' = w := by
  go_enter Try.func63, Try.ntmps63
  go_wp2
  go_ret
  exact ⟨ret64 rfl, rfl⟩
set_option maxHeartbeats 400000 in
theorem fmix321 : Step64 60 (fun x => F 16 (BitVec.ofInt 64 x)) := by
  intro x w hx
  obtain ⟨x, rfl⟩ := ex64 x hx
  simp only [ofInt_W64]
  go_enter Try.func60, Try.ntmps60
  go_wp2_with (first | (go_at_call 61; refine (fold_any _ _ (b64 _) _).mono ?_; rintro e w' ⟨rfl, rfl⟩))
  go_ret
  exact ⟨ret64 rfl, rfl⟩
set_option maxHeartbeats 400000 in
theorem fmix322 : Step64 62 (fun x => low (BitVec.ofInt 64 x * S1)) := by
  intro x w hx
  obtain ⟨x, rfl⟩ := ex64 x hx
  simp only [ofInt_W64]
  go_enter Try.func62, Try.ntmps62
  go_wp2_with (first | (go_at_call 63; refine (short_any _ _).mono ?_; rintro e w' ⟨rfl, rfl⟩))
  go_ret
  exact ⟨ret64 rfl, rfl⟩
set_option maxHeartbeats 400000 in
theorem fmix323 : Step64 64 (fun x => F 13 (BitVec.ofInt 64 x)) := by
  intro x w hx
  obtain ⟨x, rfl⟩ := ex64 x hx
  simp only [ofInt_W64]
  go_enter Try.func64, Try.ntmps64
  go_wp2_with (first | (go_at_call 61; refine (fold_any _ _ (b64 _) _).mono ?_; rintro e w' ⟨rfl, rfl⟩))
  go_ret
  exact ⟨ret64 rfl, rfl⟩
set_option maxHeartbeats 400000 in
theorem fmix324 : Step64 65 (fun x => low (BitVec.ofInt 64 x * S2)) := by
  intro x w hx
  obtain ⟨x, rfl⟩ := ex64 x hx
  simp only [ofInt_W64]
  go_enter Try.func65, Try.ntmps65
  go_wp2_with (first | (go_at_call 63; refine (short_any _ _).mono ?_; rintro e w' ⟨rfl, rfl⟩))
  go_ret
  exact ⟨ret64 rfl, rfl⟩
set_option maxHeartbeats 400000 in
theorem fmix325 : Step64 66 (fun x => F 16 (BitVec.ofInt 64 x)) := by
  intro x w hx
  obtain ⟨x, rfl⟩ := ex64 x hx
  simp only [ofInt_W64]
  go_enter Try.func66, Try.ntmps66
  go_wp2_with (first | (go_at_call 61; refine (fold_any _ _ (b64 _) _).mono ?_; rintro e w' ⟨rfl, rfl⟩))
  go_ret
  exact ⟨ret64 rfl, rfl⟩
end Go.Proofs.Ytnapogamcohfaaa
