/- Contracts of package mix and of modn.Odd, on: the steps, the mixers and their inverses. -/
import Derived.Test.YthcolfmjjfjmiaaDoorMixA
import Derived.Test.YthcolfmjjfjmiaaDoorMixM
namespace Go.Proofs.YthcolfmjjfjmiaaDoor
open Go.RowKit Go.Bv
set_option linter.unusedVariables false
theorem sh_eq (n : Int) (h : 1 ≤ n ∧ n ≤ 63) : sh n = n.toNat := by unfold sh; congr 1; omega
theorem unf_fuel {k : Nat} (hk : 1 ≤ k) (x : BitVec 64) (h : k < 64) : unf 6 k x = unf 6 (k * 2) (F k x) := by
  rw [show (6 : Nat) = 5 + 1 from rfl, unf_step 5 k x (by omega), Nat.mul_comm k 2]
  refine F_inj (k := 2 * k) (by omega) ?_
  rw [F_unf 5 _ _ (by omega), F_unf (5 + 1) _ _ (by omega)]
set_option maxHeartbeats 400000 in
theorem short_any (a : Int) (w : World) :
    Calls Tryd.prog 35 #[.int .u64 a] w fun e w' => e = .returned (.int .u64 (W64 (low (BitVec.ofInt 64 a)))) ∧ w' = w := by
  go_enter Tryd.func35, Tryd.ntmps35
  go_wp2
  go_ret
  exact ⟨ret64 rfl, rfl⟩
set_option maxHeartbeats 400000 in
theorem fmix321 : Step64 32 (fun x => F 16 (BitVec.ofInt 64 x)) := by
  intro x w hx
  obtain ⟨x, rfl⟩ := ex64 x hx
  simp only [ofInt_W64]
  go_enter Tryd.func32, Tryd.ntmps32
  go_wp2_with (first | (go_at_call 33; refine (fold_any _ _ (b64 _) _).mono ?_; rintro e w' ⟨rfl, rfl⟩))
  go_ret
  exact ⟨ret64 rfl, rfl⟩
set_option maxHeartbeats 400000 in
theorem fmix322 : Step64 34 (fun x => low (BitVec.ofInt 64 x * S1)) := by
  intro x w hx
  obtain ⟨x, rfl⟩ := ex64 x hx
  simp only [ofInt_W64]
  go_enter Tryd.func34, Tryd.ntmps34
  go_wp2_with (first | (go_at_call 35; refine (short_any _ _).mono ?_; rintro e w' ⟨rfl, rfl⟩))
  go_ret
  exact ⟨ret64 rfl, rfl⟩
set_option maxHeartbeats 400000 in
theorem fmix323 : Step64 36 (fun x => F 13 (BitVec.ofInt 64 x)) := by
  intro x w hx
  obtain ⟨x, rfl⟩ := ex64 x hx
  simp only [ofInt_W64]
  go_enter Tryd.func36, Tryd.ntmps36
  go_wp2_with (first | (go_at_call 33; refine (fold_any _ _ (b64 _) _).mono ?_; rintro e w' ⟨rfl, rfl⟩))
  go_ret
  exact ⟨ret64 rfl, rfl⟩
set_option maxHeartbeats 400000 in
theorem fmix324 : Step64 37 (fun x => low (BitVec.ofInt 64 x * S2)) := by
  intro x w hx
  obtain ⟨x, rfl⟩ := ex64 x hx
  simp only [ofInt_W64]
  go_enter Tryd.func37, Tryd.ntmps37
  go_wp2_with (first | (go_at_call 35; refine (short_any _ _).mono ?_; rintro e w' ⟨rfl, rfl⟩))
  go_ret
  exact ⟨ret64 rfl, rfl⟩
set_option maxHeartbeats 400000 in
theorem fmix325 : Step64 38 (fun x => F 16 (BitVec.ofInt 64 x)) := by
  intro x w hx
  obtain ⟨x, rfl⟩ := ex64 x hx
  simp only [ofInt_W64]
  go_enter Tryd.func38, Tryd.ntmps38
  go_wp2_with (first | (go_at_call 33; refine (fold_any _ _ (b64 _) _).mono ?_; rintro e w' ⟨rfl, rfl⟩))
  go_ret
  exact ⟨ret64 rfl, rfl⟩
end Go.Proofs.YthcolfmjjfjmiaaDoor
