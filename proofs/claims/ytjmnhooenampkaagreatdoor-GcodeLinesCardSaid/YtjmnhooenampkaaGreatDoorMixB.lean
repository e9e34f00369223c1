/- Contracts of package mix and of modn.Odd, on: the steps, the mixers and their inverses. -/
import Derived.Test.YtjmnhooenampkaaGreatDoorMixA
import Derived.Test.YtjmnhooenampkaaGreatDoorMixM
namespace Go.Proofs.YtjmnhooenampkaaGreatDoor
open Go.RowKit Go.Bv
set_option linter.unusedVariables false
theorem sh_eq (n : Int) (h : 1 ≤ n ∧ n ≤ 63) : sh n = n.toNat := by unfold sh; congr 1; omega
theorem unf_fuel {k : Nat} (hk : 1 ≤ k) (x : BitVec 64) (h : k < 64) : unf 6 k x = unf 6 (k * 2) (F k x) := by
  rw [show (6 : Nat) = 5 + 1 from rfl, unf_step 5 k x (by omega), Nat.mul_comm k 2]
  refine F_inj (k := 2 * k) (by omega) ?_
  rw [F_unf 5 _ _ (by omega), F_unf (5 + 1) _ _ (by omega)]
set_option maxHeartbeats 400000 in
theorem short_any (a : Int) (w : World) :
    Calls Tryz.prog 114 #[.int .u64 a] w fun e w' => e = .returned (.int .u64 (W64 (low (BitVec.ofInt 64 a)))) ∧ w' = w := by
  go_enter Tryz.func114, Tryz.ntmps114
  go_wp2
  go_ret
  exact ⟨ret64 rfl, rfl⟩
set_option maxHeartbeats 400000 in
theorem split1 : Step64 151 (fun x => F 30 (BitVec.ofInt 64 x)) := by
  intro x w hx
  obtain ⟨x, rfl⟩ := ex64 x hx
  simp only [ofInt_W64]
  go_enter Tryz.func151, Tryz.ntmps151
  go_wp2_with (first | (go_at_call 112; refine (fold_any _ _ (b64 _) _).mono ?_; rintro e w' ⟨rfl, rfl⟩))
  go_ret
  exact ⟨ret64 rfl, rfl⟩
set_option maxHeartbeats 400000 in
theorem split2 : Step64 152 (fun x => BitVec.ofInt 64 x * C1) := by
  intro x w hx
  obtain ⟨x, rfl⟩ := ex64 x hx
  simp only [ofInt_W64]
  go_enter Tryz.func152, Tryz.ntmps152
  go_wp2_with (first | fail)
  go_ret
  exact ⟨ret64 rfl, rfl⟩
set_option maxHeartbeats 400000 in
theorem split3 : Step64 153 (fun x => F 27 (BitVec.ofInt 64 x)) := by
  intro x w hx
  obtain ⟨x, rfl⟩ := ex64 x hx
  simp only [ofInt_W64]
  go_enter Tryz.func153, Tryz.ntmps153
  go_wp2_with (first | (go_at_call 112; refine (fold_any _ _ (b64 _) _).mono ?_; rintro e w' ⟨rfl, rfl⟩))
  go_ret
  exact ⟨ret64 rfl, rfl⟩
set_option maxHeartbeats 400000 in
theorem split4 : Step64 154 (fun x => BitVec.ofInt 64 x * C2) := by
  intro x w hx
  obtain ⟨x, rfl⟩ := ex64 x hx
  simp only [ofInt_W64]
  go_enter Tryz.func154, Tryz.ntmps154
  go_wp2_with (first | fail)
  go_ret
  exact ⟨ret64 rfl, rfl⟩
set_option maxHeartbeats 400000 in
theorem split5 : Step64 155 (fun x => F 31 (BitVec.ofInt 64 x)) := by
  intro x w hx
  obtain ⟨x, rfl⟩ := ex64 x hx
  simp only [ofInt_W64]
  go_enter Tryz.func155, Tryz.ntmps155
  go_wp2_with (first | (go_at_call 112; refine (fold_any _ _ (b64 _) _).mono ?_; rintro e w' ⟨rfl, rfl⟩))
  go_ret
  exact ⟨ret64 rfl, rfl⟩
set_option maxHeartbeats 400000 in
theorem fmix321 : Step64 111 (fun x => F 16 (BitVec.ofInt 64 x)) := by
  intro x w hx
  obtain ⟨x, rfl⟩ := ex64 x hx
  simp only [ofInt_W64]
  go_enter Tryz.func111, Tryz.ntmps111
  go_wp2_with (first | (go_at_call 112; refine (fold_any _ _ (b64 _) _).mono ?_; rintro e w' ⟨rfl, rfl⟩))
  go_ret
  exact ⟨ret64 rfl, rfl⟩
set_option maxHeartbeats 400000 in
theorem fmix322 : Step64 113 (fun x => low (BitVec.ofInt 64 x * S1)) := by
  intro x w hx
  obtain ⟨x, rfl⟩ := ex64 x hx
  simp only [ofInt_W64]
  go_enter Tryz.func113, Tryz.ntmps113
  go_wp2_with (first | (go_at_call 114; refine (short_any _ _).mono ?_; rintro e w' ⟨rfl, rfl⟩))
  go_ret
  exact ⟨ret64 rfl, rfl⟩
set_option maxHeartbeats 400000 in
theorem fmix323 : Step64 115 (fun x => F 13 (BitVec.ofInt 64 x)) := by
  intro x w hx
  obtain ⟨x, rfl⟩ := ex64 x hx
  simp only [ofInt_W64]
  go_enter Tryz.func115, Tryz.ntmps115
  go_wp2_with (first | (go_at_call 112; refine (fold_any _ _ (b64 _) _).mono ?_; rintro e w' ⟨rfl, rfl⟩))
  go_ret
  exact ⟨ret64 rfl, rfl⟩
set_option maxHeartbeats 400000 in
theorem fmix324 : Step64 116 (fun x => low (BitVec.ofInt 64 x * S2)) := by
  intro x w hx
  obtain ⟨x, rfl⟩ := ex64 x hx
  simp only [ofInt_W64]
  go_enter Tryz.func116, Tryz.ntmps116
  go_wp2_with (first | (go_at_call 114; refine (short_any _ _).mono ?_; rintro e w' ⟨rfl, rfl⟩))
  go_ret
  exact ⟨ret64 rfl, rfl⟩
set_option maxHeartbeats 400000 in
theorem fmix325 : Step64 117 (fun x => F 16 (BitVec.ofInt 64 x)) := by
  intro x w hx
  obtain ⟨x, rfl⟩ := ex64 x hx
  simp only [ofInt_W64]
  go_enter Tryz.func117, Tryz.ntmps117
  go_wp2_with (first | (go_at_call 112; refine (fold_any _ _ (b64 _) _).mono ?_; rintro e w' ⟨rfl, rfl⟩))
  go_ret
  exact ⟨ret64 rfl, rfl⟩
set_option maxHeartbeats 400000 in
theorem split_any (z : Int) (hz : 0 ≤ z ∧ z < 18446744073709551616) (W w : World) (hg : New W w) :
    Calls Tryz.prog 124 #[.int .u64 z] w fun e w' => e = .returned (.int .u64 (W64 (split (BitVec.ofInt 64 z)))) ∧ New W w' := by
  obtain ⟨z, rfl⟩ := ex64 z hz
  simp only [ofInt_W64]
  go_enter Tryz.func124, Tryz.ntmps124
  go_wp2_with fail
  refine (run_any _ _ _ _ _ _ _ _ _ _ split1 split2 split3 split4 split5 (fun _ _ => by go_simp) (fun _ _ => by go_simp) (fun _ _ => by go_simp) (fun _ _ => by go_simp) (fun _ _ => by go_simp) _ (b64 _) W _ hg).mono ?_
  rintro e w' ⟨rfl, hg⟩
  go_wp2
  go_ret
  exact ⟨ret64 (by simp only [chain, ofInt_W64]; rfl), hg⟩
end Go.Proofs.YtjmnhooenampkaaGreatDoor
