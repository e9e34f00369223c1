/- Contracts of package mix and of modn.Odd, on: the steps, the mixers and their inverses. -/
import Derived.Test.YtfeibahbmkhgoaaMixA
import Derived.Test.YtfeibahbmkhgoaaMixM
namespace Go.Proofs.Ytfeibahbmkhgoaa
open Go.RowKit Go.Bv
set_option linter.unusedVariables false
theorem sh_eq (n : Int) (h : 1 ≤ n ∧ n ≤ 63) : sh n = n.toNat := by unfold sh; congr 1; omega
theorem unf_fuel {k : Nat} (hk : 1 ≤ k) (x : BitVec 64) (h : k < 64) : unf 6 k x = unf 6 (k * 2) (F k x) := by
  rw [show (6 : Nat) = 5 + 1 from rfl, unf_step 5 k x (by omega), Nat.mul_comm k 2]
  refine F_inj (k := 2 * k) (by omega) ?_
  rw [F_unf 5 _ _ (by omega), F_unf (5 + 1) _ _ (by omega)]
set_option maxHeartbeats 400000 in
theorem unfold_any (z n : Int) (hz : 0 ≤ z ∧ z < 18446744073709551616) (w : World) :
    Calls Try.prog 22 #[.int .u64 z, .int .i64 n] w fun e w' => e = .returned (.int .u64 (W64 (unf 6 (sh n) (BitVec.ofInt 64 z)))) ∧ w' = w := by
  obtain ⟨z, rfl⟩ := ex64 z hz
  rw [ofInt_W64]
  have hs : 1 ≤ sh n ∧ sh n ≤ 63 := by unfold sh; omega
  go_enter Try.func22, Try.ntmps22
  go_wp2_with (go_at_call 48; refine (shift_any _ _).mono ?_; rintro e w' ⟨rfl, rfl⟩)
  go_loop [0, 5] (fun t i => ∃ (k : Nat) (x : BitVec 64), 1 ≤ k ∧ k ≤ 126 ∧ i = .int .i64 k ∧ t = .int .u64 (W64 x) ∧ Hid (unf 6 k x = unf 6 (sh n) z)) (fun _ i => 126 - (intOf i).toNat)
  case atStart => exact ⟨sh n, z, hs.1, by omega, rfl, rfl, Lib.hid rfl⟩
  case round =>
    obtain ⟨k, x, hk1, hk2, rfl, rfl, H⟩ := hrel
    go_wp2
    · have hlt : (k : Int) < 64 := by assumption
      exact ⟨⟨k * 2, F k x, by omega, by omega, by go_num, rfl, Lib.hid (by rw [← H.out]; exact (unf_fuel hk1 x (by omega)).symm)⟩, by simp [intOf]; omega⟩
    · have hge : 64 ≤ (k : Int) := by assumption
      go_ret
      exact ⟨ret64 (by rw [← H.out, unf_far _ _ _ (by omega)]), rfl⟩
set_option maxHeartbeats 400000 in
theorem odd_yes (a : Int) (ha : 0 ≤ a ∧ a < 18446744073709551616) (ho : BitVec.ofInt 64 a &&& 1#64 ≠ 0#64) (w : World) :
    Calls Try.prog 83 #[.int .u64 a] w fun e w' => e = .returned (.tuple #[.int .u64 (W64 (oddInv (BitVec.ofInt 64 a))), .bool true]) ∧ w' = w := by
  obtain ⟨a, rfl⟩ := ex64 a ha
  rw [ofInt_W64] at ho ⊢
  have ho2 : (a &&& 1#64 == 0#64) = false := beq_eq_false_iff_ne.2 ho
  go_enter Try.func83, Try.ntmps83
  go_wp2
  go_loop [4, 9] (fun t i => ∃ k : Nat, k ≤ 5 ∧ i = .int .i64 k ∧ t = .int .u64 (W64 (newton a k))) (fun _ i => 5 - (intOf i).toNat)
  case atStart => exact ⟨0, by omega, rfl, rfl⟩
  case round =>
    obtain ⟨k, hk, rfl, rfl⟩ := hrel
    go_wp2
    · have hlt : (k : Int) < 5 := by assumption
      exact ⟨⟨k + 1, by omega, by go_num, rfl⟩, by simp [intOf]; omega⟩
    · have hge : 5 ≤ (k : Int) := by assumption
      obtain rfl : k = 5 := by omega
      go_ret2
      exact ⟨rfl, rfl⟩
set_option maxHeartbeats 400000 in
theorem inverse_any (a : Int) (ha : 0 ≤ a ∧ a < 18446744073709551616) (ho : BitVec.ofInt 64 a &&& 1#64 ≠ 0#64) (w : World) :
    Calls Try.prog 68 #[.int .u64 a] w fun e w' => e = .returned (.int .u64 (W64 (oddInv (BitVec.ofInt 64 a)))) ∧ w' = w := by
  go_enter Try.func68, Try.ntmps68
  go_wp2_with (go_at_call 83; refine (odd_yes _ ha ho _).mono ?_; rintro e w' ⟨rfl, rfl⟩)
  go_ret
  exact ⟨ret64 rfl, rfl⟩
set_option maxHeartbeats 400000 in
theorem short_any (a : Int) (w : World) :
    Calls Try.prog 62 #[.int .u64 a] w fun e w' => e = .returned (.int .u64 (W64 (low (BitVec.ofInt 64 a)))) ∧ w' = w := by
  go_enter Try.func62, Try.ntmps62
  go_wp2
  go_ret
  exact ⟨ret64 rfl, rfl⟩
set_option maxHeartbeats 400000 in
theorem split1 : Step64 50 (fun x => F 30 (BitVec.ofInt 64 x)) := by
  intro x w hx
  obtain ⟨x, rfl⟩ := ex64 x hx
  simp only [ofInt_W64]
  go_enter Try.func50, Try.ntmps50
  go_wp2_with (first | (go_at_call 14; refine (fold_any _ _ (b64 _) _).mono ?_; rintro e w' ⟨rfl, rfl⟩))
  go_ret
  exact ⟨ret64 rfl, rfl⟩
set_option maxHeartbeats 400000 in
theorem split2 : Step64 51 (fun x => BitVec.ofInt 64 x * C1) := by
  intro x w hx
  obtain ⟨x, rfl⟩ := ex64 x hx
  simp only [ofInt_W64]
  go_enter Try.func51, Try.ntmps51
  go_wp2_with (first | fail)
  go_ret
  exact ⟨ret64 rfl, rfl⟩
set_option maxHeartbeats 400000 in
theorem split3 : Step64 52 (fun x => F 27 (BitVec.ofInt 64 x)) := by
  intro x w hx
  obtain ⟨x, rfl⟩ := ex64 x hx
  simp only [ofInt_W64]
  go_enter Try.func52, Try.ntmps52
  go_wp2_with (first | (go_at_call 14; refine (fold_any _ _ (b64 _) _).mono ?_; rintro e w' ⟨rfl, rfl⟩))
  go_ret
  exact ⟨ret64 rfl, rfl⟩
set_option maxHeartbeats 400000 in
theorem split4 : Step64 53 (fun x => BitVec.ofInt 64 x * C2) := by
  intro x w hx
  obtain ⟨x, rfl⟩ := ex64 x hx
  simp only [ofInt_W64]
  go_enter Try.func53, Try.ntmps53
  go_wp2_with (first | fail)
  go_ret
  exact ⟨ret64 rfl, rfl⟩
set_option maxHeartbeats 400000 in
theorem split5 : Step64 54 (fun x => F 31 (BitVec.ofInt 64 x)) := by
  intro x w hx
  obtain ⟨x, rfl⟩ := ex64 x hx
  simp only [ofInt_W64]
  go_enter Try.func54, Try.ntmps54
  go_wp2_with (first | (go_at_call 14; refine (fold_any _ _ (b64 _) _).mono ?_; rintro e w' ⟨rfl, rfl⟩))
  go_ret
  exact ⟨ret64 rfl, rfl⟩
set_option maxHeartbeats 400000 in
theorem fmix641 : Step64 55 (fun x => F 33 (BitVec.ofInt 64 x)) := by
  intro x w hx
  obtain ⟨x, rfl⟩ := ex64 x hx
  simp only [ofInt_W64]
  go_enter Try.func55, Try.ntmps55
  go_wp2_with (first | (go_at_call 14; refine (fold_any _ _ (b64 _) _).mono ?_; rintro e w' ⟨rfl, rfl⟩))
  go_ret
  exact ⟨ret64 rfl, rfl⟩
set_option maxHeartbeats 400000 in
theorem fmix642 : Step64 56 (fun x => BitVec.ofInt 64 x * L1) := by
  intro x w hx
  obtain ⟨x, rfl⟩ := ex64 x hx
  simp only [ofInt_W64]
  go_enter Try.func56, Try.ntmps56
  go_wp2_with (first | fail)
  go_ret
  exact ⟨ret64 rfl, rfl⟩
set_option maxHeartbeats 400000 in
theorem fmix643 : Step64 57 (fun x => F 33 (BitVec.ofInt 64 x)) := by
  intro x w hx
  obtain ⟨x, rfl⟩ := ex64 x hx
  simp only [ofInt_W64]
  go_enter Try.func57, Try.ntmps57
  go_wp2_with (first | (go_at_call 14; refine (fold_any _ _ (b64 _) _).mono ?_; rintro e w' ⟨rfl, rfl⟩))
  go_ret
  exact ⟨ret64 rfl, rfl⟩
set_option maxHeartbeats 400000 in
theorem fmix644 : Step64 58 (fun x => BitVec.ofInt 64 x * L2) := by
  intro x w hx
  obtain ⟨x, rfl⟩ := ex64 x hx
  simp only [ofInt_W64]
  go_enter Try.func58, Try.ntmps58
  go_wp2_with (first | fail)
  go_ret
  exact ⟨ret64 rfl, rfl⟩
set_option maxHeartbeats 400000 in
theorem fmix645 : Step64 59 (fun x => F 33 (BitVec.ofInt 64 x)) := by
  intro x w hx
  obtain ⟨x, rfl⟩ := ex64 x hx
  simp only [ofInt_W64]
  go_enter Try.func59, Try.ntmps59
  go_wp2_with (first | (go_at_call 14; refine (fold_any _ _ (b64 _) _).mono ?_; rintro e w' ⟨rfl, rfl⟩))
  go_ret
  exact ⟨ret64 rfl, rfl⟩
set_option maxHeartbeats 400000 in
theorem fmix321 : Step64 60 (fun x => F 16 (BitVec.ofInt 64 x)) := by
  intro x w hx
  obtain ⟨x, rfl⟩ := ex64 x hx
  simp only [ofInt_W64]
  go_enter Try.func60, Try.ntmps60
  go_wp2_with (first | (go_at_call 14; refine (fold_any _ _ (b64 _) _).mono ?_; rintro e w' ⟨rfl, rfl⟩))
  go_ret
  exact ⟨ret64 rfl, rfl⟩
set_option maxHeartbeats 400000 in
theorem fmix322 : Step64 61 (fun x => low (BitVec.ofInt 64 x * S1)) := by
  intro x w hx
  obtain ⟨x, rfl⟩ := ex64 x hx
  simp only [ofInt_W64]
  go_enter Try.func61, Try.ntmps61
  go_wp2_with (first | (go_at_call 62; refine (short_any _ _).mono ?_; rintro e w' ⟨rfl, rfl⟩))
  go_ret
  exact ⟨ret64 rfl, rfl⟩
set_option maxHeartbeats 400000 in
theorem fmix323 : Step64 63 (fun x => F 13 (BitVec.ofInt 64 x)) := by
  intro x w hx
  obtain ⟨x, rfl⟩ := ex64 x hx
  simp only [ofInt_W64]
  go_enter Try.func63, Try.ntmps63
  go_wp2_with (first | (go_at_call 14; refine (fold_any _ _ (b64 _) _).mono ?_; rintro e w' ⟨rfl, rfl⟩))
  go_ret
  exact ⟨ret64 rfl, rfl⟩
set_option maxHeartbeats 400000 in
theorem fmix324 : Step64 64 (fun x => low (BitVec.ofInt 64 x * S2)) := by
  intro x w hx
  obtain ⟨x, rfl⟩ := ex64 x hx
  simp only [ofInt_W64]
  go_enter Try.func64, Try.ntmps64
  go_wp2_with (first | (go_at_call 62; refine (short_any _ _).mono ?_; rintro e w' ⟨rfl, rfl⟩))
  go_ret
  exact ⟨ret64 rfl, rfl⟩
set_option maxHeartbeats 400000 in
theorem fmix325 : Step64 65 (fun x => F 16 (BitVec.ofInt 64 x)) := by
  intro x w hx
  obtain ⟨x, rfl⟩ := ex64 x hx
  simp only [ofInt_W64]
  go_enter Try.func65, Try.ntmps65
  go_wp2_with (first | (go_at_call 14; refine (fold_any _ _ (b64 _) _).mono ?_; rintro e w' ⟨rfl, rfl⟩))
  go_ret
  exact ⟨ret64 rfl, rfl⟩
set_option maxHeartbeats 400000 in
theorem unsplit1 : Step64 66 (fun x => unf 6 31 (BitVec.ofInt 64 x)) := by
  intro x w hx
  obtain ⟨x, rfl⟩ := ex64 x hx
  simp only [ofInt_W64]
  go_enter Try.func66, Try.ntmps66
  go_wp2_with (first | (go_at_call 22; refine (unfold_any _ _ (b64 _) _).mono ?_; rintro e w' ⟨rfl, rfl⟩))
  go_ret
  exact ⟨ret64 rfl, rfl⟩
set_option maxHeartbeats 400000 in
theorem unsplit2 : Step64 67 (fun x => BitVec.ofInt 64 x * oddInv C2) := by
  intro x w hx
  obtain ⟨x, rfl⟩ := ex64 x hx
  simp only [ofInt_W64]
  go_enter Try.func67, Try.ntmps67
  go_wp2_with (first | (go_at_call 68; refine (inverse_any _ (by omega) (by decide) _).mono ?_; rintro e w' ⟨rfl, rfl⟩))
  go_ret
  exact ⟨ret64 rfl, rfl⟩
set_option maxHeartbeats 400000 in
theorem unsplit3 : Step64 69 (fun x => unf 6 27 (BitVec.ofInt 64 x)) := by
  intro x w hx
  obtain ⟨x, rfl⟩ := ex64 x hx
  simp only [ofInt_W64]
  go_enter Try.func69, Try.ntmps69
  go_wp2_with (first | (go_at_call 22; refine (unfold_any _ _ (b64 _) _).mono ?_; rintro e w' ⟨rfl, rfl⟩))
  go_ret
  exact ⟨ret64 rfl, rfl⟩
set_option maxHeartbeats 400000 in
theorem unsplit4 : Step64 70 (fun x => BitVec.ofInt 64 x * oddInv C1) := by
  intro x w hx
  obtain ⟨x, rfl⟩ := ex64 x hx
  simp only [ofInt_W64]
  go_enter Try.func70, Try.ntmps70
  go_wp2_with (first | (go_at_call 68; refine (inverse_any _ (by omega) (by decide) _).mono ?_; rintro e w' ⟨rfl, rfl⟩))
  go_ret
  exact ⟨ret64 rfl, rfl⟩
set_option maxHeartbeats 400000 in
theorem unsplit5 : Step64 71 (fun x => unf 6 30 (BitVec.ofInt 64 x)) := by
  intro x w hx
  obtain ⟨x, rfl⟩ := ex64 x hx
  simp only [ofInt_W64]
  go_enter Try.func71, Try.ntmps71
  go_wp2_with (first | (go_at_call 22; refine (unfold_any _ _ (b64 _) _).mono ?_; rintro e w' ⟨rfl, rfl⟩))
  go_ret
  exact ⟨ret64 rfl, rfl⟩
set_option maxHeartbeats 400000 in
theorem unfmix641 : Step64 72 (fun x => unf 6 33 (BitVec.ofInt 64 x)) := by
  intro x w hx
  obtain ⟨x, rfl⟩ := ex64 x hx
  simp only [ofInt_W64]
  go_enter Try.func72, Try.ntmps72
  go_wp2_with (first | (go_at_call 22; refine (unfold_any _ _ (b64 _) _).mono ?_; rintro e w' ⟨rfl, rfl⟩))
  go_ret
  exact ⟨ret64 rfl, rfl⟩
set_option maxHeartbeats 400000 in
theorem unfmix642 : Step64 73 (fun x => BitVec.ofInt 64 x * oddInv L2) := by
  intro x w hx
  obtain ⟨x, rfl⟩ := ex64 x hx
  simp only [ofInt_W64]
  go_enter Try.func73, Try.ntmps73
  go_wp2_with (first | (go_at_call 68; refine (inverse_any _ (by omega) (by decide) _).mono ?_; rintro e w' ⟨rfl, rfl⟩))
  go_ret
  exact ⟨ret64 rfl, rfl⟩
set_option maxHeartbeats 400000 in
theorem unfmix643 : Step64 74 (fun x => unf 6 33 (BitVec.ofInt 64 x)) := by
  intro x w hx
  obtain ⟨x, rfl⟩ := ex64 x hx
  simp only [ofInt_W64]
  go_enter Try.func74, Try.ntmps74
  go_wp2_with (first | (go_at_call 22; refine (unfold_any _ _ (b64 _) _).mono ?_; rintro e w' ⟨rfl, rfl⟩))
  go_ret
  exact ⟨ret64 rfl, rfl⟩
set_option maxHeartbeats 400000 in
theorem unfmix644 : Step64 75 (fun x => BitVec.ofInt 64 x * oddInv L1) := by
  intro x w hx
  obtain ⟨x, rfl⟩ := ex64 x hx
  simp only [ofInt_W64]
  go_enter Try.func75, Try.ntmps75
  go_wp2_with (first | (go_at_call 68; refine (inverse_any _ (by omega) (by decide) _).mono ?_; rintro e w' ⟨rfl, rfl⟩))
  go_ret
  exact ⟨ret64 rfl, rfl⟩
set_option maxHeartbeats 400000 in
theorem unfmix645 : Step64 76 (fun x => unf 6 33 (BitVec.ofInt 64 x)) := by
  intro x w hx
  obtain ⟨x, rfl⟩ := ex64 x hx
  simp only [ofInt_W64]
  go_enter Try.func76, Try.ntmps76
  go_wp2_with (first | (go_at_call 22; refine (unfold_any _ _ (b64 _) _).mono ?_; rintro e w' ⟨rfl, rfl⟩))
  go_ret
  exact ⟨ret64 rfl, rfl⟩
set_option maxHeartbeats 400000 in
theorem unfmix321 : Step64 77 (fun x => unf 6 16 (BitVec.ofInt 64 x)) := by
  intro x w hx
  obtain ⟨x, rfl⟩ := ex64 x hx
  simp only [ofInt_W64]
  go_enter Try.func77, Try.ntmps77
  go_wp2_with (first | (go_at_call 22; refine (unfold_any _ _ (b64 _) _).mono ?_; rintro e w' ⟨rfl, rfl⟩))
  go_ret
  exact ⟨ret64 rfl, rfl⟩
set_option maxHeartbeats 400000 in
theorem unfmix322 : Step64 78 (fun x => low (BitVec.ofInt 64 x * oddInv S2)) := by
  intro x w hx
  obtain ⟨x, rfl⟩ := ex64 x hx
  simp only [ofInt_W64]
  go_enter Try.func78, Try.ntmps78
  go_wp2_with (first | (go_at_call 62; refine (short_any _ _).mono ?_; rintro e w' ⟨rfl, rfl⟩) | (go_at_call 68; refine (inverse_any _ (by omega) (by decide) _).mono ?_; rintro e w' ⟨rfl, rfl⟩))
  go_ret
  exact ⟨ret64 rfl, rfl⟩
set_option maxHeartbeats 400000 in
theorem unfmix323 : Step64 79 (fun x => unf 6 13 (BitVec.ofInt 64 x)) := by
  intro x w hx
  obtain ⟨x, rfl⟩ := ex64 x hx
  simp only [ofInt_W64]
  go_enter Try.func79, Try.ntmps79
  go_wp2_with (first | (go_at_call 22; refine (unfold_any _ _ (b64 _) _).mono ?_; rintro e w' ⟨rfl, rfl⟩))
  go_ret
  exact ⟨ret64 rfl, rfl⟩
set_option maxHeartbeats 400000 in
theorem unfmix324 : Step64 80 (fun x => low (BitVec.ofInt 64 x * oddInv S1)) := by
  intro x w hx
  obtain ⟨x, rfl⟩ := ex64 x hx
  simp only [ofInt_W64]
  go_enter Try.func80, Try.ntmps80
  go_wp2_with (first | (go_at_call 62; refine (short_any _ _).mono ?_; rintro e w' ⟨rfl, rfl⟩) | (go_at_call 68; refine (inverse_any _ (by omega) (by decide) _).mono ?_; rintro e w' ⟨rfl, rfl⟩))
  go_ret
  exact ⟨ret64 rfl, rfl⟩
set_option maxHeartbeats 400000 in
theorem unfmix325 : Step64 81 (fun x => unf 6 16 (BitVec.ofInt 64 x)) := by
  intro x w hx
  obtain ⟨x, rfl⟩ := ex64 x hx
  simp only [ofInt_W64]
  go_enter Try.func81, Try.ntmps81
  go_wp2_with (first | (go_at_call 22; refine (unfold_any _ _ (b64 _) _).mono ?_; rintro e w' ⟨rfl, rfl⟩))
  go_ret
  exact ⟨ret64 rfl, rfl⟩
set_option maxHeartbeats 400000 in
theorem split_any (z : Int) (hz : 0 ≤ z ∧ z < 18446744073709551616) (W w : World) (hg : New W w) :
    Calls Try.prog 16 #[.int .u64 z] w fun e w' => e = .returned (.int .u64 (W64 (split (BitVec.ofInt 64 z)))) ∧ New W w' := by
  obtain ⟨z, rfl⟩ := ex64 z hz
  simp only [ofInt_W64]
  go_enter Try.func16, Try.ntmps16
  go_wp2_with fail
  refine (run_any _ _ _ _ _ _ _ _ _ _ split1 split2 split3 split4 split5 (fun _ _ => by go_simp) (fun _ _ => by go_simp) (fun _ _ => by go_simp) (fun _ _ => by go_simp) (fun _ _ => by go_simp) _ (b64 _) W _ hg).mono ?_
  rintro e w' ⟨rfl, hg⟩
  go_wp2
  go_ret
  exact ⟨ret64 (by simp only [chain, ofInt_W64]; rfl), hg⟩
set_option maxHeartbeats 400000 in
theorem fmix64_any (z : Int) (hz : 0 ≤ z ∧ z < 18446744073709551616) (W w : World) (hg : New W w) :
    Calls Try.prog 18 #[.int .u64 z] w fun e w' => e = .returned (.int .u64 (W64 (fmix (BitVec.ofInt 64 z)))) ∧ New W w' := by
  obtain ⟨z, rfl⟩ := ex64 z hz
  simp only [ofInt_W64]
  go_enter Try.func18, Try.ntmps18
  go_wp2_with fail
  refine (run_any _ _ _ _ _ _ _ _ _ _ fmix641 fmix642 fmix643 fmix644 fmix645 (fun _ _ => by go_simp) (fun _ _ => by go_simp) (fun _ _ => by go_simp) (fun _ _ => by go_simp) (fun _ _ => by go_simp) _ (b64 _) W _ hg).mono ?_
  rintro e w' ⟨rfl, hg⟩
  go_wp2
  go_ret
  exact ⟨ret64 (by simp only [chain, ofInt_W64]; rfl), hg⟩
set_option maxHeartbeats 400000 in
theorem unsplit_any (z : Int) (hz : 0 ≤ z ∧ z < 18446744073709551616) (W w : World) (hg : New W w) :
    Calls Try.prog 23 #[.int .u64 z] w fun e w' => e = .returned (.int .u64 (W64 (unsplit (BitVec.ofInt 64 z)))) ∧ New W w' := by
  obtain ⟨z, rfl⟩ := ex64 z hz
  simp only [ofInt_W64]
  go_enter Try.func23, Try.ntmps23
  go_wp2_with fail
  refine (run_any _ _ _ _ _ _ _ _ _ _ unsplit1 unsplit2 unsplit3 unsplit4 unsplit5 (fun _ _ => by go_simp) (fun _ _ => by go_simp) (fun _ _ => by go_simp) (fun _ _ => by go_simp) (fun _ _ => by go_simp) _ (b64 _) W _ hg).mono ?_
  rintro e w' ⟨rfl, hg⟩
  go_wp2
  go_ret
  exact ⟨ret64 (by simp only [chain, ofInt_W64]; rfl), hg⟩
set_option maxHeartbeats 400000 in
theorem unfmix64_any (z : Int) (hz : 0 ≤ z ∧ z < 18446744073709551616) (W w : World) (hg : New W w) :
    Calls Try.prog 24 #[.int .u64 z] w fun e w' => e = .returned (.int .u64 (W64 (unfmix (BitVec.ofInt 64 z)))) ∧ New W w' := by
  obtain ⟨z, rfl⟩ := ex64 z hz
  simp only [ofInt_W64]
  go_enter Try.func24, Try.ntmps24
  go_wp2_with fail
  refine (run_any _ _ _ _ _ _ _ _ _ _ unfmix641 unfmix642 unfmix643 unfmix644 unfmix645 (fun _ _ => by go_simp) (fun _ _ => by go_simp) (fun _ _ => by go_simp) (fun _ _ => by go_simp) (fun _ _ => by go_simp) _ (b64 _) W _ hg).mono ?_
  rintro e w' ⟨rfl, hg⟩
  go_wp2
  go_ret
  exact ⟨ret64 (by simp only [chain, ofInt_W64]; rfl), hg⟩
end Go.Proofs.Ytfeibahbmkhgoaa
