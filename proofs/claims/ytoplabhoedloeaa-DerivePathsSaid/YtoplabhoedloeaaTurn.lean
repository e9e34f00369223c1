/- Contracts of load.Rot32, load.Rot64, load.Swap64 and of the document's own Left, Rot32, Rot64 and Swap: for every word and every number. -/
import Derived.Test.YtoplabhoedloeaaProg
import Derived.Test.YtoplabhoedloeaaRow
namespace Go.Proofs.Ytoplabhoedloeaa
open Go.RowKit Go.Bv
set_option linter.unusedVariables false
set_option maxHeartbeats 400000 in
theorem left_any (n b : Int) (hb : 0 < b ∧ b ≤ 64) (hn : -9223372036854775808 ≤ n ∧ n ≤ 9223372036854775807) (w : World) :
    Calls Try.prog 54 #[.int .i64 n, .int .i64 b] w fun e w' => e = .returned (.int .i64 (n % b)) ∧ w' = w := by
  have hlt := Int.emod_lt_of_pos n hb.1
  have hge := Int.emod_nonneg n (show b ≠ 0 by omega)
  have key : n.tmod b = n % b ∨ n.tmod b = n % b - b := by
    rcases Int.le_total 0 n with h | h
    · left; exact Int.tmod_eq_emod_of_nonneg h
    · have h2 := Int.tmod_eq_emod (a := n) (b := b)
      split at h2 <;> omega
  have key2 : n.tmod b < 0 → n.tmod b + b = n % b := by omega
  have key3 : 0 ≤ n.tmod b → n.tmod b = n % b := by
    intro h
    rcases Int.le_total 0 n with h' | h'
    · exact Int.tmod_eq_emod_of_nonneg h'
    · rcases key with k | k
      · exact k
      · omega
  go_enter Try.func54, Try.ntmps54
  go_wp2
  all_goals (go_ret; refine ⟨retI ?_, rfl⟩; first | rfl | exact key2 (by assumption) | exact key3 (by assumption))
set_option maxHeartbeats 400000 in
theorem rot64_any (x : Int) (hx : 0 ≤ x ∧ x < 18446744073709551616) (n : Int) (w : World) :
    Calls Try.prog 49 #[.int .u64 x, .int .i64 n] w fun e w' => e = .returned (.int .u64 (W64 ((BitVec.ofInt 64 x).rotateLeft (n % 64).toNat))) ∧ w' = w := by
  obtain ⟨x, rfl⟩ := ex64 x hx
  rw [ofInt_W64]
  go_enter Try.func49, Try.ntmps49
  go_wp2
  go_ret
  exact ⟨ret64 (rot64_prog x n), rfl⟩
set_option maxHeartbeats 400000 in
theorem rot64_ref (x : Int) (hx : 0 ≤ x ∧ x < 18446744073709551616) (n : Int) (hn : -9223372036854775808 ≤ n ∧ n ≤ 9223372036854775807) (w : World) :
    Calls Try.prog 50 #[.int .u64 x, .int .i64 n] w fun e w' => e = .returned (.int .u64 (W64 ((BitVec.ofInt 64 x).rotateLeft (n % 64).toNat))) ∧ w' = w := by
  obtain ⟨x, rfl⟩ := ex64 x hx
  rw [ofInt_W64]
  have h1 := Int.emod_lt_of_pos n (show (0:Int) < 64 by omega)
  have h2 := Int.emod_nonneg n (show (64:Int) ≠ 0 by omega)
  go_enter Try.func50, Try.ntmps50
  go_wp2
  go_loop [0, 5] (fun t i => ∃ k : Nat, (k : Int) ≤ n % 64 ∧ i = .int .i64 k ∧ t = .int .u64 (W64 (x.rotateLeft k))) (fun _ i => 64 - (intOf i).toNat)
  case atStart => exact ⟨0, by omega, rfl, by rw [rot_zero]⟩
  case round =>
    obtain ⟨k, hk, rfl, rfl⟩ := hrel
    go_wp2_with (go_at_call 54; refine (left_any _ _ (by omega) (by omega) _).mono ?_; rintro e w' ⟨rfl, rfl⟩)
    · have hlt : (k : Int) < n % 64 := by assumption
      go_round
      case rel => exact ⟨k + 1, by omega, by go_num, by rw [rot64_step, rot_succ _ _ (by omega) (by omega)]⟩
      case measure => simp [intOf]; omega
    · have hge : n % 64 ≤ k := by assumption
      go_ret
      exact ⟨ret64 (by rw [show (n % 64).toNat = k by omega]), rfl⟩
end Go.Proofs.Ytoplabhoedloeaa
