/- The laws LemireWords, LemireEven, walked. -/
import Derived.Test.YtbjclkjikclljaaLemG
namespace Go.Proofs.Ytbjclkjikclljaa
open Go.RowKit Go.Bv
set_option linter.unusedVariables false
theorem rank_zero_l (x : BitVec 64) (w : World) : Calls Try.prog 44 #[.int .u64 (W64 x), .int .u64 0] w fun e w' => e = .returned (.tuple #[.int .u64 0, .int .u64 0, .int .i64 8]) ∧ New w w' := by
  go_enter Try.func44, Try.ntmps44
  go_wp2
  go_returns
  exact ⟨rfl, New.refl _⟩
set_option maxHeartbeats 1000000 in
theorem rank_no_l (x n : BitVec 64) (hn0 : ¬ n = 0#64) (ht : takN x n = false) (w : World) : Calls Try.prog 44 #[.int .u64 (W64 x), .int .u64 (W64 n)] w fun e w' => e = .returned (.tuple #[.int .u64 0, .int .u64 0, .int .i64 2]) ∧ New w w' := by
  have HTK := Lib.hid (takes_l x n hn0)
  rw [ht] at HTK
  have HN := Lib.hid (New.refl w)
  have hz2 : (W64 n == 0) = false := by
    have := pos_of_ne hn0
    rw [beq_eq_false_iff_ne]; unfold W64; omega
  have hz3 : (n == 0#64) = false := beq_false_of_ne hn0
  clear ht hn0
  go_enter Try.func44, Try.ntmps44
  go_wp2_with fail
  refine (HTK.out _).mono ?_
  rintro e w9 ⟨rfl, hn⟩
  replace HN := Lib.hid (HN.out.trans hn)
  clear hn
  go_wp2
  go_returns
  exact ⟨rfl, HN.out⟩
end Go.Proofs.Ytbjclkjikclljaa
