/- Contracts of layer 38: Loss, Takes, Rank. -/
import Derived.Test.YtipfkegpiimefaaTapE
import Derived.Test.YtipfkegpiimefaaWidA
namespace Go.Bv
open Go Go.RowKit
/-- how many words are not taken for a limit -/
def lossN (n : BitVec 64) : BitVec 64 := md 18446744073709551616 n
/-- whether a word is taken for a limit that is not 0 -/
def takN (x n : BitVec 64) : Bool := decide (W64 (lossN n) ≤ W64 (x * n))
theorem two_one : two 1#64 0#64 = 18446744073709551616 := by unfold two; rfl
end Go.Bv
namespace Go.Proofs.Ytipfkegpiimefaa
open Go.RowKit Go.Bv
set_option linter.unusedVariables false
theorem div_one (n : BitVec 64) (w : World) : Calls Try.prog 51 #[.agg #[.int .u64 1, .int .u64 0], .int .u64 (W64 n)] w fun e w' =>
    (∃ q1 q0, e = .returned (.tuple #[.agg #[.int .u64 q1, .int .u64 q0], .int .u64 (W64 (lossN n))])) ∧ New w w' := by
  by_cases h : n = 0#64
  · subst h
    have hd := wdiv_zero 1#64 0#64 w
    rw [show W64 1#64 = 1 by decide, show W64 0#64 = 0 by decide] at hd
    rw [show W64 0#64 = 0 by decide]
    refine hd.mono ?_
    rintro e w' ⟨rfl, hn⟩
    exact ⟨⟨_, _, rfl⟩, hn⟩
  · have hd := wdiv_any 1#64 0#64 n h w
    rw [show W64 1#64 = 1 by decide, show W64 0#64 = 0 by decide, two_one] at hd
    refine hd.mono ?_
    rintro e w' ⟨rfl, hn⟩
    exact ⟨⟨_, _, rfl⟩, hn⟩
set_option maxHeartbeats 1000000 in
theorem loss_l (n : BitVec 64) (w : World) : Calls Try.prog 18 #[.int .u64 (W64 n)] w fun e w' => e = .returned (.int .u64 (W64 (lossN n))) ∧ New w w' := by
  have HD := Lib.hid (div_one n)
  generalize lossN n = x at *
  go_enter Try.func18, Try.ntmps18
  go_wp2_with fail
  refine (HD.out _).mono ?_
  rintro e w1 ⟨⟨q1, q0, rfl⟩, hn⟩
  have HN := Lib.hid hn
  clear hn
  go_wp2
  go_ret
  exact ⟨rfl, HN.out.alloc _⟩
set_option maxHeartbeats 1000000 in
theorem takes_l (x n : BitVec 64) (hn0 : ¬ n = 0#64) (w : World) : Calls Try.prog 22 #[.int .u64 (W64 x), .int .u64 (W64 n)] w fun e w' => e = .returned (.bool (takN x n)) ∧ New w w' := by
  have HL := Lib.hid (loss_l n)
  have hpos : decide (0 < W64 n) = true := by
    have := pos_of_ne hn0
    unfold W64; rw [decide_eq_true_eq]; omega
  unfold takN
  generalize lossN n = y at *
  clear hn0
  go_enter Try.func22, Try.ntmps22
  go_wp2_with fail
  refine (HL.out _).mono ?_
  rintro e w1 ⟨rfl, hn⟩
  have HN := Lib.hid hn
  clear hn
  go_wp2
  go_ret
  exact ⟨rfl, HN.out⟩
end Go.Proofs.Ytipfkegpiimefaa
