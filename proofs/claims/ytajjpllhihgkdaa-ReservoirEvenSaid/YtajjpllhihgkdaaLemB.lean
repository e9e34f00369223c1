/- Contracts of layer 38: Loss, Takes, Rank. · Contracts of layer 38: Rank. -/
import Derived.Test.YtajjpllhihgkdaaTapE
import Derived.Test.YtajjpllhihgkdaaWidA
import Derived.Deep.RegionHeld3
namespace Go.Bv
open Go Go.RowKit
/-- how many words are not taken for a limit -/
def lossN (n : BitVec 64) : BitVec 64 := md 18446744073709551616 n
/-- whether a word is taken for a limit that is not 0 -/
def takN (x n : BitVec 64) : Bool := decide (W64 (lossN n) ≤ W64 (x * n))
theorem two_one : two 1#64 0#64 = 18446744073709551616 := by unfold two; rfl
end Go.Bv
namespace Go.Proofs.Ytajjpllhihgkdaa
open Go.RowKit Go.Bv
set_option linter.unusedVariables false
theorem div_one (n : BitVec 64) (w : World) : Calls Try.prog 74 #[.agg #[.int .u64 1, .int .u64 0], .int .u64 (W64 n)] w fun e w' =>
    (∃ q1 q0, e = .returned (.tuple #[.agg #[.int .u64 q1, .int .u64 q0], .int .u64 (W64 (lossN n))])) ∧ New w w' := by
  by_cases h : n = 0#64
  · subst h
    have hd := wdiv_zero 1#64 0#64 w
    rw [show W64 1#64 = 1 by decide, show W64 0#64 = 0 by decide] at hd
    rw [show W64 0#64 = 0 by decide]
    refine hd.mono ?_
    rintro e w' ⟨rfl, hn⟩
    exact ⟨⟨_, _, rfl⟩, hn⟩
  · have hd := wdiv_any 1#64 0#64 n h w
    rw [show W64 1#64 = 1 by decide, show W64 0#64 = 0 by decide, two_one] at hd
    refine hd.mono ?_
    rintro e w' ⟨rfl, hn⟩
    exact ⟨⟨_, _, rfl⟩, hn⟩
set_option maxHeartbeats 1000000 in
theorem loss_l (n : BitVec 64) (w : World) : Calls Try.prog 75 #[.int .u64 (W64 n)] w fun e w' => e = .returned (.int .u64 (W64 (lossN n))) ∧ New w w' := by
  have HD := Lib.hid (div_one n)
  generalize lossN n = x at *
  go_enter Try.func75, Try.ntmps75
  go_wp2_with fail
  refine (HD.out _).mono ?_
  rintro e w1 ⟨⟨q1, q0, rfl⟩, hn⟩
  have HN := Lib.hid hn
  clear hn
  go_wp2
  go_ret
  exact ⟨rfl, HN.out.alloc _⟩
set_option maxHeartbeats 1000000 in
theorem takes_l (x n : BitVec 64) (hn0 : ¬ n = 0#64) (w : World) : Calls Try.prog 64 #[.int .u64 (W64 x), .int .u64 (W64 n)] w fun e w' => e = .returned (.bool (takN x n)) ∧ New w w' := by
  have HL := Lib.hid (loss_l n)
  have hpos : decide (0 < W64 n) = true := by
    have := pos_of_ne hn0
    unfold W64; rw [decide_eq_true_eq]; omega
  unfold takN
  generalize lossN n = y at *
  clear hn0
  go_enter Try.func64, Try.ntmps64
  go_wp2_with fail
  refine (HL.out _).mono ?_
  rintro e w1 ⟨rfl, hn⟩
  have HN := Lib.hid hn
  clear hn
  go_wp2
  go_ret
  exact ⟨rfl, HN.out⟩
end Go.Proofs.Ytajjpllhihgkdaa
namespace Go.Bv
open Go Go.RowKit
/-- what a word tells -/
def telN (x n : BitVec 64) : BitVec 64 := hiN (x.toNat * n.toNat)
/-- its rank -/
def rnkN (x n : BitVec 64) : BitVec 64 := (loN (x.toNat * n.toNat) - lossN n) / n
end Go.Bv
namespace Go.Proofs.Ytajjpllhihgkdaa
open Go.RowKit Go.Bv
set_option linter.unusedVariables false
set_option maxHeartbeats 1000000 in
theorem rank_l (x n : BitVec 64) (hn0 : ¬ n = 0#64) (ht : takN x n = true) (w : World) : Calls Try.prog 65 #[.int .u64 (W64 x), .int .u64 (W64 n)] w fun e w' => e = .returned (.tuple #[.int .u64 (W64 (telN x n)), .int .u64 (W64 (rnkN x n)), .int .i64 0]) ∧ New w w' := by
  have HL := Lib.hid (loss_l n)
  have HM := Lib.hid (wmul_any x n)
  have HTK := Lib.hid (takes_l x n hn0)
  rw [ht] at HTK
  have hpos := pos_of_ne hn0
  have hz : decide (W64 n = 0) = false := by
    unfold W64; rw [decide_eq_false_iff_not]; omega
  have hz2 : (W64 n == 0) = false := by
    rw [beq_eq_false_iff_ne]; unfold W64; omega
  have hz4 : ¬ W64 n = 0 := by unfold W64; omega
  have hz3 : (n == 0#64) = false := beq_false_of_ne hn0
  unfold telN rnkN
  generalize hiN (x.toNat * n.toNat) = p1 at *
  generalize loN (x.toNat * n.toNat) = p0 at *
  generalize lossN n = y at *
  clear ht
  go_enter Try.func65, Try.ntmps65
  go_wp2_with fail
  refine (HTK.out _).mono ?_
  rintro e w1 ⟨rfl, hn1⟩
  have HN1 := Lib.hid hn1
  clear hn1
  go_wp2_with fail
  refine (HM.out _).mono ?_
  rintro e w2 ⟨rfl, hn2⟩
  have HN2 := Lib.hid ((HN1.out.trans hn2).alloc (.cells #[.int .u64 (W64 p1), .int .u64 (W64 p0)] 97))
  have hb := heap_alloc_new w2 (.cells #[.int .u64 (W64 p1), .int .u64 (W64 p0)] 97)
  clear hn2
  go_wp2_with fail
  generalize w2.alloc (.cells #[.int .u64 (W64 p1), .int .u64 (W64 p0)] 97) = w3 at *
  generalize w2.heap.size = bb at *
  have SK : Hid (∀ w', New w3 w' → New w3 w' ∧ w'.cell? ⟨bb, 0, none⟩ = some (.int .u64 (W64 p1)) ∧ w'.cell? ⟨bb, 1, none⟩ = some (.int .u64 (W64 p0))) := Lib.hid (fun w' hn => by
    have h := (hn.block _ (lt_of_block hb)).trans hb
    exact ⟨hn, cell_of_row _ _ 0 _ _ _ h, cell_of_row _ _ 1 _ _ _ h⟩)
  obtain ⟨_, c0, c1⟩ := SK.out w3 (New.refl _)
  clear hb
  go_cut [4, 5, 6] (fun u v e wx => u = .int .u64 (W64 p1) ∧ v = .int .u64 (W64 ((p0 - y) / n)) ∧ e = .int .i64 0 ∧ New w3 wx)
  case first =>
    go_region_held3 (fun w' => New w3 w' ∧ w'.cell? ⟨bb, 0, none⟩ = some (.int .u64 (W64 p1)) ∧ w'.cell? ⟨bb, 1, none⟩ = some (.int .u64 (W64 p0)))
      ((refine SK.out _ ?_; first | with_reducible assumption | with_reducible exact (New.refl _).drew | with_reducible exact New.drew (by assumption)))
      (first
      | (go_at_call 75
         refine (HL.out _).mono ?_
         rintro e w4 ⟨rfl, hn4⟩
         have hn5 : New w3 w4 := (New.refl w3).drew.trans hn4
         clear hn4))
    go_wp2_with fail
    go_meet
    case rel => exact ⟨rfl, rfl, rfl, hn5⟩
  case rest =>
    obtain ⟨rfl, rfl, rfl, hn⟩ := hcut
    have HN := Lib.hid (HN2.out.trans hn)
    clear hn SK c0 c1
    go_wp2
    go_returns
    exact ⟨rfl, HN.out⟩
end Go.Proofs.Ytajjpllhihgkdaa
