/- Contracts of layer 39: Takes, Rank. -/
import Derived.Test.YtipfkegpiimefaaMskB
import Derived.Deep.RegionHeld3
namespace Go.Proofs.Ytipfkegpiimefaa
open Go.RowKit Go.Bv
set_option linter.unusedVariables false
set_option maxHeartbeats 1000000 in
theorem mtakes_m (x n : BitVec 64) (w : World) : Calls Try.prog 38 #[.int .u64 (W64 x), .int .u64 (W64 n)] w fun e w' => e = .returned (.bool (takM x n)) ∧ New w w' := by
  go_enter Try.func38, Try.ntmps38
  go_wp2_with fail
  refine (yields_m n _).mono ?_
  rintro e w1 ⟨p, q, rfl, hp, hq, hn, _, _⟩
  have HN := Lib.hid hn
  have HC := Lib.hid (show Calls Try.prog 77 #[.int .u64 (W64 x), .pointer (some ⟨p, 0, none⟩), .pointer (some ⟨q, 0, none⟩)] w1 fun e w' => e = .returned (.tuple #[.int .u64 (W64 (telM x n)), .bool (takM x n)]) ∧ New w1 w' from yield_m x n _ p q w1 hp hq)
  clear hp hq hn
  go_wp2_with fail
  refine HC.out.mono ?_
  rintro e w2 ⟨rfl, hn2⟩
  have HN2 := Lib.hid (HN.out.trans hn2)
  clear hn2
  go_wp2
  go_ret
  exact ⟨rfl, HN2.out⟩
set_option maxHeartbeats 1000000 in
theorem mrank_m (x n : BitVec 64) (hn0 : ¬ n = 0#64) (ht : takM x n = true) (w : World) : Calls Try.prog 40 #[.int .u64 (W64 x), .int .u64 (W64 n)] w fun e w' => e = .returned (.tuple #[.int .u64 (W64 (telM x n)), .int .u64 (W64 (rnkM x n)), .int .i64 0]) ∧ New w w' := by
  have hz2 : (W64 n == 0) = false := by
    have := pos_of_ne hn0
    rw [beq_eq_false_iff_ne]; unfold W64; omega
  have hz3 : (n == 0#64) = false := beq_false_of_ne hn0
  have HBI := Lib.hid (bits_m n)
  have HTT := Lib.hid ht
  unfold rnkM
  obtain ⟨sb, hsb⟩ : ∃ sb, bitsM n = sb := ⟨_, rfl⟩
  rw [hsb] at HBI ⊢
  clear hn0 ht hsb
  go_enter Try.func40, Try.ntmps40
  go_wp2_with fail
  refine (yields_m n _).mono ?_
  rintro e w1 ⟨p, q, rfl, hp, hq, hn, _, _⟩
  have HN := Lib.hid hn
  have HC := Lib.hid (show Calls Try.prog 77 #[.int .u64 (W64 x), .pointer (some ⟨p, 0, none⟩), .pointer (some ⟨q, 0, none⟩)] w1 fun e w' => e = .returned (.tuple #[.int .u64 (W64 (telM x n)), .bool (takM x n)]) ∧ New w1 w' from yield_m x n _ p q w1 hp hq)
  clear hp hq hn
  go_wp2_with fail
  refine HC.out.mono ?_
  rintro e w2 ⟨rfl, hn2⟩
  rw [HTT.out]
  have HN2 := Lib.hid (HN.out.trans hn2)
  clear hn2 HC HTT
  obtain ⟨y, hy⟩ : ∃ y, telM x n = y := ⟨_, rfl⟩
  rw [hy]
  have HY := Lib.hid hy
  clear hy
  go_wp2_with fail
  go_cut [4, 5, 6] (fun u v e wx => u = .int .u64 (W64 y) ∧ v = .int .u64 (W64 (x >>> sb)) ∧ e = .int .i64 0 ∧ New w2 wx)
  case first =>
    go_region_held3 (fun w' => New w2 w')
      ((first | with_reducible assumption | with_reducible exact (New.refl _).drew | with_reducible exact New.drew (by assumption)))
      (first
      | (go_at_call 34
         refine (HBI.out _).mono ?_
         rintro e w4 ⟨rfl, rfl⟩))
    all_goals (
      go_wp2_with fail
      go_meet
      case rel => exact ⟨rfl, rfl, rfl, (New.refl _).drew⟩)
  case rest =>
    obtain ⟨rfl, rfl, rfl, hn⟩ := hcut
    have HN3 := Lib.hid (HN2.out.trans hn)
    clear hn
    go_wp2
    go_returns
    rw [HY.out]
    exact ⟨rfl, HN3.out⟩
/-- of a word that isn't taken nothing is told -/
theorem mrank_no (x n : BitVec 64) (hn0 : ¬ n = 0#64) (ht : takM x n = false) (w : World) : Calls Try.prog 40 #[.int .u64 (W64 x), .int .u64 (W64 n)] w fun e w' => e = .returned (.tuple #[.int .u64 0, .int .u64 0, .int .i64 2]) ∧ New w w' := by
  have hz2 : (W64 n == 0) = false := by
    have := pos_of_ne hn0
    rw [beq_eq_false_iff_ne]; unfold W64; omega
  have hz3 : (n == 0#64) = false := beq_false_of_ne hn0
  have HTT := Lib.hid ht
  clear hn0 ht
  go_enter Try.func40, Try.ntmps40
  go_wp2_with fail
  refine (yields_m n _).mono ?_
  rintro e w1 ⟨p, q, rfl, hp, hq, hn, _, _⟩
  have HN := Lib.hid hn
  have HC := Lib.hid (show Calls Try.prog 77 #[.int .u64 (W64 x), .pointer (some ⟨p, 0, none⟩), .pointer (some ⟨q, 0, none⟩)] w1 fun e w' => e = .returned (.tuple #[.int .u64 (W64 (telM x n)), .bool (takM x n)]) ∧ New w1 w' from yield_m x n _ p q w1 hp hq)
  clear hp hq hn
  go_wp2_with fail
  refine HC.out.mono ?_
  rintro e w2 ⟨rfl, hn2⟩
  rw [HTT.out]
  have HN2 := Lib.hid (HN.out.trans hn2)
  clear hn2 HC HTT
  go_wp2
  go_returns
  exact ⟨rfl, HN2.out⟩
theorem mrank_zero (x : BitVec 64) (w : World) : Calls Try.prog 40 #[.int .u64 (W64 x), .int .u64 0] w fun e w' => e = .returned (.tuple #[.int .u64 0, .int .u64 0, .int .i64 8]) ∧ New w w' := by
  go_enter Try.func40, Try.ntmps40
  go_wp2
  go_returns
  exact ⟨rfl, New.refl _⟩
end Go.Proofs.Ytipfkegpiimefaa
