/- Layer 38: the law's own check that the program is there; the law LemireHalf. -/
import Derived.Test.YtipfkegpiimefaaLemC
namespace Go.Bv
open Go Go.RowKit
theorem tak_a : takN 9223372036854775808#64 10#64 = false := by decide
theorem tak_b : takN 9223372036854775809#64 10#64 = true := by decide
theorem tel_b : W64 (telN 9223372036854775809#64 10#64) = 5 := by decide
theorem loss_10 : W64 (lossN 10#64) = 6 := by decide
theorem loss_lt (n : BitVec 64) (h : ¬ n = 0#64) : W64 (lossN n) < W64 n := by
  have := md_lt (N := 18446744073709551616) h
  unfold lossN W64; omega
theorem loss_half (n : BitVec 64) (h : ¬ n = 0#64) : W64 (lossN n) < 9223372036854775808 := by
  have h1 := md_nat (N := 18446744073709551616) h
  have h0 := pos_of_ne h
  have hl := Nat.mod_lt 18446744073709551616 h0
  unfold lossN W64
  rw [h1]
  rcases Nat.lt_or_ge n.toNat 9223372036854775809 with h2 | h2
  · omega
  · have hlt := n.isLt
    have h3 : 18446744073709551616 % n.toNat = 18446744073709551616 - n.toNat := by
      rw [Nat.mod_eq_sub_mod (by omega), Nat.mod_eq_of_lt (by omega)]
    omega
end Go.Bv
namespace Go.Proofs.Ytipfkegpiimefaa
open Go.RowKit Go.Bv
set_option linter.unusedVariables false
theorem two_row (w : World) (x y : BitVec 64) : QRow (w.alloc (.cells #[.int .u64 (W64 x), .int .u64 (W64 y)] 28)) (some ⟨w.heap.size, 0, none⟩) 2 2 [x, y] where
  len_eq := rfl
  le := Nat.le_refl _
  most := by omega
  room := by omega
  none := fun e => by cases e
  cell := fun b off e i hi => by
    cases e
    match i, hi with
    | 0, _ => exact cell_of_row _ _ 0 _ _ _ (heap_alloc_new w _)
    | 1, _ => exact cell_of_row _ _ 1 _ _ _ (heap_alloc_new w _)
  spot := fun x e h0 => by cases e; rfl
  old := fun x e h0 => by cases e; simp
set_option maxHeartbeats 1000000 in
theorem awake_38 (w : World) : Calls Try.prog 17 #[] w fun e w' => e = .returned (.bool true) ∧ New w w' := by
  have h7 := two_row w 9223372036854775808#64 9223372036854775809#64
  rw [show W64 9223372036854775808#64 = 9223372036854775808 by decide, show W64 9223372036854775809#64 = 9223372036854775809 by decide] at h7
  have H7 := Lib.hid h7
  have HL := Lib.hid (loss_l 10#64)
  rw [show W64 10#64 = 10 by decide, loss_10] at HL
  clear h7
  go_enter Try.func17, Try.ntmps17
  go_wp2_with fail
  refine (new_t _ _ _ _ _ H7.out).mono ?_
  rintro e w1 ⟨b, rfl, hb, ht, hn⟩
  have HN1 := Lib.hid (((New.refl w).alloc _).trans hn)
  have hb2 : w.heap.size ≤ b := by simp at hb; omega
  have HTK := Lib.hid (take_l b b [9223372036854775808#64, 9223372036854775809#64] 0 10#64 (by decide) w1 ht)
  rw [show W64 10#64 = 10 by decide] at HTK
  clear ht hn hb H7
  go_wp2_with fail
  refine HTK.out.mono ?_
  rintro e w2 (⟨j, _, hj, hno, htk, rfl, g, _, hbut, _⟩ | ⟨hno, _⟩)
  · obtain rfl : j = 1 := by
      match j, hj, htk with
      | 0, _, h => exact absurd h (by rw [show ([9223372036854775808#64, 9223372036854775809#64] : List (BitVec 64)).getD 0 0 = 9223372036854775808#64 from rfl, tak_a]; decide)
      | 1, _, _ => rfl
    have HN2 := Lib.hid (hbut.new w HN1.out hb2 hb2)
    rw [show ([9223372036854775808#64, 9223372036854775809#64] : List (BitVec 64)).getD 1 0 = 9223372036854775809#64 from rfl, tel_b]
    generalize W64 (rnkN 9223372036854775809#64 10#64) = rk
    clear hno htk hj hbut HTK HN1
    have hb := heap_alloc_new w2 (.cells #[.int .u64 5, .int .u64 rk, .int .i64 2] 44)
    have c0 := cell_of_row _ _ 0 _ _ _ hb
    have c2 := cell_of_row _ _ 2 _ _ _ hb
    have HN3 := Lib.hid (HN2.out.alloc (.cells #[.int .u64 5, .int .u64 rk, .int .i64 2] 44))
    clear hb
    go_wp2_with fail
    refine (HL.out _).mono ?_
    rintro e w4 ⟨rfl, hn4⟩
    have HN4 := Lib.hid (HN3.out.trans hn4)
    clear hn4 c0 c2
    go_wp2
    go_ret
    exact ⟨rfl, HN4.out⟩
  · exfalso
    have := hno 1 (by omega) (by decide)
    rw [show ([9223372036854775808#64, 9223372036854775809#64] : List (BitVec 64)).getD 1 0 = 9223372036854775809#64 from rfl, tak_b] at this
    cases this
end Go.Proofs.Ytipfkegpiimefaa
