/- Layer 38: the law's own check that the program is there; the law LemireHalf. -/
import Derived.Test.YtajjpllhihgkdaaLemC
namespace Go.Bv
open Go Go.RowKit
theorem tak_a : takN 9223372036854775808#64 10#64 = false := by decide
theorem tak_b : takN 9223372036854775809#64 10#64 = true := by decide
theorem tel_b : W64 (telN 9223372036854775809#64 10#64) = 5 := by decide
theorem loss_10 : W64 (lossN 10#64) = 6 := by decide
theorem loss_lt (n : BitVec 64) (h : ¬ n = 0#64) : W64 (lossN n) < W64 n := by
  have := md_lt (N := 18446744073709551616) h
  unfold lossN W64; omega
theorem loss_half (n : BitVec 64) (h : ¬ n = 0#64) : W64 (lossN n) < 9223372036854775808 := by
  have h1 := md_nat (N := 18446744073709551616) h
  have h0 := pos_of_ne h
  have hl := Nat.mod_lt 18446744073709551616 h0
  unfold lossN W64
  rw [h1]
  rcases Nat.lt_or_ge n.toNat 9223372036854775809 with h2 | h2
  · omega
  · have hlt := n.isLt
    have h3 : 18446744073709551616 % n.toNat = 18446744073709551616 - n.toNat := by
      rw [Nat.mod_eq_sub_mod (by omega), Nat.mod_eq_of_lt (by omega)]
    omega
end Go.Bv
namespace Go.Proofs.Ytajjpllhihgkdaa
open Go.RowKit Go.Bv
set_option linter.unusedVariables false
theorem two_row (w : World) (x y : BitVec 64) : QRow (w.alloc (.cells #[.int .u64 (W64 x), .int .u64 (W64 y)] 62)) (some ⟨w.heap.size, 0, none⟩) 2 2 [x, y] where
  len_eq := rfl
  le := Nat.le_refl _
  most := by omega
  room := by omega
  none := fun e => by cases e
  cell := fun b off e i hi => by
    cases e
    match i, hi with
    | 0, _ => exact cell_of_row _ _ 0 _ _ _ (heap_alloc_new w _)
    | 1, _ => exact cell_of_row _ _ 1 _ _ _ (heap_alloc_new w _)
  spot := fun x e h0 => by cases e; rfl
  old := fun x e h0 => by cases e; simp
end Go.Proofs.Ytajjpllhihgkdaa
