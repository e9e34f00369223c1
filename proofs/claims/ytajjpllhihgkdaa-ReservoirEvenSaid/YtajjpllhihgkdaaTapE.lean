/- The law TapeTells: the words of a tape come one by one, in order, and then no more. -/
import Derived.Test.YtajjpllhihgkdaaTapD
import Derived.Test.YtajjpllhihgkdaaWords
namespace Go.Proofs.Ytajjpllhihgkdaa
open Go.RowKit Go.Bv
set_option linter.unusedVariables false
theorem QRow.take {w : World} {a : Option Addr} {len cap : Nat} {l : List (BitVec 64)} (h : QRow w a len cap l) (k : Nat) (hk : k < len) : QRow w a k cap (l.take k) where
  len_eq := by rw [List.length_take, h.len_eq]; omega
  le := by have := h.le; omega
  most := by have := h.most; omega
  room := h.room
  none := fun e => by have := h.none e; omega
  cell := fun b off e i hi => by
    rw [h.cell b off e i (by omega), List.getD_eq_getElem?_getD, List.getD_eq_getElem?_getD, List.getElem?_take, if_pos hi]
  spot := fun x e h0 => h.spot x e (by omega)
  old := fun x e h0 => h.old x e (by omega)
theorem one_row (w : World) (x : BitVec 64) : QRow (w.alloc (.cells #[.int .u64 (W64 x)] 62)) (some ⟨w.heap.size, 0, none⟩) 1 1 [x] where
  len_eq := rfl
  le := Nat.le_refl _
  most := by omega
  room := by omega
  none := fun e => by cases e
  cell := fun b off e i hi => by
    cases e
    obtain rfl : i = 0 := by omega
    exact cell_of_row _ _ 0 _ _ _ (heap_alloc_new w _)
  spot := fun x e h0 => by cases e; rfl
  old := fun x e h0 => by cases e; simp
end Go.Proofs.Ytajjpllhihgkdaa
