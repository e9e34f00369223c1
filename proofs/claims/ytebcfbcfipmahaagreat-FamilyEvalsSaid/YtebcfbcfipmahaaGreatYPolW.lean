import Derived.Test.YtebcfbcfipmahaaGreatYPolE
import Derived.Test.YtebcfbcfipmahaaGreatYWords
/- The example of poly's chapter. -/
namespace Go.Proofs.YtebcfbcfipmahaaGreat
open Go.RowKit Go.Bv
set_option linter.unusedVariables false
theorem qrow1 (w : World) (x : BitVec 64) : QRow (w.alloc (.cells #[.int .u64 (W64 x)] 31)) (some ⟨w.heap.size, 0, none⟩) 1 1 [x] := by
  have hb := heap_alloc_new w (.cells #[.int .u64 (W64 x)] 31)
  refine ⟨rfl, Nat.le_refl _, by omega, by omega, (fun e => by cases e), ?_, ?_, ?_⟩
  · intro b off e i hi
    cases e
    obtain rfl : i = 0 := by omega
    rw [cell_of_row _ _ _ _ _ _ hb]; rfl
  · intro x e h; cases e; rfl
  · intro x e h; cases e; exact lt_of_block hb
theorem qrow2 (w : World) (x y : BitVec 64) : QRow (w.alloc (.cells #[.int .u64 (W64 x), .int .u64 (W64 y)] 31)) (some ⟨w.heap.size, 0, none⟩) 2 2 [x, y] := by
  have hb := heap_alloc_new w (.cells #[.int .u64 (W64 x), .int .u64 (W64 y)] 31)
  refine ⟨rfl, Nat.le_refl _, by omega, by omega, (fun e => by cases e), ?_, ?_, ?_⟩
  · intro b off e i hi
    cases e
    rcases (show i = 0 ∨ i = 1 by omega) with rfl | rfl
    · rw [cell_of_row _ _ _ _ _ _ hb]; rfl
    · rw [cell_of_row _ _ _ _ _ _ hb]; rfl
  · intro x e h; cases e; rfl
  · intro x e h; cases e; exact lt_of_block hb
end Go.Proofs.YtebcfbcfipmahaaGreat
