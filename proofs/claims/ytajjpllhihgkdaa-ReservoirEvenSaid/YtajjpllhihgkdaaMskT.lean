/- The law MaskTakes, walked. -/
import Derived.Test.YtajjpllhihgkdaaMskG
namespace Go.Bv
theorem first_same {p : Nat → Bool} {i j : Nat} (h1 : ∀ k, k < i → p k = false) (h2 : p i = true) (h3 : ∀ k, k < j → p k = false) (h4 : p j = true) : i = j := by
  rcases Nat.lt_trichotomy i j with h | h | h
  · rw [h3 i h] at h2; cases h2
  · exact h
  · rw [h1 j h] at h4; cases h4
end Go.Bv
namespace Go.Proofs.Ytajjpllhihgkdaa
open Go.RowKit Go.Bv
set_option linter.unusedVariables false
/-- a draw's box -/
theorem draw_box (w : World) (x y z : Value) : (w.alloc (.cells #[x, y, z] 73)).cell? ⟨w.heap.size, 0, none⟩ = some x ∧ (w.alloc (.cells #[x, y, z] 73)).cell? ⟨w.heap.size, 1, none⟩ = some y ∧ (w.alloc (.cells #[x, y, z] 73)).cell? ⟨w.heap.size, 2, none⟩ = some z :=
  ⟨cell_of_row _ _ 0 _ _ _ (heap_alloc_new _ _), cell_of_row _ _ 1 _ _ _ (heap_alloc_new _ _), cell_of_row _ _ 2 _ _ _ (heap_alloc_new _ _)⟩
end Go.Proofs.Ytajjpllhihgkdaa
