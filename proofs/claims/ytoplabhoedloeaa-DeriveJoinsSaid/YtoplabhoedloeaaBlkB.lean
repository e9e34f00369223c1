/- Contract of layer 28: pass. -/
import Derived.Test.YtoplabhoedloeaaBlkA
import Derived.Defers
import Derived.Recover
import Derived.Laws.Pointers
import Derived.Handy
import Derived.Deep.DeepCutAuto
namespace Go.Bv
open Go Go.RowKit
theorem put_28 {w : World} {q : Nat} {u0 u1 : Value} {T : TypeId} (v0 v1 : Value) (h : w.heap[q]? = some (.cells #[u0, u1] T (0, 0))) :
    ((((w).setCell ⟨q, 0, none⟩ (v0))).setCell ⟨q, 1, none⟩ (v1)).heap[q]? = some (.cells #[v0, v1] T (0, 0)) ∧ (∀ j, j ≠ q → ((((w).setCell ⟨q, 0, none⟩ (v0))).setCell ⟨q, 1, none⟩ (v1)).heap[j]? = w.heap[j]?) ∧ (∀ W : World, New W w → W.heap.size ≤ q → New W ((((w).setCell ⟨q, 0, none⟩ (v0))).setCell ⟨q, 1, none⟩ (v1))) := by
  refine ⟨?_, fun j hj => ?_, fun W hn hq => ?_⟩
  · have h0 := heap_setCell_same w q 0 _ _ v0 h
    have h1 := heap_setCell_same _ q 1 _ _ v1 h0
    exact h1
  · rw [heap_setCell_other _ _ _ _ hj, heap_setCell_other _ _ _ _ hj]
  · exact (hn.setCell (by exact hq) _).setCell (by exact hq) _
end Go.Bv
namespace Go.Proofs.Ytoplabhoedloeaa
open Go.RowKit Go.Bv
set_option linter.unusedVariables false
end Go.Proofs.Ytoplabhoedloeaa
