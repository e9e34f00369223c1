/- Contracts of layer 28: the document's step; apply. -/
import Derived.Test.YtoplabhoedloeaaCat
import Derived.Test.YtoplabhoedloeaaBlkM
import Derived.Test.YtoplabhoedloeaaGro2
import Derived.Defers
import Derived.Recover
import Derived.Laws.Pointers
import Derived.Handy
import Derived.Laws.EntriesVeiled
namespace Go.Bv
open Go Go.RowKit
theorem two_blocks (w : World) (A B : Obj) : ((w.alloc A).alloc B).heap[w.heap.size]? = some A ∧ ((w.alloc A).alloc B).heap[w.heap.size + 1]? = some B ∧ New w ((w.alloc A).alloc B) := by
  have e1 : (w.alloc A).heap.size = w.heap.size + 1 := by simp
  refine ⟨?_, ?_, ((New.refl w).alloc _).alloc _⟩
  · rw [((New.refl (w.alloc A)).alloc B).block _ (by rw [e1]; omega)]; exact heap_alloc_new _ _
  · rw [← e1]; exact heap_alloc_new _ _
/-- a byte into a number -/
def byt28 (x : BitVec 64) (b : BitVec 8) : BitVec 64 := x * 257#64 + b.setWidth 64 + 1#64
/-- one block more -/
def stp28 (s : BitVec 64 × Int) (l : List (BitVec 8)) : BitVec 64 × Int := (l.foldl byt28 s.1, wrap64 (s.2 + 1))
theorem fold_take (x : BitVec 64) (l : List (BitVec 8)) (k : Nat) (h : k < l.length) : (l.take (k + 1)).foldl byt28 x = byt28 ((l.take k).foldl byt28 x) (l.getD k 0) := by
  rw [List.take_succ_eq_append_getElem h, List.foldl_append]
  simp [List.getD_eq_getElem?_getD, List.getElem?_eq_getElem h]
end Go.Bv
namespace Go.Proofs.Ytoplabhoedloeaa
open Go.RowKit Go.Bv
set_option linter.unusedVariables false
end Go.Proofs.Ytoplabhoedloeaa
