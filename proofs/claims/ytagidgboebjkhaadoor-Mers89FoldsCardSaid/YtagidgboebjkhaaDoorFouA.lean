/- wide.Add4, Sub4. -/
import Derived.Test.YtagidgboebjkhaaDoorFouN
import Derived.Test.YtagidgboebjkhaaDoorWidS
import Derived.Test.YtagidgboebjkhaaDoorBitQ
import Derived.ChangeKeysEq
import Derived.Laws.StructEq
namespace Go.Proofs.YtagidgboebjkhaaDoor
open Go.RowKit Go.Bv
set_option linter.unusedVariables false
theorem four_blocks (w : World) (A B C D : Obj) : ((((w.alloc A).alloc B).alloc C).alloc D).heap[w.heap.size]? = some A ∧ ((((w.alloc A).alloc B).alloc C).alloc D).heap[w.heap.size + 1]? = some B ∧ ((((w.alloc A).alloc B).alloc C).alloc D).heap[w.heap.size + 2]? = some C ∧ ((((w.alloc A).alloc B).alloc C).alloc D).heap[w.heap.size + 3]? = some D ∧ New w ((((w.alloc A).alloc B).alloc C).alloc D) := by
  have e1 : (w.alloc A).heap.size = w.heap.size + 1 := by simp
  have e2 : ((w.alloc A).alloc B).heap.size = w.heap.size + 2 := by simp
  have e3 : (((w.alloc A).alloc B).alloc C).heap.size = w.heap.size + 3 := by simp
  have n3 := (New.refl (((w.alloc A).alloc B).alloc C)).alloc D
  have n2 := (New.refl ((w.alloc A).alloc B)).alloc C
  have n1 := (New.refl (w.alloc A)).alloc B
  refine ⟨?_, ?_, ?_, ?_, ((((New.refl w).alloc _).alloc _).alloc _).alloc _⟩
  · rw [n3.block _ (by rw [e3]; omega), n2.block _ (by rw [e2]; omega), n1.block _ (by rw [e1]; omega)]; exact heap_alloc_new _ _
  · rw [n3.block _ (by rw [e3]; omega), n2.block _ (by rw [e2]; omega), ← e1]; exact heap_alloc_new _ _
  · rw [n3.block _ (by rw [e3]; omega), ← e2]; exact heap_alloc_new _ _
  · rw [← e3]; exact heap_alloc_new _ _
theorem sub64_run0 (x y : BitVec 64) (w : World) :
    (callFunc 37 #[.int .u64 (W64 x), .int .u64 (W64 y), .int .u64 0]).run Tryd.prog w = .ok (.value (.tuple #[.int .u64 (W64 (x - y - 0#64)), .int .u64 (W64 (bw x y 0#64))])) w := by
  have h := sub64_run x y 0#64 (by decide) w
  rw [show W64 0#64 = 0 from W64_lit 0 (by omega)] at h
  exact h
end Go.Proofs.YtagidgboebjkhaaDoor
