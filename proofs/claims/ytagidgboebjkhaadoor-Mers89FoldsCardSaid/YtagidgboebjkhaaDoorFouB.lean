/- wide.Cmp4, Len4, Of4. -/
import Derived.Test.YtagidgboebjkhaaDoorFouA
namespace Go.Proofs.YtagidgboebjkhaaDoor
open Go.RowKit Go.Bv
set_option linter.unusedVariables false
theorem eq4F (x0 x1 x2 x3 y0 y1 y2 y3 : BitVec 64) : (x0 == y0 && (x1 == y1 && (x2 == y2 && x3 == y3))) = decide (four x0 x1 x2 x3 = four y0 y1 y2 y3) := by
  by_cases h : four x0 x1 x2 x3 = four y0 y1 y2 y3
  · obtain ⟨rfl, rfl, rfl, rfl⟩ := four_inj h
    rw [decide_eq_true rfl]; simp
  · rw [decide_eq_false h]
    by_cases h0 : x0 = y0
    · by_cases h1 : x1 = y1
      · by_cases h2 : x2 = y2
        · by_cases h3 : x3 = y3
          · exact absurd (by rw [h0, h1, h2, h3]) h
          · rw [beq_eq_false_iff_ne.2 h3]; simp
        · rw [beq_eq_false_iff_ne.2 h2]; simp
      · rw [beq_eq_false_iff_ne.2 h1]; simp
    · rw [beq_eq_false_iff_ne.2 h0]; simp
theorem two_b4 (w : World) (A B : Obj) : ((w.alloc A).alloc B).heap[w.heap.size]? = some A ∧ ((w.alloc A).alloc B).heap[w.heap.size + 1]? = some B ∧ New w ((w.alloc A).alloc B) := by
  have e1 : (w.alloc A).heap.size = w.heap.size + 1 := by simp
  refine ⟨?_, ?_, ((New.refl w).alloc _).alloc _⟩
  · rw [((New.refl (w.alloc A)).alloc B).block _ (by rw [e1]; omega)]; exact heap_alloc_new _ _
  · rw [← e1]; exact heap_alloc_new _ _
end Go.Proofs.YtagidgboebjkhaaDoor
