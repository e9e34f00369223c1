/- The law ModnOdds, walked. -/
import Derived.Test.YtadaaihbeapibaaDoorOddA
import Derived.Test.YtadaaihbeapibaaDoorTwo
import Derived.Test.YtadaaihbeapibaaDoorModF
import Derived.Deep.DeepCutAuto
import Derived.Deep.RegionLaw
import Derived.Deep.RegionWith
namespace Go.Bv
open Go Go.RowKit
theorem boxes1 (w : World) (A0 : Obj) : ((w.alloc A0).heap[w.heap.size]? = some A0) ∧ New w (w.alloc A0) := by
  have e1 : (w.alloc A0).heap.size = w.heap.size + 1 := by simp
  exact ⟨(((New.refl (w.alloc A0))).block _ (by rw [e1]; omega)).trans (heap_alloc_new _ _), ((New.refl w).alloc A0)⟩
theorem left_drew {w X : World} (h : New w X) : New w.drew X := by
  obtain ⟨a, b, c, d, e⟩ := h
  exact ⟨a, b, c, d, e⟩
theorem zstay_d {w q : World} {Z : Obj} (hn : New (w.alloc Z).drew q) : q.heap[w.heap.size]? = some Z := (hn.block _ (lt_of_block (heap_alloc_new w Z))).trans (heap_alloc_new w Z)
theorem znew_d {w q : World} {Z : Obj} (hn : New (w.alloc Z).drew q) : New w.drew q := left_drew (((New.refl w).alloc Z).drew.trans hn)
theorem zstay_q {w q : World} {Z : Obj} (hn : New (w.alloc Z) q) : q.heap[w.heap.size]? = some Z := (hn.block _ (lt_of_block (heap_alloc_new w Z))).trans (heap_alloc_new w Z)
theorem znew_q {b w q : World} {Z : Obj} (h : New b w) (hn : New (w.alloc Z) q) : New b q := (h.alloc Z).trans hn
theorem zkeep {w q : World} {g : Nat} {Z : Obj} (h : w.heap[g]? = some Z) (hn : New w q) : q.heap[g]? = some Z := (hn.block _ (lt_of_block h)).trans h
theorem rkeep {w q : World} {a : Option Addr} {n c : Nat} {l : List Int} {Z : Obj} (h : ZRow w a n c l) (hn : New (w.alloc Z) q) : ZRow q a n c l := h.stay (((New.refl w).alloc Z).trans hn)
theorem put_two {w : World} {r : Nat} {u v : Value} {T : TypeId} (h l : Value) (hz : w.heap[r]? = some (.cells #[u, v] T (0, 0))) :
    ((w.setCell ⟨r, 0, none⟩ h).setCell ⟨r, 1, none⟩ l).heap[r]? = some (.cells #[h, l] T (0, 0)) ∧ (∀ j, j ≠ r → ((w.setCell ⟨r, 0, none⟩ h).setCell ⟨r, 1, none⟩ l).heap[j]? = w.heap[j]?) := by
  refine ⟨?_, fun j hj => ?_⟩
  · have h1 := heap_setCell_same w r 0 _ _ h hz
    exact heap_setCell_same _ r 1 _ _ l h1
  · rw [heap_setCell_other _ _ _ _ hj, heap_setCell_other _ _ _ _ hj]
end Go.Bv
namespace Go.Proofs.YtadaaihbeapibaaDoor
open Go.RowKit Go.Bv
set_option linter.unusedVariables false
end Go.Proofs.YtadaaihbeapibaaDoor
