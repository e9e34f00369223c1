/- Contracts of Run of xoshiro and of the document's own Steps; the example of xoshiro (awake). -/
import Derived.Test.YtfaobdmoifnglaaGreatXoR
namespace Go.Proofs.YtfaobdmoifnglaaGreat
open Go.RowKit Go.Bv
set_option linter.unusedVariables false
def zr (q : Q4) : Bool := q.a == 0#64 && (q.b == 0#64 && (q.c == 0#64 && q.d == 0#64))
def z9 : Q4 := ⟨0#64, 0#64, 0#64, 0#64⟩
theorem zr_iff (q : Q4) : zr q = true ↔ q = z9 := by
  obtain ⟨a, b, c, d⟩ := q
  simp [zr, z9]
/-- the words of a state -/
def cs4 (q : Q4) : Array Value := #[.int .u64 (W64 q.a), .int .u64 (W64 q.b), .int .u64 (W64 q.c), .int .u64 (W64 q.d)]
theorem row4 {w : World} {g : Nat} {t : TypeId} {q : Q4} (h : w.heap[g]? = some (.cells (cs4 q) t (0, 0))) : C4 w g q.a q.b q.c q.d := by
  unfold C4
  rw [cell_of_row _ _ _ _ _ _ h, cell_of_row _ _ _ _ _ _ h, cell_of_row _ _ _ _ _ _ h, cell_of_row _ _ _ _ _ _ h]
  exact ⟨rfl, rfl, rfl, rfl⟩
/-- a state stored whole -/
theorem set4 {w : World} {g : Nat} {t : TypeId} {q : Q4} (p : Q4) (h : w.heap[g]? = some (.cells (cs4 q) t (0, 0))) :
    ((((w.setCell ⟨g, 0, none⟩ (.int .u64 (W64 p.a))).setCell ⟨g, 1, none⟩ (.int .u64 (W64 p.b))).setCell ⟨g, 2, none⟩ (.int .u64 (W64 p.c))).setCell ⟨g, 3, none⟩ (.int .u64 (W64 p.d))).heap[g]? = some (.cells (cs4 p) t (0, 0)) := by
  have h1 := heap_setCell_same w g 0 _ t (.int .u64 (W64 p.a)) h
  have h2 := heap_setCell_same _ g 1 _ t (.int .u64 (W64 p.b)) h1
  have h3 := heap_setCell_same _ g 2 _ t (.int .u64 (W64 p.c)) h2
  have h4 := heap_setCell_same _ g 3 _ t (.int .u64 (W64 p.d)) h3
  rw [h4]; rfl
theorem set4_other {w : World} {g k : Nat} (p : Q4) (hk : k ≠ g) :
    ((((w.setCell ⟨g, 0, none⟩ (.int .u64 (W64 p.a))).setCell ⟨g, 1, none⟩ (.int .u64 (W64 p.b))).setCell ⟨g, 2, none⟩ (.int .u64 (W64 p.c))).setCell ⟨g, 3, none⟩ (.int .u64 (W64 p.d))).heap[k]? = w.heap[k]? := by
  rw [heap_setCell_other _ _ _ _ hk, heap_setCell_other _ _ _ _ hk, heap_setCell_other _ _ _ _ hk, heap_setCell_other _ _ _ _ hk]
theorem set4_new {W w : World} {g : Nat} (p : Q4) (hn : New W w) (hg : W.heap.size ≤ g) :
    New W ((((w.setCell ⟨g, 0, none⟩ (.int .u64 (W64 p.a))).setCell ⟨g, 1, none⟩ (.int .u64 (W64 p.b))).setCell ⟨g, 2, none⟩ (.int .u64 (W64 p.c))).setCell ⟨g, 3, none⟩ (.int .u64 (W64 p.d))) :=
  (((hn.setCell hg _).setCell hg _).setCell hg _).setCell hg _
def zs4 : Array Value := #[.int .u64 0, .int .u64 0, .int .u64 0, .int .u64 0]
theorem row4z {w : World} {g : Nat} {t : TypeId} (h : w.heap[g]? = some (.cells zs4 t (0, 0))) (i : Nat) (hi : i < 4) : w.cell? ⟨g, i, none⟩ = some (.int .u64 0) := by
  rw [cell_of_row _ _ _ _ _ _ h]
  have hc : i = 0 ∨ i = 1 ∨ i = 2 ∨ i = 3 := by omega
  rcases hc with rfl | rfl | rfl | rfl <;> rfl
theorem alloc3_2 (w : World) (A B C : Obj) : (((w.alloc A).alloc B).alloc C).heap[w.heap.size + 2]? = some C := by
  have h := heap_alloc_new ((w.alloc A).alloc B) C
  rw [show ((w.alloc A).alloc B).heap.size = w.heap.size + 2 by simp] at h
  exact h
theorem alloc3_1 (w : World) (A B C : Obj) : (((w.alloc A).alloc B).alloc C).heap[w.heap.size + 1]? = some B := by
  rw [heap_alloc_old _ _ (h := by simp)]; exact heap_alloc2_new w A B
end Go.Proofs.YtfaobdmoifnglaaGreat
