/- States of two words in boxes. -/
import Derived.Test.YtfaobdmoifnglaaGreatYoC
namespace Go.Proofs.YtfaobdmoifnglaaGreat
open Go.RowKit Go.Bv
set_option linter.unusedVariables false
def zr2 (q : Q2) : Bool := q.a == 0#64 && q.b == 0#64
def z2 : Q2 := ⟨0#64, 0#64⟩
theorem zr2_iff (q : Q2) : zr2 q = true ↔ q = z2 := by
  obtain ⟨a, b⟩ := q
  simp [zr2, z2]
def cs2 (q : Q2) : Array Value := #[.int .u64 (W64 q.a), .int .u64 (W64 q.b)]
def zs2 : Array Value := #[.int .u64 0, .int .u64 0]
def C2 (w : World) (b : Nat) (q : Q2) : Prop := w.cell? ⟨b, 0, none⟩ = some (.int .u64 (W64 q.a)) ∧ w.cell? ⟨b, 1, none⟩ = some (.int .u64 (W64 q.b))
theorem C2.stay {w w' : World} {b : Nat} {q : Q2} (h : C2 w b q) (hn : New w w') : C2 w' b q := by
  have hb := World.block_lt_of_cell? w _ h.1
  unfold C2
  rw [hn.cell (a := ⟨b, 0, none⟩) hb, hn.cell (a := ⟨b, 1, none⟩) hb]
  exact h
theorem c2_new (w : World) (t : TypeId) (q : Q2) : C2 (w.alloc (.cells (cs2 q) t)) w.heap.size q := by
  unfold C2
  refine ⟨?_, ?_⟩ <;> (rw [World.cell?_alloc_new]; rfl)
theorem row2 {w : World} {g : Nat} {t : TypeId} {q : Q2} (h : w.heap[g]? = some (.cells (cs2 q) t (0, 0))) : C2 w g q := by
  unfold C2
  rw [cell_of_row _ _ _ _ _ _ h, cell_of_row _ _ _ _ _ _ h]
  exact ⟨rfl, rfl⟩
theorem row2z {w : World} {g : Nat} {t : TypeId} (h : w.heap[g]? = some (.cells zs2 t (0, 0))) (i : Nat) (hi : i < 2) : w.cell? ⟨g, i, none⟩ = some (.int .u64 0) := by
  rw [cell_of_row _ _ _ _ _ _ h]
  have hc : i = 0 ∨ i = 1 := by omega
  rcases hc with rfl | rfl <;> rfl
theorem set2 {w : World} {g : Nat} {t : TypeId} {q : Q2} (p : Q2) (h : w.heap[g]? = some (.cells (cs2 q) t (0, 0))) :
    ((w.setCell ⟨g, 0, none⟩ (.int .u64 (W64 p.a))).setCell ⟨g, 1, none⟩ (.int .u64 (W64 p.b))).heap[g]? = some (.cells (cs2 p) t (0, 0)) := by
  have h1 := heap_setCell_same w g 0 _ t (.int .u64 (W64 p.a)) h
  have h2 := heap_setCell_same _ g 1 _ t (.int .u64 (W64 p.b)) h1
  rw [h2]; rfl
theorem set2_other {w : World} {g k : Nat} (p : Q2) (hk : k ≠ g) :
    ((w.setCell ⟨g, 0, none⟩ (.int .u64 (W64 p.a))).setCell ⟨g, 1, none⟩ (.int .u64 (W64 p.b))).heap[k]? = w.heap[k]? := by
  rw [heap_setCell_other _ _ _ _ hk, heap_setCell_other _ _ _ _ hk]
theorem set2_new {W w : World} {g : Nat} (p : Q2) (hn : New W w) (hg : W.heap.size ≤ g) :
    New W ((w.setCell ⟨g, 0, none⟩ (.int .u64 (W64 p.a))).setCell ⟨g, 1, none⟩ (.int .u64 (W64 p.b))) := (hn.setCell hg _).setCell hg _
end Go.Proofs.YtfaobdmoifnglaaGreat
