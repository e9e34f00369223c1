import Derived.Test.YthkmcnlciefnfaaGreatZ5RowQ
import Derived.Test.YthkmcnlciefnfaaGreatProg
import Derived.LoopN
import Derived.Deep.OwnRows
import Derived.OneCell
/- A row of words in a block of its own, that is written by index. -/
namespace Go.Proofs.YthkmcnlciefnfaaGreat
open Go.RowKit Go.Bv
set_option linter.unusedVariables false
def CR (w : World) (g n : Nat) (l : Nat → BitVec 64) : Prop := ∃ cs : Array Value, w.heap[g]? = some (.cells cs 22 (0, 0)) ∧ n ≤ cs.size ∧ ∀ j, j < n → cs[j]? = some (.int .u64 (W64 (l j)))
theorem CR.stay {w w' : World} {g n : Nat} {l : Nat → BitVec 64} (h : CR w g n l) (hn : New w w') : CR w' g n l := by
  obtain ⟨cs, h1, h2, h3⟩ := h
  exact ⟨cs, (hn.block _ (lt_of_block h1)).trans h1, h2, h3⟩
theorem CR.get {w : World} {g n : Nat} {l : Nat → BitVec 64} (h : CR w g n l) {v : Nat} (hv : v < n) : w.cell? ⟨g, v, none⟩ = some (.int .u64 (W64 (l v))) ∧ w.frozen? ⟨g, v, none⟩ = false := by
  obtain ⟨cs, h1, h2, h3⟩ := h
  exact ⟨(cell_of_row _ _ _ _ _ _ h1).trans (h3 v hv), frozen_of_row _ _ _ _ _ h1⟩
theorem CR.put {w : World} {g n : Nat} {l l' : Nat → BitVec 64} (h : CR w g n l) {v : Nat} (hv : v < n) (x : BitVec 64) (he : l' v = x) (ho : ∀ j, j < n → j ≠ v → l' j = l j) : CR (w.setCell ⟨g, v, none⟩ (.int .u64 (W64 x))) g n l' := by
  obtain ⟨cs, h1, h2, h3⟩ := h
  refine ⟨_, heap_setCell_same w g v cs _ (.int .u64 (W64 x)) h1, by rw [Array.size_setIfInBounds]; exact h2, fun j hj => ?_⟩
  rw [Array.getElem?_setIfInBounds]
  by_cases e : v = j
  · subst e
    rw [if_pos rfl, if_pos (by omega), he]
  · rw [if_neg e, h3 j hj, ho j hj (Ne.symm e)]
theorem CR.congr {w : World} {g n : Nat} {l l' : Nat → BitVec 64} (h : CR w g n l) (he : ∀ j, j < n → l' j = l j) : CR w g n l' := by
  obtain ⟨cs, h1, h2, h3⟩ := h
  exact ⟨cs, h1, h2, fun j hj => by rw [he j hj]; exact h3 j hj⟩
theorem CR.lt {w : World} {g n : Nat} {l : Nat → BitVec 64} (h : CR w g n l) : g < w.heap.size := by
  obtain ⟨cs, h1, _⟩ := h
  exact lt_of_block h1
theorem CR.row {w : World} {g n c : Nat} {l : Nat → BitVec 64} (h : CR w g n l) (hn : n ≤ 17592186044416) (hc : n ≤ c) (hc2 : c ≤ 9223372036854775807) : QRow w (some ⟨g, 0, none⟩) n c ((List.range n).map l) where
  len_eq := by simp
  le := hc
  most := hn
  room := hc2
  none := fun e => by cases e
  cell := fun b off e i hi => by
    cases e
    rw [Nat.zero_add, (h.get hi).1]
    simp [List.getD_eq_getElem?_getD, List.getElem?_map, List.getElem?_range hi]
  spot := fun x e _ => by cases e; rfl
  old := fun x e _ => by cases e; exact h.lt
theorem info_cr : (Tryz.prog.info? 22).map (fun i => (i.zero, i.size, i.bytes)) = some (some (.int .u64 0), 1, 8) := by kernel_rfl
end Go.Proofs.YthkmcnlciefnfaaGreat
