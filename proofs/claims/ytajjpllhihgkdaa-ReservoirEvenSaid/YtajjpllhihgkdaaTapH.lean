/- What a tape does not touch; what does not touch a tape. -/
import Derived.Test.YtajjpllhihgkdaaTapD
namespace Go.Bv
open Go Go.RowKit
theorem But2.step {b g0 g : Nat} {w u v : World} (h : But2 b g0 w u) (hg : g = g0 ∨ w.heap.size ≤ g) (k : But2 b g u v) : But2 b g0 w v where
  size := Nat.le_trans h.size k.size
  block := fun i hi hb hg0 => (k.block i (Nat.lt_of_lt_of_le hi h.size) hb (by rcases hg with e | e <;> omega)).trans (h.block i hi hb hg0)
  new := fun W h2 hb hg0 => k.new W (h.new W h2 hb hg0) hb (by have := h2.le; rcases hg with e | e <;> omega)
theorem But2.fresh {b g : Nat} {w v : World} (h : But2 b g w v) {p : Addr} (hp : w.heap.size ≤ p.block) (x : Value) : But2 b g w (v.setCell p x) where
  size := by rw [show (v.setCell p x).heap.size = v.heap.size by simp [World.setCell]]; exact h.size
  block := fun i hi hb hg => (Below.heap_setCell v p x i (by omega)).trans (h.block i hi hb hg)
  new := fun W h2 hb hg => (h.new W h2 hb hg).setCell (by have := h2.le; omega) _
end Go.Bv
namespace Go.Proofs.Ytajjpllhihgkdaa
open Go.RowKit Go.Bv
theorem Tape.lt {w : World} {b g : Nat} {l : List (BitVec 64)} {k : Nat} (h : Tape w b g l k) : b < w.heap.size ∧ g < w.heap.size := by
  obtain ⟨c, v, a, cap, h⟩ := h
  refine ⟨lt_of_block h.box, ?_⟩
  cases hv : v.ownBlock with
  | none => rw [h.nil hv]; exact lt_of_block h.box
  | some g' => rw [← (h.own g' hv).1]; exact (h.taken.lt g' hv).2
/-- what lies in a block above the tape's box, and not in that of its taken words, does not touch it -/
theorem Tape.put {w : World} {b g : Nat} {l : List (BitVec 64)} {k r : Nat} (h : Tape w b g l k) (hr : b < r) (hg : r ≠ g) (i : Nat) (x : Value) : Tape (w.setCell ⟨r, i, none⟩ x) b g l k := by
  obtain ⟨c, v, a, cap, h⟩ := h
  have ho : ∀ j, j ≠ r → (w.setCell ⟨r, i, none⟩ x).heap[j]? = w.heap[j]? := fun j hj => heap_setCell_other _ _ _ _ hj
  refine ⟨c, v, a, cap, (ho b (by omega)).trans h.box, (ho c (by have := h.low.1; omega)).trans h.cell, h.cb, QRow.held h.words (by rw [size_set]; omega) (fun y e h0 => ho _ (by have := h.low.2 y e h0; omega)), h.wb, h.le, own_words h.taken _ (fun g' e => ho _ (by have := (h.own g' e).1; omega)), h.own, h.nil, h.low⟩
end Go.Proofs.Ytajjpllhihgkdaa
