/- shuffle.Take. -/
import Derived.Test.YtaajphopnmdmcaaDrwB
import Derived.Maps.AppendAt
namespace Go.Bv
open Go Go.RowKit
theorem But2.more {b g : Nat} {w u v : World} (h : But2 b g w u) {row : Option Nat} (k : u.grownBy v row) (hr : ∀ x, row = some x → w.heap.size ≤ x) : But2 b g w v where
  size := Nat.le_trans h.size k.size
  block := fun i hi hb hg => (k.block i (Nat.lt_of_lt_of_le hi h.size) (fun e => by have := hr i e.symm; omega)).trans (h.block i hi hb hg)
  new := fun W h2 hb hg => (h.new W h2 hb hg).grown' k (fun x e => by have := hr x e; have := h2.le; omega)
end Go.Bv
namespace Go.Proofs.Ytaajphopnmdmcaa
open Go Go.RowKit Go.Bv
set_option linter.unusedVariables false
theorem Tape.more {w v : World} {b g : Nat} {l : List (BitVec 64)} {k : Nat} (h : Tape w b g l k) {row : Option Nat} (hg : w.grownBy v row) (hr : ∀ x, row = some x → b < x ∧ x ≠ g) : Tape v b g l k := by
  have hlt := h.lt
  obtain ⟨c, vv, a, cap, h⟩ := h
  have ho : ∀ j, j < w.heap.size → (j ≤ b ∨ j = g) → v.heap[j]? = w.heap[j]? := fun j hj hjb => hg.block j hj (fun e => by
    have := hr j e.symm
    rcases hjb with e2 | e2 <;> omega)
  refine ⟨c, vv, a, cap, (ho b hlt.1 (.inl (Nat.le_refl _))).trans h.box, (ho c (lt_of_block h.cell) (.inl (by have := h.low.1; omega))).trans h.cell, h.cb, QRow.held h.words hg.size (fun y e h0 => ho _ (h.words.old y e h0) (.inl (by have := h.low.2 y e h0; omega))), h.wb, h.le, own_words h.taken _ (fun g' e => ho _ (h.taken.lt g' e).2 (.inr (h.own g' e).1)), h.own, h.nil, h.low⟩
theorem cdF_step {n r : Nat} {ds : List Drw} {d : Drw} (hr : n - 1 - ds.length = r) (hl : ds.length < n - 1) : liI (cdF n (ds ++ [d])) n = (liI (cdF n ds) n).set r ((d.1.toNat : Nat) : Int) := by
  rw [liI_set _ _ (by omega)]
  apply liI_ext
  intro x hx
  unfold cdF
  rw [List.length_append]
  by_cases e : x = r
  · subst e
    rw [if_pos rfl, if_pos (by simp; omega), List.getD_eq_getElem?_getD, List.getElem?_append_right (by omega), show n - 1 - x - ds.length = 0 by omega]
    rfl
  · rw [if_neg e]
    by_cases e2 : n - 1 - x < ds.length
    · rw [if_pos e2, if_pos (by omega), List.getD_eq_getElem?_getD, List.getElem?_append_left e2, ← List.getD_eq_getElem?_getD]
    · rw [if_neg e2, if_neg (by simp; omega)]
theorem cdF_zero (n : Nat) : liI (cdF n []) n = liI (fun _ => 0) n := liI_ext (fun x _ => by unfold cdF; rw [if_neg (by simp)])
end Go.Proofs.Ytaajphopnmdmcaa
