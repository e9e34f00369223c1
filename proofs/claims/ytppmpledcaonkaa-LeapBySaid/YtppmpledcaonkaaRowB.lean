/- Plain lemmas: slices of bools that are read, as a list. -/
import Derived.Test.YtppmpledcaonkaaRowQ
namespace Go.Bv
open Go Go.RowKit
set_option linter.unusedVariables false
/-- a slice of bools that reads as l in the world w: its address, its length, its capacity -/
structure LRow (w : World) (a : Option Addr) (len cap : Nat) (l : List Bool) : Prop where
  len_eq : l.length = len
  le : len ≤ cap
  most : len ≤ 17592186044416
  room : cap ≤ 9223372036854775807
  none : a = none → len = 0 ∧ cap = 0
  cell : ∀ b off, a = some ⟨b, off, Option.none⟩ → ∀ i, i < len → w.cell? ⟨b, off + i, Option.none⟩ = some (.bool (l.getD i false))
  spot : ∀ x, a = some x → 0 < len → x.spot = Option.none
  old : ∀ x, a = some x → 0 < len → x.block < w.heap.size
theorem LRow.stay {w w' : World} {a : Option Addr} {len cap : Nat} {l : List Bool} (h : LRow w a len cap l) (hn : New w w') : LRow w' a len cap l where
  len_eq := h.len_eq
  le := h.le
  most := h.most
  room := h.room
  none := h.none
  cell := fun b off e i hi => by
    have hb := h.old _ e (by omega)
    rw [hn.cell (a := ⟨b, off + i, Option.none⟩) hb]; exact h.cell b off e i hi
  spot := h.spot
  old := fun x e h0 => Nat.lt_of_lt_of_le (h.old x e h0) hn.le
/-- a slice with elements has an address -/
theorem LRow.addr {w : World} {a : Option Addr} {len cap : Nat} {l : List Bool} (h : LRow w a len cap l) (h0 : 0 < len) :
    ∃ b off, a = some ⟨b, off, Option.none⟩ ∧ ∀ i, i < len → w.cell? ⟨b, off + i, Option.none⟩ = some (.bool (l.getD i false)) := by
  cases a with
  | none => have := (h.none rfl).1; omega
  | some x =>
    obtain ⟨b, off, sp⟩ := x
    have hs := h.spot _ rfl h0
    obtain rfl : sp = Option.none := hs
    exact ⟨b, off, rfl, h.cell b off rfl⟩
/-- what append leaves reads as a list of bools -/
theorem LRow.of_owns {w : World} {base : Nat} {e : TypeId} {v : Value} {n : Nat} {l : List Bool} (h : w.ownsRow base e 1 v n (l.map fun x => .bool x)) (hn : n ≤ 17592186044416) :
    ∃ a cap, v = .slice a n cap ∧ LRow w a n cap l := by
  obtain ⟨hl, h⟩ := h
  rw [List.length_map, Nat.mul_one] at hl
  rcases h with ⟨rfl, rfl⟩ | ⟨g, cap, cur, rfl, _, hc, hle, hm, hs, ht⟩
  · exact ⟨Option.none, 0, rfl, ⟨hl, Nat.le_refl _, by omega, by omega, fun _ => ⟨rfl, rfl⟩, (fun _ _ e => by cases e), (fun _ e => by cases e), (fun _ e => by cases e)⟩⟩
  · have hcell : ∀ i, i < n → w.cell? ⟨g, 0 + i, Option.none⟩ = some (.bool (l.getD i false)) := by
      intro i hi
      rw [Nat.zero_add]
      have hi2 : i < l.length := by omega
      have e1 : (cur.toList.take (n * 1))[i]? = some (.bool (l.getD i false)) := by
        rw [ht, List.getElem?_map, List.getD_eq_getElem?_getD, List.getElem?_eq_getElem hi2]; rfl
      rw [List.getElem?_take, if_pos (by omega)] at e1
      unfold World.cell?
      simp only [hc]
      simpa using e1
    refine ⟨some ⟨g, 0, Option.none⟩, cap, rfl, ⟨hl, hle, hn, hm, (fun e => by cases e), ?_, ?_, ?_⟩⟩
    · intro b off e i hi; cases e; exact hcell i hi
    · intro x e _; cases e; rfl
    · intro x e h0; cases e; exact cell_block (hcell 0 h0)
/-- the cells of a slice of bools, as append's law asks for them -/
theorem LRow.olds {w : World} {a : Option Addr} {len cap : Nat} {l : List Bool} (h : LRow w a len cap l) :
    ∀ b, a = some b → ∀ j u, (l.map fun x => Value.bool x)[j]? = some u → w.cell? (b.add j) = some u := by
  intro b e j u hj
  rw [List.getElem?_map] at hj
  have hjl : j < l.length := by
    rcases Nat.lt_or_ge j l.length with h2 | h2
    · exact h2
    · rw [List.getElem?_eq_none h2] at hj; simp at hj
  have hj2 : j < len := by rw [← h.len_eq]; exact hjl
  obtain ⟨b', off, sp⟩ := b
  obtain rfl : sp = Option.none := h.spot _ e (by omega)
  rw [add_plain, h.cell b' off e j hj2, List.getD_eq_getElem?_getD, List.getElem?_eq_getElem hjl]
  rw [List.getElem?_eq_getElem hjl] at hj
  simpa using hj
end Go.Bv
