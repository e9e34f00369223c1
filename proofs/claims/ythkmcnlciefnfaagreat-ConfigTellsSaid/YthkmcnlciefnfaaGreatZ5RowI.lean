import Derived.Test.YthkmcnlciefnfaaGreatZ5RowQ
/- Plain lemmas: slices of integers of 64 bits with a sign that are read: their numbers as a list. -/
namespace Go.Bv
open Go Go.RowKit
def In64 (n : Int) : Prop := -9223372036854775808 ≤ n ∧ n ≤ 9223372036854775807
/-- a slice of integers that reads as l in the world w: its address, its length, its capacity -/
structure ZRow (w : World) (a : Option Addr) (len cap : Nat) (l : List Int) : Prop where
  len_eq : l.length = len
  le : len ≤ cap
  most : len ≤ 17592186044416
  room : cap ≤ 9223372036854775807
  none : a = none → len = 0 ∧ cap = 0
  cell : ∀ b off, a = some ⟨b, off, Option.none⟩ → ∀ i, i < len → w.cell? ⟨b, off + i, Option.none⟩ = some (.int .i64 (l.getD i 0))
  spot : ∀ x, a = some x → 0 < len → x.spot = Option.none
  old : ∀ x, a = some x → 0 < len → x.block < w.heap.size
  wf : ∀ n ∈ l, In64 n
theorem ZRow.at {w : World} {a : Option Addr} {len cap : Nat} {l : List Int} (h : ZRow w a len cap l) (i : Nat) : In64 (l.getD i 0) := by
  rw [List.getD_eq_getElem?_getD]
  rcases Nat.lt_or_ge i l.length with h2 | h2
  · rw [List.getElem?_eq_getElem h2]; exact h.wf _ (List.getElem_mem h2)
  · rw [List.getElem?_eq_none h2]; exact ⟨by decide, by decide⟩
theorem ZRow.stay {w w' : World} {a : Option Addr} {len cap : Nat} {l : List Int} (h : ZRow w a len cap l) (hn : New w w') : ZRow w' a len cap l where
  len_eq := h.len_eq
  le := h.le
  most := h.most
  room := h.room
  none := h.none
  cell := fun b off e i hi => by
    have hb := h.old _ e (by omega)
    rw [hn.cell (a := ⟨b, off + i, Option.none⟩) hb]; exact h.cell b off e i hi
  spot := h.spot
  old := fun x e h0 => Nat.lt_of_lt_of_le (h.old x e h0) hn.le
  wf := h.wf
theorem ZRow.addr {w : World} {a : Option Addr} {len cap : Nat} {l : List Int} (h : ZRow w a len cap l) (h0 : 0 < len) :
    ∃ b off, a = some ⟨b, off, Option.none⟩ ∧ ∀ i, i < len → w.cell? ⟨b, off + i, Option.none⟩ = some (.int .i64 (l.getD i 0)) := by
  cases a with
  | none => have := (h.none rfl).1; omega
  | some x =>
    obtain ⟨b, off, sp⟩ := x
    have hs := h.spot _ rfl h0
    obtain rfl : sp = Option.none := hs
    exact ⟨b, off, rfl, h.cell b off rfl⟩
theorem ZRow.of_owns {w : World} {base : Nat} {e : TypeId} {v : Value} {n : Nat} {l : List Int} (h : w.ownsRow base e 1 v n (l.map fun x => .int .i64 x)) (hn : n ≤ 17592186044416) (hw : ∀ n ∈ l, In64 n) :
    ∃ a cap, v = .slice a n cap ∧ ZRow w a n cap l := by
  obtain ⟨hl, h⟩ := h
  rw [List.length_map, Nat.mul_one] at hl
  rcases h with ⟨rfl, rfl⟩ | ⟨g, cap, cur, rfl, _, hc, hle, hm, hs, ht⟩
  · exact ⟨Option.none, 0, rfl, ⟨hl, Nat.le_refl _, by omega, by omega, fun _ => ⟨rfl, rfl⟩, (fun _ _ e => by cases e), (fun _ e => by cases e), (fun _ e => by cases e), hw⟩⟩
  · have hcell : ∀ i, i < n → w.cell? ⟨g, 0 + i, Option.none⟩ = some (.int .i64 (l.getD i 0)) := by
      intro i hi
      rw [Nat.zero_add]
      have hi2 : i < l.length := by omega
      have e1 : (cur.toList.take (n * 1))[i]? = some (.int .i64 (l.getD i 0)) := by
        rw [ht, List.getElem?_map, List.getD_eq_getElem?_getD, List.getElem?_eq_getElem hi2]; rfl
      rw [List.getElem?_take, if_pos (by omega)] at e1
      unfold World.cell?
      simp only [hc]
      simpa using e1
    refine ⟨some ⟨g, 0, Option.none⟩, cap, rfl, ⟨hl, hle, hn, hm, (fun e => by cases e), ?_, ?_, ?_, hw⟩⟩
    · intro b off e i hi; cases e; exact hcell i hi
    · intro x e _; cases e; rfl
    · intro x e h0; cases e; exact cell_block (hcell 0 h0)
theorem ZRow.olds {w : World} {a : Option Addr} {len cap : Nat} {l : List Int} (h : ZRow w a len cap l) :
    ∀ b, a = some b → ∀ j u, (l.map fun x => Value.int .i64 x)[j]? = some u → w.cell? (b.add j) = some u := by
  intro b e j u hj
  rw [List.getElem?_map] at hj
  have hjl : j < l.length := by
    rcases Nat.lt_or_ge j l.length with h2 | h2
    · exact h2
    · rw [List.getElem?_eq_none h2] at hj; simp at hj
  have hj2 : j < len := by rw [← h.len_eq]; exact hjl
  obtain ⟨b', off, sp⟩ := b
  obtain rfl : sp = Option.none := h.spot _ e (by omega)
  rw [add_plain, h.cell b' off e j hj2, List.getD_eq_getElem?_getD, List.getElem?_eq_getElem hjl]
  rw [List.getElem?_eq_getElem hjl] at hj
  simpa using hj
theorem ZRow.slice {w : World} {b off len cap : Nat} {l : List Int} (h : ZRow w (some ⟨b, off, Option.none⟩) len cap l) (i n : Nat) (c : Nat) (hi : i + n ≤ len) (hc : n ≤ c) (hcc : c ≤ 9223372036854775807) :
    ZRow w (some ⟨b, off + i, Option.none⟩) n c ((l.drop i).take n) where
  len_eq := by have := h.len_eq; simp; omega
  le := hc
  most := by have := h.most; omega
  room := hcc
  none := (fun e => by cases e)
  cell := by
    intro b' off' e j hj
    cases e
    rw [Nat.add_assoc, h.cell b off rfl (i + j) (by omega)]
    rw [List.getD_eq_getElem?_getD, List.getD_eq_getElem?_getD, List.getElem?_take, if_pos hj, List.getElem?_drop]
  spot := by intro x e _; cases e; rfl
  old := by
    intro x e h0; cases e
    exact h.old ⟨b, off, Option.none⟩ rfl (by omega)
  wf := fun n hn => h.wf n (List.mem_of_mem_drop (List.mem_of_mem_take hn))
theorem QRow.slice {w : World} {b off len cap : Nat} {l : List (BitVec 64)} (h : QRow w (some ⟨b, off, Option.none⟩) len cap l) (i n : Nat) (c : Nat) (hi : i + n ≤ len) (hc : n ≤ c) (hcc : c ≤ 9223372036854775807) :
    QRow w (some ⟨b, off + i, Option.none⟩) n c ((l.drop i).take n) where
  len_eq := by have := h.len_eq; simp; omega
  le := hc
  most := by have := h.most; omega
  room := hcc
  none := (fun e => by cases e)
  cell := by
    intro b' off' e j hj
    cases e
    rw [Nat.add_assoc, h.cell b off rfl (i + j) (by omega)]
    rw [List.getD_eq_getElem?_getD, List.getD_eq_getElem?_getD, List.getElem?_take, if_pos hj, List.getElem?_drop]
  spot := by intro x e _; cases e; rfl
  old := by
    intro x e h0; cases e
    exact h.old ⟨b, off, Option.none⟩ rfl (by omega)
end Go.Bv
