/- Contract of layer 28: the document's own Pieces: a row of slices whose bytes, one behind the other, are all of them. -/
import Derived.Test.YtjmnhooenampkaaGreatDoorCat
import Derived.Test.YtjmnhooenampkaaGreatDoorBlkM
import Derived.Test.YtjmnhooenampkaaGreatDoorRowI
namespace Go.Bv
open Go Go.RowKit
/-- a piece: a slice, and its bytes -/
structure Pc where
  a : Option Addr
  n : Nat
  c : Nat
  l : List (BitVec 8)
def Pc.v (p : Pc) : Value := .slice p.a p.n p.c
def Pc.ok (w : World) (p : Pc) : Prop := BRow w p.a p.n p.c p.l
theorem row_front {w : World} {a : Option Addr} {n c j : Nat} {m : List (BitVec 8)} (h : BRow w a n c m) (hj : j ≤ n) : BRow w a j c (m.take j) where
  len_eq := by have := h.len_eq; simp; omega
  le := Nat.le_trans hj h.le
  most := Nat.le_trans hj h.most
  room := h.room
  none := fun e => ⟨by have := (h.none e).1; omega, (h.none e).2⟩
  cell := fun b off e i hi => by
    rw [h.cell b off e i (by omega)]
    simp [List.getD_eq_getElem?_getD, hi]
  spot := fun x e h0 => h.spot x e (by omega)
  old := fun x e h0 => h.old x e (by omega)
theorem row_end' {w : World} {a : Option Addr} {n c j : Nat} {l : List (BitVec 8)} (h : BRow w a n c l) (hn : n = j) (hc : c = j) : BRow w a 0 0 (l.drop j) := by
  subst hn; subst hc; exact row_end h
theorem pcs_step (w : World) (ps : List Pc) (q : Pc) (m : List (BitVec 8)) (j : Nat) (l : List (BitVec 8)) (hq : q.l = m.take j) (hr : Pc.ok w q) (hall : ∀ p ∈ ps, Pc.ok w p) (hfl : (ps.map Pc.l).flatten ++ m = l) :
    (∀ p ∈ ps ++ [q], Pc.ok w p) ∧ ((ps ++ [q]).map Pc.l).flatten ++ m.drop j = l := by
  refine ⟨fun p hp => ?_, ?_⟩
  · rcases List.mem_append.1 hp with h | h
    · exact hall p h
    · simp at h; subst h; exact hr
  · rw [List.map_append, List.flatten_append, List.append_assoc]
    simp only [List.map_cons, List.map_nil, List.flatten_cons, List.flatten_nil, List.append_nil]
    rw [hq, List.take_append_drop]; exact hfl
end Go.Bv
namespace Go.Proofs.YtjmnhooenampkaaGreatDoor
open Go.RowKit Go.Bv
set_option linter.unusedVariables false
theorem info_row : (Tryz.prog.info? 22).map (fun i => (i.zero, i.size, i.bytes)) = some (some (.slice none 0 0), 1, 24) := by kernel_rfl
theorem World.alloc_size (w : World) (o : Obj) : (w.alloc o).heap.size = w.heap.size + 1 := by simp
end Go.Proofs.YtjmnhooenampkaaGreatDoor
