import Derived.Test.YthkmcnlciefnfaaGreatZ5WidA
import Derived.Test.YthkmcnlciefnfaaGreatZ5DivM
import Derived.Deep.RegionLaw
import Derived.Deep.RegionWith
import Derived.Handy
/- Numbers of 128 bits in two words: the contracts of wide once more; odd, add and Times of pcg64. · Contracts of pcg64: oneStep, on, Step, Out, Next. · Contracts of pcg64: Out, Next; the document's own Out. -/
namespace Go.Bv
open Go Go.RowKit
def hi128 (x : BitVec 128) : BitVec 64 := x.extractLsb' 64 64
def lo128 (x : BitVec 128) : BitVec 64 := x.setWidth 64
def join128 (a b : BitVec 64) : BitVec 128 := BitVec.ofNat 128 (two a b)
theorem two_x (x : BitVec 128) : two (hi128 x) (lo128 x) = x.toNat := by
  unfold two hi128 lo128
  rw [BitVec.extractLsb'_toNat, BitVec.toNat_setWidth, Nat.shiftRight_eq_div_pow]
  have := x.isLt
  omega
/-- the two words of a number in a box -/
def B2 (w : World) (b : Nat) (t : TypeId) (x : BitVec 128) : Prop := w.heap[b]? = some (.cells #[.int .u64 (W64 (hi128 x)), .int .u64 (W64 (lo128 x))] t (0, 0))
theorem B2.stay {w w' : World} {b : Nat} {t : TypeId} {x : BitVec 128} (h : B2 w b t x) (hn : New w w') : B2 w' b t x := (hn.block _ (lt_of_block h)).trans h
theorem B2.c0 {w : World} {b : Nat} {t : TypeId} {x : BitVec 128} (h : B2 w b t x) : w.cell? ⟨b, 0, none⟩ = some (.int .u64 (W64 (hi128 x))) := by rw [cell_of_row _ _ _ _ _ _ h]; rfl
theorem B2.c1 {w : World} {b : Nat} {t : TypeId} {x : BitVec 128} (h : B2 w b t x) : w.cell? ⟨b, 1, none⟩ = some (.int .u64 (W64 (lo128 x))) := by rw [cell_of_row _ _ _ _ _ _ h]; rfl
/-- a box of zeros -/
def Z2 (w : World) (b : Nat) (t : TypeId) : Prop := w.heap[b]? = some (.cells #[.int .u64 0, .int .u64 0] t (0, 0))
theorem Z2.stay {w w' : World} {b : Nat} {t : TypeId} (h : Z2 w b t) (hn : New w w') : Z2 w' b t := (hn.block _ (lt_of_block h)).trans h
theorem Z2.c0 {w : World} {b : Nat} {t : TypeId} (h : Z2 w b t) : w.cell? ⟨b, 0, none⟩ = some (.int .u64 0) := by rw [cell_of_row _ _ _ _ _ _ h]; rfl
theorem Z2.c1 {w : World} {b : Nat} {t : TypeId} (h : Z2 w b t) : w.cell? ⟨b, 1, none⟩ = some (.int .u64 0) := by rw [cell_of_row _ _ _ _ _ _ h]; rfl
/-- a number stored whole -/
theorem B2.put {w : World} {b : Nat} {t : TypeId} {u v : Value} (x : BitVec 128) (h : w.heap[b]? = some (.cells #[u, v] t (0, 0))) :
    B2 ((w.setCell ⟨b, 0, none⟩ (.int .u64 (W64 (hi128 x)))).setCell ⟨b, 1, none⟩ (.int .u64 (W64 (lo128 x)))) b t x := by
  have h1 := heap_setCell_same w b 0 _ t (.int .u64 (W64 (hi128 x))) h
  have h2 := heap_setCell_same _ b 1 _ t (.int .u64 (W64 (lo128 x))) h1
  exact h2
end Go.Bv
namespace Go.Proofs.YthkmcnlciefnfaaGreat
open Go.RowKit Go.Bv
set_option linter.unusedVariables false
set_option maxRecDepth 100000
/-- the factor of pcg64 -/
def T14 : BitVec 128 := 0x2360ed051fc65da44385df649fccf645#128
end Go.Proofs.YthkmcnlciefnfaaGreat
namespace Go.Bv
open Go Go.RowKit
/-- the two numbers of an effect, in a box -/
def E4 (w : World) (b : Nat) (t : TypeId) (m p : BitVec 128) : Prop := w.heap[b]? = some (.cells #[.int .u64 (W64 (hi128 m)), .int .u64 (W64 (lo128 m)), .int .u64 (W64 (hi128 p)), .int .u64 (W64 (lo128 p))] t (0, 0))
def E4z (w : World) (b : Nat) (t : TypeId) : Prop := w.heap[b]? = some (.cells #[.int .u64 0, .int .u64 0, .int .u64 0, .int .u64 0] t (0, 0))
theorem E4z.stay {w w' : World} {b : Nat} {t : TypeId} (h : E4z w b t) (hn : New w w') : E4z w' b t := (hn.block _ (lt_of_block h)).trans h
theorem E4z.c {w : World} {b : Nat} {t : TypeId} (h : E4z w b t) (i : Nat) (hi : i < 4) : w.cell? ⟨b, i, none⟩ = some (.int .u64 0) := by
  rw [cell_of_row _ _ _ _ _ _ h]
  have hc : i = 0 ∨ i = 1 ∨ i = 2 ∨ i = 3 := by omega
  rcases hc with rfl | rfl | rfl | rfl <;> rfl
theorem E4.stay {w w' : World} {b : Nat} {t : TypeId} {m p : BitVec 128} (h : E4 w b t m p) (hn : New w w') : E4 w' b t m p := (hn.block _ (lt_of_block h)).trans h
theorem E4.c0 {w : World} {b : Nat} {t : TypeId} {m p : BitVec 128} (h : E4 w b t m p) : w.cell? ⟨b, 0, none⟩ = some (.int .u64 (W64 (hi128 m))) := by rw [cell_of_row _ _ _ _ _ _ h]; rfl
theorem E4.c1 {w : World} {b : Nat} {t : TypeId} {m p : BitVec 128} (h : E4 w b t m p) : w.cell? ⟨b, 1, none⟩ = some (.int .u64 (W64 (lo128 m))) := by rw [cell_of_row _ _ _ _ _ _ h]; rfl
theorem E4.c2 {w : World} {b : Nat} {t : TypeId} {m p : BitVec 128} (h : E4 w b t m p) : w.cell? ⟨b, 2, none⟩ = some (.int .u64 (W64 (hi128 p))) := by rw [cell_of_row _ _ _ _ _ _ h]; rfl
theorem E4.c3 {w : World} {b : Nat} {t : TypeId} {m p : BitVec 128} (h : E4 w b t m p) : w.cell? ⟨b, 3, none⟩ = some (.int .u64 (W64 (lo128 p))) := by rw [cell_of_row _ _ _ _ _ _ h]; rfl
/-- an effect stored whole -/
theorem E4.put {w : World} {b : Nat} {t : TypeId} {x y u v : Value} (m p : BitVec 128) (h : w.heap[b]? = some (.cells #[x, y, u, v] t (0, 0))) :
    E4 ((((w.setCell ⟨b, 0, none⟩ (.int .u64 (W64 (hi128 m)))).setCell ⟨b, 1, none⟩ (.int .u64 (W64 (lo128 m)))).setCell ⟨b, 2, none⟩ (.int .u64 (W64 (hi128 p)))).setCell ⟨b, 3, none⟩ (.int .u64 (W64 (lo128 p)))) b t m p := by
  have h1 := heap_setCell_same w b 0 _ t (.int .u64 (W64 (hi128 m))) h
  have h2 := heap_setCell_same _ b 1 _ t (.int .u64 (W64 (lo128 m))) h1
  have h3 := heap_setCell_same _ b 2 _ t (.int .u64 (W64 (hi128 p))) h2
  have h4 := heap_setCell_same _ b 3 _ t (.int .u64 (W64 (lo128 p))) h3
  exact h4
end Go.Bv
namespace Go.Proofs.YthkmcnlciefnfaaGreat
open Go.RowKit Go.Bv
set_option linter.unusedVariables false
set_option maxRecDepth 100000
end Go.Proofs.YthkmcnlciefnfaaGreat
namespace Go.Proofs.YthkmcnlciefnfaaGreat
open Go.RowKit Go.Bv
set_option linter.unusedVariables false
set_option maxRecDepth 100000
/-- what pcg64 tells of a state -/
def out14 (s : BitVec 128) : BitVec 64 := (hi128 s ^^^ lo128 s).rotateLeft ((64 - (hi128 s).toNat / 2 ^ 58) % 64)
end Go.Proofs.YthkmcnlciefnfaaGreat
