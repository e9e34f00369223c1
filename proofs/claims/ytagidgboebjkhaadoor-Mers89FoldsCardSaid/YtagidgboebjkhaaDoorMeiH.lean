/- Contracts of the document's own Add, Mul and Pow modulo the prime of 89 bits. -/
import Derived.Test.YtagidgboebjkhaaDoorMeiG
import Derived.Test.YtagidgboebjkhaaDoorGrow
namespace Go.Proofs.YtagidgboebjkhaaDoor
open Go.RowKit Go.Bv
set_option linter.unusedVariables false
/-- a fresh row of bits -/
def BV (n : Nat) (v : Value) : Prop := ∃ a c, v = .slice a n c
def BR (N n : Nat) (v : Value) (w : World) : Prop := ∀ a c, v = .slice a n c → ZRow w a n c (bitsOf N n)
theorem BV.some (n : Nat) : ∃ v, BV n v := ⟨.slice none n 0, none, 0, rfl⟩
theorem BR.mk {a : Option Addr} {n c N : Nat} {w : World} (h : ZRow w a n c (bitsOf N n)) : BV n (.slice a n c) ∧ BR N n (.slice a n c) w :=
  ⟨⟨a, c, rfl⟩, fun a' c' e => by cases e; exact h⟩
theorem BR.stay {N n : Nat} {v : Value} {w w' : World} (h : BR N n v w) (hn : New w w') : BR N n v w' := fun a c e => (h a c e).stay hn
theorem BR.row {N n : Nat} {a : Option Addr} {c : Nat} {w : World} (h : BR N n (.slice a n c) w) : ZRow w a n c (bitsOf N n) := h a c rfl
/-- a fresh row of bits, and a carry -/
def CV (n : Nat) (v : Value) : Prop := ∃ a c k, v = .tuple #[.slice a n c, .int .i64 k]
def CR (N n : Nat) (v : Value) (w : World) : Prop := ∀ a c k, v = .tuple #[.slice a n c, .int .i64 k] → ZRow w a n c (bitsOf N n)
theorem CV.some (n : Nat) : ∃ v, CV n v := ⟨_, none, 0, 0, rfl⟩
theorem CR.mk {a : Option Addr} {n c N : Nat} {k : Int} {w : World} (h : ZRow w a n c (bitsOf N n)) : CV n (.tuple #[.slice a n c, .int .i64 k]) ∧ CR N n (.tuple #[.slice a n c, .int .i64 k]) w :=
  ⟨⟨a, c, k, rfl⟩, fun a' c' k' e => by cases e; exact h⟩
theorem CR.stay {N n : Nat} {v : Value} {w w' : World} (h : CR N n v w) (hn : New w w') : CR N n v w' := fun a c k e => (h a c k e).stay hn
theorem CR.row {N n : Nat} {a : Option Addr} {c : Nat} {k : Int} {w : World} (h : CR N n (.tuple #[.slice a n c, .int .i64 k]) w) : ZRow w a n c (bitsOf N n) := h a c k rfl
theorem of2_g (x : BitVec 128) (w : World) : Calls Tryd.prog 5 #[.agg #[.int .u64 (W64 (hi128 x)), .int .u64 (W64 (lo128 x))]] w fun e w' => ∃ v, e = .returned v ∧ (BV 128 v ∧ BR x.toNat 128 v w') ∧ New w w' := by
  refine (of2_n x w).mono ?_
  rintro e w' ⟨v, rfl, hown, hn⟩
  obtain ⟨a, c, rfl, hz⟩ := bits_row hown (by omega)
  exact ⟨_, rfl, BR.mk hz, hn⟩
/-- a box that holds two of whatever -/
def Any2 (w : World) (b : Nat) (t : TypeId) : Prop := ∃ u v, w.heap[b]? = some (.cells #[u, v] t (0, 0))
theorem Any2.stay {w w' : World} {b : Nat} {t : TypeId} (h : Any2 w b t) (hn : New w w') : Any2 w' b t := by
  obtain ⟨u, v, e⟩ := h
  exact ⟨u, v, (hn.block _ (lt_of_block e)).trans e⟩
theorem Any2.cells {w : World} {b : Nat} {t : TypeId} (h : Any2 w b t) : ∃ u v, w.cell? ⟨b, 0, none⟩ = some u ∧ w.cell? ⟨b, 1, none⟩ = some v := by
  obtain ⟨u, v, e⟩ := h
  exact ⟨u, v, by rw [cell_of_row _ _ _ _ _ _ e]; rfl, by rw [cell_of_row _ _ _ _ _ _ e]; rfl⟩
theorem Any2.free {w : World} {b : Nat} {t : TypeId} (h : Any2 w b t) (i : Nat) : w.frozen? ⟨b, i, none⟩ = false := by
  obtain ⟨u, v, e⟩ := h
  exact frozen_of_row _ _ _ _ _ e
end Go.Proofs.YtagidgboebjkhaaDoor
