import Derived.Test.YthkmcnlciefnfaaGreatZ5New
import Derived.Lib.ItoaNum
import Derived.Test.YthkmcnlciefnfaaGreatProg
import Derived.Test.YthkmcnlciefnfaaGreatShelf
import Derived.Deep.QuietTactic
import Derived.BigQuiet
import Derived.Test.YthkmcnlciefnfaaGreatZ5Rot
import Derived.Test.YthkmcnlciefnfaaGreatZ5Frame
import Derived.Lib.TrailingZeros
section
/- Plain lemmas: long division of a number of two words by a word, digit by digit. No program in sight. -/
namespace Go.Bv
open Go Go.RowKit
set_option linter.unusedVariables false
set_option maxRecDepth 100000
/-- the number of two words -/
def two (hi lo : BitVec 64) : Nat := hi.toNat * 18446744073709551616 + lo.toNat
def divQ (hi lo y : BitVec 64) : BitVec 64 := BitVec.ofNat 64 (two hi lo / y.toNat)
def divR (hi lo y : BitVec 64) : BitVec 64 := BitVec.ofNat 64 (two hi lo % y.toNat)
/-- what is guessed of a digit: not too little, with what is left by the divisor's upper half -/
structure Guess (u d yn q r : Nat) : Prop where
  ge : (u * 4294967296 + d) / yn ≤ q
  sum : q * (yn / 4294967296) + r = u
  le : q ≤ 4294967297
  small : r < 4294967296
structure Digit (u d yn : Nat) : Prop where
  top : 9223372036854775808 ≤ yn
  lt : yn < 18446744073709551616
  rest : u < yn
  low : d < 4294967296
theorem quo_any (x y : BitVec 64) : (W64 x).tdiv (W64 y) = W64 (x / y) := by
  unfold W64; rw [Int.tdiv_eq_ediv_of_nonneg (by omega), BitVec.toNat_udiv]; exact (Int.natCast_ediv _ _).symm
theorem rem_any (x y : BitVec 64) : (W64 x).tmod (W64 y) = W64 (x % y) := by
  unfold W64; rw [Int.tmod_eq_emod_of_nonneg (by omega), BitVec.toNat_umod]; exact (Int.natCast_emod _ _).symm
attribute [go_sem] quo_any rem_any
end Go.Bv
end
section
/- The contract of math/bits.Div64: for every two words and every greater divisor. -/
namespace Go.Bv
open Go Go.RowKit
set_option linter.unusedVariables false
set_option maxRecDepth 100000
theorem sub_nat {x y : BitVec 64} (h : y.toNat ≤ x.toNat) : (x - y).toNat = x.toNat - y.toNat := BitVec.toNat_sub_of_le h
end Go.Bv
namespace Go.Proofs.YthkmcnlciefnfaaGreat
open Go.RowKit Go.Bv
set_option linter.unusedVariables false
end Go.Proofs.YthkmcnlciefnfaaGreat
end
section
/- Contracts of load.Rot64 and of the document's own Left and Rot64: for every word and every number. -/
namespace Go.Proofs.YthkmcnlciefnfaaGreat
open Go.RowKit Go.Bv
set_option linter.unusedVariables false
end Go.Proofs.YthkmcnlciefnfaaGreat
end
section
/- The table of bits.TrailingZeros64 in its variable; its contract. -/
namespace Go.Bv
open Go Go.RowKit
/-- the table lies in its variable -/
structure TabD (w : World) : Prop where
  lt : 0 < w.heap.size
  cell : ∀ i, i < 64 → w.cell? ⟨0, i, none⟩ = some (.int .u8 (Lib.deBruijn64tab.getD i 0))
theorem TabD.stay {w w' : World} (h : TabD w) (hn : New w w') : TabD w' where
  lt := Nat.lt_of_lt_of_le h.lt hn.le
  cell := fun i hi => by
    have e := hn.block 0 h.lt
    rw [← h.cell i hi]
    unfold World.cell?
    rw [e]
/-- the number of zeros at a word's end -/
def tzN (x : BitVec 64) : Nat := Lib.ctz 64 x.toNat
end Go.Bv
namespace Go.Proofs.YthkmcnlciefnfaaGreat
open Go.RowKit Go.Bv
set_option linter.unusedVariables false
end Go.Proofs.YthkmcnlciefnfaaGreat
end
section
/- Plain lemmas: a region that draws its order and holds calls that make memory: one walk in the order of the text, in the class of the worlds that meet S. -/
namespace Go.Bv
open Go Go.RowKit
/-- A region whose operations, in every world that meets S, yield one value and leave a world that meets S: the worlds that meet S are named by an index, so that what S says of them are plain equations. -/
theorem wp_region_class {P : Program} {id : Nat} {l : List Oper} {Q : Exit → Act → World → Prop} {a : Act} {w : World} (S : World → Prop)
    (hm : P.follows .mixedOrders = true) (hB : Region.lexB .any l.toArray = true) (hS : S w.drew)
    (h : ∀ (I : Type) [Nonempty I] (f : I → World), (∀ n, S (f n)) → (∀ w', S w' → ∃ m, w' = f m) →
      wpQuiet P l.toArray (fun w' => ∃ n, w' = f n) (fun a' => ∀ w', (∃ n, w' = f n) → Q .normal a' w') l a) : (Code.region id l.toArray true).wp P Q a w :=
  wp_region_quiet (C := fun w' => ∃ n : {x : World // S x}, w' = n.1) hm hB ⟨⟨w.drew, hS⟩, rfl⟩
    (by simpa using @h {x : World // S x} ⟨⟨w.drew, hS⟩⟩ Subtype.val (fun n => n.2) (fun w' hw' => ⟨⟨w', hw'⟩, rfl⟩))
/-- a callee that makes memory -/
theorem class_new {P : Program} {F : FuncId} {args : Array Value} {I : Type} {f : I → World} {n : I} {v : Value} (hstep : ∀ n w', New (f n) w' → ∃ m, w' = f m)
    (h : Calls P F args (f n) fun e w' => e = .returned v ∧ New (f n) w') : Calls P F args (f n) fun e w'' => e = .returned v ∧ ∃ m, w'' = f m :=
  h.mono fun _ _ ⟨he, hn⟩ => ⟨he, hstep n _ hn⟩
/-- a callee that makes nothing -/
theorem class_same {P : Program} {F : FuncId} {args : Array Value} {I : Type} {f : I → World} {n : I} {v : Value}
    (h : Calls P F args (f n) fun e w' => e = .returned v ∧ w' = f n) : Calls P F args (f n) fun e w'' => e = .returned v ∧ ∃ m, w'' = f m :=
  h.mono fun _ _ ⟨he, hn⟩ => ⟨he, n, hn⟩
end Go.Bv
end
