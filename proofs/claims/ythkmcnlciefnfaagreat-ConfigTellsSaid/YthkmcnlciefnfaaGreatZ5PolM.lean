import Derived.Test.YthkmcnlciefnfaaGreatZ5WidA
import Derived.Test.YthkmcnlciefnfaaGreatZ5PkC
section
/- Plain lemmas: numbers modulo 2^61 - 1; coefficients without zeros at the end; sums of powers. -/
namespace Go.Bv
open Go Go.RowKit
set_option linter.unusedVariables false
/-- the prime -/
def PP : Nat := 2305843009213693951
/-- a number modulo the prime, as a word -/
def mp (N : Nat) : BitVec 64 := BitVec.ofNat 64 (N % PP)
/-- how many coefficients there are without the zeros at the end -/
def topF (f : Nat → BitVec 64) : Nat → Nat
  | 0 => 0
  | n + 1 => if f n = 0#64 then topF f n else n + 1
/-- the coefficients without the zeros at the end -/
def trimF (f : Nat → BitVec 64) (n : Nat) : List (BitVec 64) := (List.range (topF f n)).map f
/-- the coefficients of a list, modulo the prime -/
def cm (l : List (BitVec 64)) (i : Nat) : BitVec 64 := mp (l.getD i 0).toNat
/-- a list without zeros at the end, modulo the prime -/
def trimL (l : List (BitVec 64)) : List (BitVec 64) := trimF (cm l) l.length
/-- the sum of f i times x^i for i below n -/
def pv (f : Nat → Nat) (x : Nat) : Nat → Nat
  | 0 => 0
  | n + 1 => pv f x n + f n * x ^ n
/-- the same from k on, d of them, by Horner -/
def hv (f : Nat → Nat) (x : Nat) : Nat → Nat → Nat
  | 0, _ => 0
  | d + 1, k => f k + x * hv f x d (k + 1)
/-- the value of a list of coefficients, as a number -/
def nv (l : List (BitVec 64)) (x : BitVec 64) : Nat := pv (fun i => (l.getD i 0).toNat) x.toNat l.length
/-- what Horner's rule comes to from the coefficient k on -/
def hz (l : List (BitVec 64)) (x : BitVec 64) (k : Nat) : Nat := hv (fun i => (l.getD i 0).toNat) x.toNat (l.length - k) k
/-- the quotient by X less x, before the zeros at its end are cut off -/
def dq (l : List (BitVec 64)) (x : BitVec 64) : List (BitVec 64) := (List.range l.length).map (fun j => mp (hz l x (j + 1)))
/-- the coefficient k of a product, of the first i rows -/
def cs (f g : Nat → Nat) : Nat → Nat → Nat
  | 0, _ => 0
  | i + 1, k => cs f g i k + (if i ≤ k then f i * g (k - i) else 0)
/-- the words of a list as numbers -/
def nf (l : List (BitVec 64)) (i : Nat) : Nat := (l.getD i 0).toNat
/-- the first n coefficients of a product, modulo the prime -/
def mulP (a b : List (BitVec 64)) (n : Nat) : List (BitVec 64) := (List.range n).map (fun k => mp (cs (nf a) (nf b) (k + 1) k))
def mulL (a b : List (BitVec 64)) : List (BitVec 64) := mulP a b (a.length + b.length)
/-- the first n coefficients of a sum, modulo the prime -/
def addP (a b : List (BitVec 64)) (n : Nat) : List (BitVec 64) := (List.range n).map (fun k => mp (nf a k + nf b k))
def addL (a b : List (BitVec 64)) : List (BitVec 64) := addP a b (max a.length b.length)
/-- the first coefficients without the zeros at the end, as they are put behind each other -/
def cmP (l : List (BitVec 64)) (n : Nat) : List (BitVec 64) := (List.range n).map (cm l)
end Go.Bv
end
section
/- The number that two cells of a box hold. -/
namespace Go.Bv
open Go Go.RowKit
/-- the number that two cells of a box hold -/
def num2 (w : World) (b : Nat) : Nat := (intOf ((w.cell? ⟨b, 0, none⟩).getD (.bool false))).toNat * 18446744073709551616 + (intOf ((w.cell? ⟨b, 1, none⟩).getD (.bool false))).toNat
theorem B2.num {w : World} {b : Nat} {t : TypeId} {x : BitVec 128} (h : B2 w b t x) : num2 w b = x.toNat := by
  unfold num2; rw [h.c0, h.c1, ← two_x]; unfold two; simp [intOf, W64]
end Go.Bv
end
section
/- Contracts of mers.P, Fold, Add, Sub, Mul and Is, and of the document's own P: for all numbers. -/
namespace Go.Bv
open Go Go.RowKit
set_option linter.unusedVariables false
/-- the prime of so many bits; 0: there is none -/
def pM (k : Int) : BitVec 64 := if k = 31 then 2147483647#64 else if k = 61 then 2305843009213693951#64 else 0#64
/-- what holds at the head of a round of Fold -/
def FoldI (m p X : Nat) (j s y : Nat) : Prop := (s + y) % p = X % p ∧ s ≤ j * p ∧ y < 2 ^ (128 - j * m)
end Go.Bv
namespace Go.Proofs.YthkmcnlciefnfaaGreat
open Go.RowKit Go.Bv
set_option linter.unusedVariables false
end Go.Proofs.YthkmcnlciefnfaaGreat
end
