import Derived.Test.YthkmcnlciefnfaaGreatZ4Num
import Derived.Test.YthkmcnlciefnfaaGreatZ4ModA
/- Contracts of mers.P, Fold, Add, Sub, Mul and Is, and of the document's own P: for all numbers. -/
namespace Go.Bv
open Go Go.RowKit
set_option linter.unusedVariables false
/-- the prime of so many bits; 0: there is none -/
def pM (k : Int) : BitVec 64 := if k = 31 then 2147483647#64 else if k = 61 then 2305843009213693951#64 else 0#64
/-- what holds at the head of a round of Fold -/
def FoldI (m p X : Nat) (j s y : Nat) : Prop := (s + y) % p = X % p ∧ s ≤ j * p ∧ y < 2 ^ (128 - j * m)
end Go.Bv
namespace Go.Proofs.YthkmcnlciefnfaaGreat
open Go.RowKit Go.Bv
set_option linter.unusedVariables false
end Go.Proofs.YthkmcnlciefnfaaGreat
