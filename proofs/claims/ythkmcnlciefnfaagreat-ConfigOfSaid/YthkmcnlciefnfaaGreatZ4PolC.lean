import Derived.Test.YthkmcnlciefnfaaGreatZ4PolB
/- Contracts of poly.Trim, Divide, Eval: for all lists. -/
namespace Go.Proofs.YthkmcnlciefnfaaGreat
open Go.RowKit Go.Bv
set_option linter.unusedVariables false
/-- what is wrong with coefficients or with a number -/
def evC (l : List (BitVec 64)) (x : BitVec 64) : Int := if chkC l ≠ 0 then chkC l else if PP ≤ x.toNat then 2 else 0
def evP (l : List (BitVec 64)) (x : BitVec 64) : BitVec 64 := if evC l x = 0 then mp (nv l x) else 0#64
end Go.Proofs.YthkmcnlciefnfaaGreat
