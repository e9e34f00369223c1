import Derived.Test.YthkmcnlciefnfaaGreatZ4WidA
import Derived.WalkMore
import Derived.ScopeJumps
section
/- Contracts of modn.Add, Sub, Mul: for all words. -/
namespace Go.Proofs.YthkmcnlciefnfaaGreat
open Go.RowKit Go.Bv
set_option linter.unusedVariables false
end Go.Proofs.YthkmcnlciefnfaaGreat
end
section
/- Contracts of the document's own Add and Mul modulo a word, of modn.Pow and Gcd: for all words. -/
namespace Go.Bv
open Go Go.RowKit
set_option linter.unusedVariables false
end Go.Bv
namespace Go.Proofs.YthkmcnlciefnfaaGreat
open Go.RowKit Go.Bv
set_option linter.unusedVariables false
end Go.Proofs.YthkmcnlciefnfaaGreat
end
section
/- Contracts of the document's own Mul and Pow modulo a word and of modn.Pow: for all words. -/
namespace Go.Bv
open Go Go.RowKit
set_option linter.unusedVariables false
end Go.Bv
namespace Go.Proofs.YthkmcnlciefnfaaGreat
open Go.RowKit Go.Bv
set_option linter.unusedVariables false
end Go.Proofs.YthkmcnlciefnfaaGreat
end
section
/- Contracts of the document's own Pow and Gcd, and of modn.Odd: for all words. -/
namespace Go.Bv
open Go Go.RowKit
set_option linter.unusedVariables false
end Go.Bv
namespace Go.Proofs.YthkmcnlciefnfaaGreat
open Go.RowKit Go.Bv
set_option linter.unusedVariables false
/-- an odd number's inverse, round by round -/
def inv5 (a : BitVec 64) : Nat → BitVec 64
  | 0 => a
  | k + 1 => inv5 a k * (2#64 - a * inv5 a k)
end Go.Proofs.YthkmcnlciefnfaaGreat
end
