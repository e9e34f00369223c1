import Derived.Test.YthkmcnlciefnfaaGreatZ4PolA
import Derived.Deep.OwnRows
import Derived.WalkMore
import Derived.ScopeJumps
/- poly.collect with its closures. -/
namespace Go.Proofs.YthkmcnlciefnfaaGreat
open Go.RowKit Go.Bv
set_option linter.unusedVariables false
end Go.Proofs.YthkmcnlciefnfaaGreat
