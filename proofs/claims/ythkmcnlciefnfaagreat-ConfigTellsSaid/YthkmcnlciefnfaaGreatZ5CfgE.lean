import Derived.Test.YthkmcnlciefnfaaGreatZ5CfgD
import Derived.Deep.AppendLies
/- Layer 47: the document's config of a state; the law ConfigOf. -/
namespace Go.Proofs.YthkmcnlciefnfaaGreat
open Go Go.RowKit Go.Bv
set_option linter.unusedVariables false
set_option maxRecDepth 100000
end Go.Proofs.YthkmcnlciefnfaaGreat
