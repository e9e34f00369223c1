/- Contract of layer 37: Put. -/
import Derived.Test.YtopepchfaomdoaaTapH
import Derived.Test.YtopepchfaomdoaaBitD
namespace Go.Proofs.Ytopepchfaomdoaa
open Go.RowKit Go.Bv
set_option linter.unusedVariables false
end Go.Proofs.Ytopepchfaomdoaa
