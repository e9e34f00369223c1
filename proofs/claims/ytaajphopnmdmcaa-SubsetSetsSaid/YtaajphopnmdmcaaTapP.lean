/- Contract of layer 37: Put. -/
import Derived.Test.YtaajphopnmdmcaaTapQ
import Derived.Test.YtaajphopnmdmcaaBitQ
namespace Go.Proofs.Ytaajphopnmdmcaa
open Go.RowKit Go.Bv
set_option linter.unusedVariables false
end Go.Proofs.Ytaajphopnmdmcaa
