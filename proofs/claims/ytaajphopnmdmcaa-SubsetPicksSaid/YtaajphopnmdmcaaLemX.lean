/- Contract of layer 38: Aim. -/
import Derived.Test.YtaajphopnmdmcaaLemG
import Derived.Test.YtaajphopnmdmcaaLemT
import Derived.Test.YtaajphopnmdmcaaMskT
import Derived.Test.YtaajphopnmdmcaaTapP
namespace Go.Proofs.Ytaajphopnmdmcaa
open Go.RowKit Go.Bv
set_option linter.unusedVariables false
end Go.Proofs.Ytaajphopnmdmcaa
