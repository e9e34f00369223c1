/- Contract of layer 38: Aim. -/
import Derived.Test.YtopepchfaomdoaaLemG
import Derived.Test.YtopepchfaomdoaaLemT
import Derived.Test.YtopepchfaomdoaaMskT
import Derived.Test.YtopepchfaomdoaaTapP
namespace Go.Proofs.Ytopepchfaomdoaa
open Go.RowKit Go.Bv
set_option linter.unusedVariables false
end Go.Proofs.Ytopepchfaomdoaa
