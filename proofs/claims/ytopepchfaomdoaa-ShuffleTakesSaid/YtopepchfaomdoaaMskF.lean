/- Contracts of layer 39: Takes, Rank. -/
import Derived.Test.YtopepchfaomdoaaMskD
import Derived.Deep.RegionHeld3
namespace Go.Proofs.Ytopepchfaomdoaa
open Go.RowKit Go.Bv
set_option linter.unusedVariables false
end Go.Proofs.Ytopepchfaomdoaa
