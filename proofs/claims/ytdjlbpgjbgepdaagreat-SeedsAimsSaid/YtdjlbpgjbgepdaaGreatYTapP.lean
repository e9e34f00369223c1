import Derived.Test.YtdjlbpgjbgepdaaGreatTapQ
import Derived.Test.YtdjlbpgjbgepdaaGreatYBitA
/- Contract of layer 37: Put. -/
namespace Go.Proofs.YtdjlbpgjbgepdaaGreat
open Go.RowKit Go.Bv
set_option linter.unusedVariables false
end Go.Proofs.YtdjlbpgjbgepdaaGreat
