/- shuffle: the example; the laws ShuffleOrders, ShuffleOnly. -/
import Derived.Test.YtbjclkjikclljaaShfD
namespace Go.Proofs.Ytbjclkjikclljaa
open Go Go.RowKit Go.Bv
set_option linter.unusedVariables false
end Go.Proofs.Ytbjclkjikclljaa
