/- shuffle: the example; the laws ShuffleOrders, ShuffleOnly. -/
import Derived.Test.YtaajphopnmdmcaaShfD
namespace Go.Proofs.Ytaajphopnmdmcaa
open Go Go.RowKit Go.Bv
set_option linter.unusedVariables false
end Go.Proofs.Ytaajphopnmdmcaa
