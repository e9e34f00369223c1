/- shuffle: the example; the laws ShuffleOrders, ShuffleOnly. -/
import Derived.Test.YtajjpllhihgkdaaShfD
namespace Go.Proofs.Ytajjpllhihgkdaa
open Go Go.RowKit Go.Bv
set_option linter.unusedVariables false
end Go.Proofs.Ytajjpllhihgkdaa
