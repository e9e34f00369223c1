/- Contract of layer 37: Put. -/
import Derived.Test.YtbjclkjikclljaaTapQ
import Derived.Test.YtbjclkjikclljaaBitQ
namespace Go.Proofs.Ytbjclkjikclljaa
open Go.RowKit Go.Bv
set_option linter.unusedVariables false
end Go.Proofs.Ytbjclkjikclljaa
