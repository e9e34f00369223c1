/- Contract of layer 37: Put. -/
import Derived.Test.YtajjpllhihgkdaaTapH
import Derived.Test.YtajjpllhihgkdaaBitD
namespace Go.Proofs.Ytajjpllhihgkdaa
open Go.RowKit Go.Bv
set_option linter.unusedVariables false
end Go.Proofs.Ytajjpllhihgkdaa
