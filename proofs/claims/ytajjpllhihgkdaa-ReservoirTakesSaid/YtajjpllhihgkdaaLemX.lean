/- Contract of layer 38: Aim. -/
import Derived.Test.YtajjpllhihgkdaaLemG
import Derived.Test.YtajjpllhihgkdaaLemT
import Derived.Test.YtajjpllhihgkdaaMskT
import Derived.Test.YtajjpllhihgkdaaTapP
namespace Go.Proofs.Ytajjpllhihgkdaa
open Go.RowKit Go.Bv
set_option linter.unusedVariables false
end Go.Proofs.Ytajjpllhihgkdaa
