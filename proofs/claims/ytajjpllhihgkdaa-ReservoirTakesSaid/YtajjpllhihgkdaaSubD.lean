/- subset: the example; the law SubsetOnly. -/
import Derived.Test.YtajjpllhihgkdaaSubC
namespace Go.Proofs.Ytajjpllhihgkdaa
open Go Go.RowKit Go.Bv
set_option linter.unusedVariables false
end Go.Proofs.Ytajjpllhihgkdaa
