/- Contracts of the document's own layer 39: Takes, Take. -/
import Derived.Test.YtopepchfaomdoaaMskC
namespace Go.Proofs.Ytopepchfaomdoaa
open Go.RowKit Go.Bv
set_option linter.unusedVariables false
end Go.Proofs.Ytopepchfaomdoaa
