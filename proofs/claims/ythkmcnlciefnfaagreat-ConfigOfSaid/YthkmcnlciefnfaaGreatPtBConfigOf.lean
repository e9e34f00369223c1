/- Pieces of the frame of ConfigOf, each checked by itself. -/
import Derived.Test.YthkmcnlciefnfaaGreatRows
import Derived.JoinedOf
import Derived.KernelRfl
namespace Go.Proofs.YthkmcnlciefnfaaGreat.configOfParts
set_option linter.unusedVariables false
set_option maxRecDepth 100000
theorem j10 : ((Rows.configOfRow.unfollowed == Tryz.prog.unfollowed 4)) = true := by kernel_rfl
theorem j11 : ((Rows.configOfRow.recurses == Tryz.prog.recurses 4)) = true := by kernel_rfl
theorem j12 : ((Rows.configOfRow.named == Tryz.prog.varsNamed 4)) = true := by kernel_rfl
end Go.Proofs.YthkmcnlciefnfaaGreat.configOfParts
