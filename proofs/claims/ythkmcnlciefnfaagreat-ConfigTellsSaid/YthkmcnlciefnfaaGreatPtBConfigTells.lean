/- Pieces of the frame of ConfigTells, each checked by itself. -/
import Derived.Test.YthkmcnlciefnfaaGreatRows
import Derived.JoinedOf
import Derived.KernelRfl
namespace Go.Proofs.YthkmcnlciefnfaaGreat.configTellsParts
set_option linter.unusedVariables false
set_option maxRecDepth 100000
theorem j10 : ((Rows.configTellsRow.unfollowed == Tryz.prog.unfollowed 3)) = true := by kernel_rfl
theorem j11 : ((Rows.configTellsRow.recurses == Tryz.prog.recurses 3)) = true := by kernel_rfl
theorem j12 : ((Rows.configTellsRow.named == Tryz.prog.varsNamed 3)) = true := by kernel_rfl
end Go.Proofs.YthkmcnlciefnfaaGreat.configTellsParts
