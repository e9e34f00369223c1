/- Pieces of the frame of ConfigTells, each checked by itself. -/
import Derived.Test.YthkmcnlciefnfaaGreatRows
import Derived.JoinedOf
import Derived.KernelRfl
namespace Go.Proofs.YthkmcnlciefnfaaGreat.configTellsParts
set_option linter.unusedVariables false
set_option maxRecDepth 100000
theorem j1 : (laidOutB Tryz.prog) = true := by kernel_rfl
theorem j2 : (mapsRowed Tryz.prog) = true := by kernel_rfl
theorem j6 : ((Tryz.prog.stops == [])) = true := by kernel_rfl
theorem j8 : ((Tryz.prog.stopKnobs == [])) = true := by kernel_rfl
theorem j9 : ((Rows.configTellsRow.inPlace == Tryz.prog.inPlace 3)) = true := by kernel_rfl
theorem j22 : ((Rows.configTellsRow.plainKeys == Tryz.prog.plainKeys)) = true := by kernel_rfl
theorem j24 : (Tryz.prog.stopsHeard) = true := by kernel_rfl
theorem j25 : (Tryz.prog.mayEnter) = true := by kernel_rfl
theorem j26 : ((Rows.configTellsRow.lifted == Tryz.prog.liftsFinal)) = true := by kernel_rfl
theorem j27 : ((Tryz.prog.make == some Rows.configTellsRow.make)) = true := by kernel_rfl
end Go.Proofs.YthkmcnlciefnfaaGreat.configTellsParts
