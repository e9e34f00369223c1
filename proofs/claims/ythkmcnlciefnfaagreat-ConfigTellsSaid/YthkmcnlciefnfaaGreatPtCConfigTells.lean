/- Pieces of the frame of ConfigTells, each checked by itself. -/
import Derived.Test.YthkmcnlciefnfaaGreatRows
import Derived.JoinedOf
import Derived.KernelRfl
import Derived.Test.YthkmcnlciefnfaaGreatPtAConfigTells
import Derived.Test.YthkmcnlciefnfaaGreatPtBConfigTells
namespace Go.Proofs.YthkmcnlciefnfaaGreat.configTellsParts
set_option linter.unusedVariables false
set_option maxRecDepth 100000
theorem j0 : (Rows.configTellsRow.wf (OpenSpec.ofChange Rows.configTellsSpec)) = true := by kernel_rfl
theorem j3 : (Tryz.f3.params.all (Tryz.prog.readableRec ·)) = true := by kernel_rfl
theorem j4 : (namedTie Tryz.prog Rows.configTellsRow.named Rows.configTellsSpec.vars) = true := by kernel_rfl
theorem j5 : ((Rows.configTellsRow.stops == [])) = true := by kernel_rfl
theorem j7 : ((Rows.configTellsRow.knobs == [])) = true := by kernel_rfl
theorem j13 : ((Rows.configTellsRow.maps == (Tryz.f3.params.toList ++ Rows.configTellsSpec.plain.varTypes Tryz.prog).any (Tryz.prog.mapsRec ·))) = true := by kernel_rfl
theorem j14 : ((Rows.configTellsRow.ifaces == (Tryz.f3.params.toList ++ Rows.configTellsSpec.plain.varTypes Tryz.prog).any (Tryz.prog.ifacesRec ·))) = true := by kernel_rfl
theorem j15 : ((Rows.configTellsRow.mapsOut == Tryz.prog.mapsAmong Tryz.f3.resultTypes.toList)) = true := by kernel_rfl
theorem j16 : ((Rows.configTellsRow.loops == (Tryz.f3.params.toList ++ Rows.configTellsSpec.plain.varTypes Tryz.prog).any (Tryz.prog.loopsFrom ·))) = true := by kernel_rfl
theorem j17 : ((Rows.configTellsRow.wideKeys == (Tryz.f3.params.toList ++ Rows.configTellsSpec.plain.varTypes Tryz.prog ++ Tryz.f3.resultTypes.toList).any (Tryz.prog.wideKeysFrom ·))) = true := by kernel_rfl
theorem j18 : (Rows.configTellsSpec.vars.all (Tryz.prog.varReadable ·)) = true := by kernel_rfl
theorem j19 : (Tryz.f3.resultTypes.all (fun t => Tryz.prog.readableRec t && decide (t < Tryz.prog.types.size))) = true := by kernel_rfl
theorem j20 : ((Rows.configTellsRow.ifacesOut == Tryz.f3.resultTypes.toList.any (Tryz.prog.ifacesRec ·))) = true := by kernel_rfl
theorem j21 : ((Rows.configTellsRow.loopsOut == Tryz.f3.resultTypes.toList.any (Tryz.prog.loopsFrom ·))) = true := by kernel_rfl
theorem j23 : (Rows.configTellsRow.shortTexts.isNone) = true := by kernel_rfl
theorem j28 : ((Rows.configTellsRow.kinds == (if Rows.configTellsRow.domain.isEmpty then [] else Tryz.f3.params.toList.map fun t => match Tryz.prog.underlying t with | some (.int k) => some k | _ => none))) = true := by kernel_rfl
theorem j29 : ((Rows.configTellsRow.pinned == Rows.configTellsRow.pinnedBy)) = true := by kernel_rfl
theorem j30 : ((Rows.configTellsRow.veiled == (Tryz.f3.params.toList ++ Rows.configTellsSpec.plain.varTypes Tryz.prog ++ Tryz.f3.resultTypes.toList).any (Tryz.prog.veiledRec ·))) = true := by kernel_rfl
theorem j31 : (Rows.configTellsRow.veiledFits Tryz.prog Tryz.f3.params.toList (Tryz.f3.params.toList ++ Rows.configTellsSpec.plain.varTypes Tryz.prog ++ Tryz.f3.resultTypes.toList)) = true := by kernel_rfl
theorem joined : joinedFacts Tryz.prog 3 Tryz.f3 Rows.configTellsSpec Rows.configTellsRow = true := by
  unfold joinedFacts
  rw [j0, j1, j2, j3, j4, j5, j6, j7, j8, j9, j10, j11, j12, j13, j14, j15, j16, j17, j18, j19, j20, j21, j22, j23, j24, j25, j26, j27, j29, j30, j31]
  simp only [Bool.true_and, Bool.and_true]
  exact j28
theorem hnamed : Tryz.prog.funcNamed Rows.configTellsRow.func = some 3 := by kernel_rfl
theorem hinst : Tryz.f3.isInstance Tryz.prog Rows.configTellsRow.origin Rows.configTellsRow.targs := of_decide_eq_true (by kernel_rfl)
theorem hwrap : Tryz.f3.isWrapper Tryz.prog Rows.configTellsRow.wrapper Rows.configTellsRow.mainSum := by unfold Func.isWrapper; first | (rw [if_pos (by decide +kernel)]; kernel_rfl) | (rw [if_neg (by decide +kernel)]; exact ⟨rfl, rfl⟩)
end Go.Proofs.YthkmcnlciefnfaaGreat.configTellsParts
