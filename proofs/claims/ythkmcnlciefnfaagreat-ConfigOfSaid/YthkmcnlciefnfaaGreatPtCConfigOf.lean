/- Pieces of the frame of ConfigOf, each checked by itself. -/
import Derived.Test.YthkmcnlciefnfaaGreatRows
import Derived.JoinedOf
import Derived.KernelRfl
import Derived.Test.YthkmcnlciefnfaaGreatPtAConfigOf
import Derived.Test.YthkmcnlciefnfaaGreatPtBConfigOf
namespace Go.Proofs.YthkmcnlciefnfaaGreat.configOfParts
set_option linter.unusedVariables false
set_option maxRecDepth 100000
theorem j0 : (Rows.configOfRow.wf (OpenSpec.ofChange Rows.configOfSpec)) = true := by kernel_rfl
theorem j3 : (Tryz.f4.params.all (Tryz.prog.readableRec ·)) = true := by kernel_rfl
theorem j4 : (namedTie Tryz.prog Rows.configOfRow.named Rows.configOfSpec.vars) = true := by kernel_rfl
theorem j5 : ((Rows.configOfRow.stops == [])) = true := by kernel_rfl
theorem j7 : ((Rows.configOfRow.knobs == [])) = true := by kernel_rfl
theorem j13 : ((Rows.configOfRow.maps == (Tryz.f4.params.toList ++ Rows.configOfSpec.plain.varTypes Tryz.prog).any (Tryz.prog.mapsRec ·))) = true := by kernel_rfl
theorem j14 : ((Rows.configOfRow.ifaces == (Tryz.f4.params.toList ++ Rows.configOfSpec.plain.varTypes Tryz.prog).any (Tryz.prog.ifacesRec ·))) = true := by kernel_rfl
theorem j15 : ((Rows.configOfRow.mapsOut == Tryz.prog.mapsAmong Tryz.f4.resultTypes.toList)) = true := by kernel_rfl
theorem j16 : ((Rows.configOfRow.loops == (Tryz.f4.params.toList ++ Rows.configOfSpec.plain.varTypes Tryz.prog).any (Tryz.prog.loopsFrom ·))) = true := by kernel_rfl
theorem j17 : ((Rows.configOfRow.wideKeys == (Tryz.f4.params.toList ++ Rows.configOfSpec.plain.varTypes Tryz.prog ++ Tryz.f4.resultTypes.toList).any (Tryz.prog.wideKeysFrom ·))) = true := by kernel_rfl
theorem j18 : (Rows.configOfSpec.vars.all (Tryz.prog.varReadable ·)) = true := by kernel_rfl
theorem j19 : (Tryz.f4.resultTypes.all (fun t => Tryz.prog.readableRec t && decide (t < Tryz.prog.types.size))) = true := by kernel_rfl
theorem j20 : ((Rows.configOfRow.ifacesOut == Tryz.f4.resultTypes.toList.any (Tryz.prog.ifacesRec ·))) = true := by kernel_rfl
theorem j21 : ((Rows.configOfRow.loopsOut == Tryz.f4.resultTypes.toList.any (Tryz.prog.loopsFrom ·))) = true := by kernel_rfl
theorem j23 : (Rows.configOfRow.shortTexts.isNone) = true := by kernel_rfl
theorem j28 : ((Rows.configOfRow.kinds == (if Rows.configOfRow.domain.isEmpty then [] else Tryz.f4.params.toList.map fun t => match Tryz.prog.underlying t with | some (.int k) => some k | _ => none))) = true := by kernel_rfl
theorem j29 : ((Rows.configOfRow.pinned == Rows.configOfRow.pinnedBy)) = true := by kernel_rfl
theorem j30 : ((Rows.configOfRow.veiled == (Tryz.f4.params.toList ++ Rows.configOfSpec.plain.varTypes Tryz.prog ++ Tryz.f4.resultTypes.toList).any (Tryz.prog.veiledRec ·))) = true := by kernel_rfl
theorem j31 : (Rows.configOfRow.veiledFits Tryz.prog Tryz.f4.params.toList (Tryz.f4.params.toList ++ Rows.configOfSpec.plain.varTypes Tryz.prog ++ Tryz.f4.resultTypes.toList)) = true := by kernel_rfl
theorem joined : joinedFacts Tryz.prog 4 Tryz.f4 Rows.configOfSpec Rows.configOfRow = true := by
  unfold joinedFacts
  rw [j0, j1, j2, j3, j4, j5, j6, j7, j8, j9, j10, j11, j12, j13, j14, j15, j16, j17, j18, j19, j20, j21, j22, j23, j24, j25, j26, j27, j29, j30, j31]
  simp only [Bool.true_and, Bool.and_true]
  exact j28
theorem hnamed : Tryz.prog.funcNamed Rows.configOfRow.func = some 4 := by kernel_rfl
theorem hinst : Tryz.f4.isInstance Tryz.prog Rows.configOfRow.origin Rows.configOfRow.targs := of_decide_eq_true (by kernel_rfl)
theorem hwrap : Tryz.f4.isWrapper Tryz.prog Rows.configOfRow.wrapper Rows.configOfRow.mainSum := by unfold Func.isWrapper; first | (rw [if_pos (by decide +kernel)]; kernel_rfl) | (rw [if_neg (by decide +kernel)]; exact ⟨rfl, rfl⟩)
end Go.Proofs.YthkmcnlciefnfaaGreat.configOfParts
