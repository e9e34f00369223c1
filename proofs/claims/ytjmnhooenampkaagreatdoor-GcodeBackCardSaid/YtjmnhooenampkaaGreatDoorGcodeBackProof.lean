/- For every input astragal/astragallaw17.GcodeBack returns true, and each argument reads behind the call as it read before: the frame round the walk. No condition beyond the given row. -/
import Derived.Test.YtjmnhooenampkaaGreatDoorRows
import Derived.Test.YtjmnhooenampkaaGreatDoorTie
import Derived.Test.YtjmnhooenampkaaGreatDoorCards
import Derived.Test.YtjmnhooenampkaaGreatDoorDorT
import Derived.SevenTiedAt
import Derived.LaidMore
import Derived.Stop.Joined
import Derived.Test.YtjmnhooenampkaaGreatDoorBakB
import Derived.Test.YtjmnhooenampkaaGreatDoorFrame
import Derived.WalkKit
import Derived.ProofKit
import Derived.OpenShut
import Derived.ShutString
import Derived.ChangeOld
import Derived.Below
import Derived.SizedLaws
namespace Go.Proofs.YtjmnhooenampkaaGreatDoor.gcodeBack
open Go.ChangeShapes Go.WideShapes Go.ChangeAt Go.RowKit Go.Bv
open Go.ChangeMaps (open_string shut_string)
set_option linter.unusedVariables false

theorem own : ownKnob Tryz.prog.godebug = none := by kernel_rfl
theorem laidOut : laidOutB Tryz.prog = true := by kernel_rfl

set_option maxRecDepth 100000 in
theorem lifted (os : Os) (started : os.Started) (H : Type) (enc : TypeId × Value → H) :
    ReturnsInHanded {} Tryz.checked os 5 .any (fun w args => (Rows.gcodeBackSpec.pre enc Tryz.prog Tryz.f5 [] false w args ∧ laidMetH Tryz.prog [("unicode/utf8.acceptRanges", Rows.laid_unicode_utf8_acceptRanges), ("errors.errorType", Rows.laid_errors_errorType), ("astragal/gcode.errShort", Rows.laid_astragal_gcode_errShort), ("astragal/gcode.errLong", Rows.laid_astragal_gcode_errLong), ("astragal/gcode.errForm", Rows.laid_astragal_gcode_errForm), ("astragal/gcode.errKind", Rows.laid_astragal_gcode_errKind), ("unicode/utf8.first", Rows.laid_unicode_utf8_first)] w) ∧ sizedMet enc Tryz.prog Tryz.f5 (OpenSpec.ofChange Rows.gcodeBackSpec) false w args) (Rows.gcodeBackSpec.post enc Tryz.prog Tryz.f5 false true false false) := by
  refine returnsInHanded_of_change_and_shaped17 (C := Tryz.checked) (X := fun w _ => laidMetH Tryz.prog [("unicode/utf8.acceptRanges", Rows.laid_unicode_utf8_acceptRanges), ("errors.errorType", Rows.laid_errors_errorType), ("astragal/gcode.errShort", Rows.laid_astragal_gcode_errShort), ("astragal/gcode.errLong", Rows.laid_astragal_gcode_errLong), ("astragal/gcode.errForm", Rows.laid_astragal_gcode_errForm), ("astragal/gcode.errKind", Rows.laid_astragal_gcode_errKind), ("unicode/utf8.first", Rows.laid_unicode_utf8_first)] w) (fun _ _ _ hh h => h.of_heap hh) own started (by kernel_rfl) Tryz.func5
    (ChangeSpec.witness_at (enc := enc) (C := Tryz.checked) (os := os) (X := fun w _ => laidMetH Tryz.prog [("unicode/utf8.acceptRanges", Rows.laid_unicode_utf8_acceptRanges), ("errors.errorType", Rows.laid_errors_errorType), ("astragal/gcode.errShort", Rows.laid_astragal_gcode_errShort), ("astragal/gcode.errLong", Rows.laid_astragal_gcode_errLong), ("astragal/gcode.errForm", Rows.laid_astragal_gcode_errForm), ("astragal/gcode.errKind", Rows.laid_astragal_gcode_errKind), ("unicode/utf8.first", Rows.laid_unicode_utf8_first)] w) false (laidWorldX os) #[.agg #[.int .i64 0, .int .u64 0, .int .u64 0, .int .u64 0, .int .u64 0]] 8 rfl (by kernel_rfl) (by kernel_rfl) (by kernel_rfl) (by kernel_rfl) (by kernel_rfl) (laidWorldX_met os _)) ?_
  intro W base args ds gs before hval0 hW hcnd hsz0 hL hsh _
  have hval : ∀ (j : Nat) t v, Tryz.f5.params[j]? = some t → args[j]? = some v → Value.okWide Tryz.prog W .any base t v := hval0
  have hsz : (DataW.weightsEach Tryz.prog (Tryz.f5.params.toList ++ Rows.gcodeBackSpec.plain.varTypes Tryz.prog) (ds ++ gs)).all (· ≤ reachBytes) = true := hsz0
  have hW' := hW
  obtain ⟨p, q, hA0, hV, rfl, hfz, hnd⟩ := hW
  have hA : DataW.TrodAll enc Tryz.prog W 0 (fun _ => true) true Tryz.f5.params.toList args.toList ds p := hA0
  rw [Tryz.params5] at hA hval hsz
  obtain ⟨v0, vs0, d0, ds0, p0, q0, hargs, rfl, rfl, h0, r0⟩ := trodAll_cons hA
  obtain ⟨rfl, rfl, rfl⟩ := trodAll_nil r0
  obtain rfl : args = #[v0] := by cases args; simp_all
  obtain ⟨rfl, rfl⟩ := trodVars_none hV
  have k0 := h0
  have lt0 : ∀ x ∈ p0, x.block < W.heap.size := by obtain ⟨m, hm⟩ := k0; exact DataW.trod_lt m _ _ _ hm
  obtain ⟨cs0, rfl, sz0, ro0⟩ := okWide_str Tryz.underlying27 (hval 0 27 v0 rfl rfl)
  rw [show Tryz.prog.cellsOf 27 = 5 by kernel_rfl] at sz0
  obtain ⟨c0_0, c0_1, c0_2, c0_3, c0_4, rfl⟩ := arrayN5 sz0
  obtain ⟨x0_0, rfl, b0_0⟩ := cell_i64 Tryz.underlying3 (row_at (ts := [3, 24, 24, 24, 24]) (by kernel_rfl) ro0 0 _ 3 rfl rfl)
  obtain ⟨x0_1, rfl⟩ := cell_u64 Tryz.underlying24 (row_at (ts := [3, 24, 24, 24, 24]) (by kernel_rfl) ro0 1 _ 24 rfl rfl)
  obtain ⟨x0_2, rfl⟩ := cell_u64 Tryz.underlying24 (row_at (ts := [3, 24, 24, 24, 24]) (by kernel_rfl) ro0 2 _ 24 rfl rfl)
  obtain ⟨x0_3, rfl⟩ := cell_u64 Tryz.underlying24 (row_at (ts := [3, 24, 24, 24, 24]) (by kernel_rfl) ro0 3 _ 24 rfl rfl)
  obtain ⟨x0_4, rfl⟩ := cell_u64 Tryz.underlying24 (row_at (ts := [3, 24, 24, 24, 24]) (by kernel_rfl) ro0 4 _ 24 rfl rfl)
  clear hA0 hval0
  refine (GcodeBack_walk W x0_0 b0_0 x0_1 x0_2 x0_3 x0_4 (et_of_laid hL) (sen_of_laid hL) (maxl_of W hsh)).mono fun e W' ⟨he, bel⟩ => ?_
  subst he
  exact ⟨_, rfl, _, _, _, [], _, [], hW', trodAll_mk1 (shut_bool Tryz.underlying4 _), (trodAll_cons_mk (Below.trod laidOut (by kernel_rfl) (of_decide_eq_true (by kernel_rfl)) k0 bel lt0) trodAll_mk0), rfl, bel.frame _, fun h => by cases h⟩

theorem over : Rows.gcodeBackRow.holds Tryz.pinned (OpenSpec.ofChange Rows.gcodeBackSpec) :=
  OpenClaim.holds_of_wide 5 Tryz.f5 rfl rfl rfl rfl rfl rfl rfl ⟨rfl, rfl, rfl, rfl, rfl⟩ rfl rfl rfl rfl rfl (by kernel_rfl) Tryz.func5 (by kernel_rfl)
    (of_decide_eq_true (by kernel_rfl)) (by unfold Func.isWrapper; first | (rw [if_pos (by decide +kernel)]; kernel_rfl) | (rw [if_neg (by decide +kernel)]; exact ⟨rfl, rfl⟩))
    (fun os started H enc _ => lifted os started H enc)

/-- the tied card -/
theorem proved : Rows.GcodeBackCardSaid :=
  Claim7.holds_tied_plain_at .later [] [.data, .handle, .sentinel, .sentinel, .sentinel, .sentinel, .pinned] true (true, "aecab3556cbd0986bccd248463c77fdf0167c4c6fe8e4c2a4aae7ea5aff0fda0") true
    over (fun _ h => by cases h) (by kernel_rfl) (fun _ h => by cases h) gcodeBack_row_tie rfl ⟨rfl, rfl⟩ (by kernel_rfl) rfl
    (fun f fn hf hfn => by
      obtain rfl : f = 5 := Option.some.inj ((show Tryz.prog.funcNamed "astragal/astragallaw17.GcodeBack" = some 5 by kernel_rfl).symm.trans hf) |>.symm
      obtain rfl : fn = Tryz.f5 := (Option.some.inj (Tryz.func5.symm.trans hfn)).symm
      exact ⟨by kernel_rfl, fun j t ht => by
        rw [Tryz.params5] at ht
        have hm : t ∈ [27] := by simpa using Array.mem_of_getElem? ht
        have hall : ([27].all fun u => !Tryz.prog.wantsStandIn u) = true := by kernel_rfl
        exact (show Tryz.prog.wantsStandIn t = false by simpa using List.all_eq_true.1 hall t hm)⟩)
    (by kernel_rfl)
end Go.Proofs.YtjmnhooenampkaaGreatDoor.gcodeBack
