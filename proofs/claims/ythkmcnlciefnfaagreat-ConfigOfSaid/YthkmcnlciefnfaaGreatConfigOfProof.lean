/- For every input astragal/astragallaw47.ConfigOf returns true, and each argument reads behind the call as it read before: the frame round the walk. No condition beyond the given row. -/
import Derived.Test.YthkmcnlciefnfaaGreatRows
import Derived.Test.YthkmcnlciefnfaaGreatZ4Fin
import Derived.Test.YthkmcnlciefnfaaGreatPtCConfigOf
import Derived.WalkKit
import Derived.ProofKit
import Derived.OpenShut
import Derived.ShutString
import Derived.ChangeOld
import Derived.Below
import Derived.SizedLaws
namespace Go.Proofs.YthkmcnlciefnfaaGreat.configOf
open Go.ChangeShapes Go.WideShapes Go.ChangeAt Go.RowKit Go.Bv
open Go.ChangeMaps (open_string shut_string)
set_option linter.unusedVariables false

theorem own : ownKnob Tryz.prog.godebug = none := by kernel_rfl
theorem laidOut : laidOutB Tryz.prog = true := by kernel_rfl

set_option maxRecDepth 100000 in
theorem lifted (os : Os) (started : os.Started) (H : Type) (enc : TypeId × Value → H) :
    ReturnsInHanded {} Tryz.checked os 4 .any (Rows.configOfSpec.pre6 enc Tryz.prog Tryz.f4 Rows.configOfRow.domain false) (Rows.configOfSpec.post enc Tryz.prog Tryz.f4 false true false false) := by
  refine returnsInHanded_of_change_sized (C := Tryz.checked) own started (by kernel_rfl) Tryz.func4
    (ChangeSpec.witness6 (enc := enc) (C := Tryz.checked) false ⟨#[], #[.agg #[.int .i64 0, .int .u64 0, .int .u64 0, .int .u64 0, .int .u64 0]], []⟩ 8 (by kernel_rfl) (by kernel_rfl) (by kernel_rfl) (by kernel_rfl)) ?_
  intro W base args ds gs before hval0 hW hcnd hsz0 _
  have hval : ∀ (j : Nat) t v, Tryz.f4.params[j]? = some t → args[j]? = some v → Value.okWide Tryz.prog W .any base t v := hval0
  have hsz : (DataW.weightsEach Tryz.prog (Tryz.f4.params.toList ++ Rows.configOfSpec.plain.varTypes Tryz.prog) (ds ++ gs)).all (· ≤ reachBytes) = true := hsz0
  have hW' := hW
  obtain ⟨p, q, hA0, hV, rfl, hfz, hnd⟩ := hW
  have hA : DataW.TrodAll enc Tryz.prog W 0 (fun _ => true) true Tryz.f4.params.toList args.toList ds p := hA0
  rw [Tryz.params4] at hA hval hsz
  obtain ⟨v0, vs0, d0, ds0, p0, q0, hargs, rfl, rfl, h0, r0⟩ := trodAll_cons hA
  obtain ⟨rfl, rfl, rfl⟩ := trodAll_nil r0
  obtain rfl : args = #[v0] := by cases args; simp_all
  obtain ⟨rfl, rfl⟩ := trodVars_none hV
  have k0 := h0
  have lt0 : ∀ x ∈ p0, x.block < W.heap.size := by obtain ⟨m, hm⟩ := k0; exact DataW.trod_lt m _ _ _ hm
  obtain ⟨cs0, rfl, sz0, ro0⟩ := okWide_str Tryz.underlying38 (hval 0 38 v0 rfl rfl)
  rw [show Tryz.prog.cellsOf 38 = 5 by kernel_rfl] at sz0
  obtain ⟨c0_0, c0_1, c0_2, c0_3, c0_4, rfl⟩ := arrayN5 sz0
  obtain ⟨x0_0, rfl, b0_0⟩ := cell_i64 Tryz.underlying3 (row_at (ts := [3, 22, 22, 22, 22]) (by kernel_rfl) ro0 0 _ 3 rfl rfl)
  obtain ⟨x0_1, rfl⟩ := cell_u64 Tryz.underlying22 (row_at (ts := [3, 22, 22, 22, 22]) (by kernel_rfl) ro0 1 _ 22 rfl rfl)
  obtain ⟨x0_2, rfl⟩ := cell_u64 Tryz.underlying22 (row_at (ts := [3, 22, 22, 22, 22]) (by kernel_rfl) ro0 2 _ 22 rfl rfl)
  obtain ⟨x0_3, rfl⟩ := cell_u64 Tryz.underlying22 (row_at (ts := [3, 22, 22, 22, 22]) (by kernel_rfl) ro0 3 _ 22 rfl rfl)
  obtain ⟨x0_4, rfl⟩ := cell_u64 Tryz.underlying22 (row_at (ts := [3, 22, 22, 22, 22]) (by kernel_rfl) ro0 4 _ 22 rfl rfl)
  clear hA0 hval0
  refine (ConfigOf_walk W x0_0 b0_0 x0_1 x0_2 x0_3 x0_4).mono fun e W' ⟨he, bel⟩ => ?_
  subst he
  exact ⟨_, rfl, _, _, _, [], _, [], hW', trodAll_mk1 (shut_bool Tryz.underlying4 _), (trodAll_cons_mk (Below.trod laidOut (by kernel_rfl) (of_decide_eq_true (by kernel_rfl)) k0 bel lt0) trodAll_mk0), rfl, bel.frame _, fun h => by cases h⟩

theorem over : Rows.configOfRow.holds Tryz.pinned (OpenSpec.ofChange Rows.configOfSpec) :=
  OpenClaim.holds_of_wide 4 Tryz.f4 rfl rfl rfl rfl rfl rfl rfl ⟨rfl, rfl, rfl, rfl, rfl⟩ rfl rfl rfl rfl rfl configOfParts.hnamed Tryz.func4 configOfParts.joined
    configOfParts.hinst configOfParts.hwrap
    (fun os started H enc _ => lifted os started H enc)

/-- the statement -/
theorem proved : Rows.ConfigOfSaid := over
end Go.Proofs.YthkmcnlciefnfaaGreat.configOf
