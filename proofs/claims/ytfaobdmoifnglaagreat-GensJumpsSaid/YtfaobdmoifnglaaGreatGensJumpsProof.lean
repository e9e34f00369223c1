/- For every input astragal/astragallaw15.GensJumps returns true, and each argument reads behind the call as it read before: the frame round the walk. No condition beyond the given row. -/
import Derived.Test.YtfaobdmoifnglaaGreatRows
import Derived.Test.YtfaobdmoifnglaaGreatZJmZ
import Derived.Test.YtfaobdmoifnglaaGreatZFrame
import Derived.WalkKit
import Derived.ProofKit
import Derived.OpenShut
import Derived.ShutString
import Derived.ChangeOld
import Derived.Below
import Derived.SizedLaws
namespace Go.Proofs.YtfaobdmoifnglaaGreat.gensJumps
open Go.ChangeShapes Go.WideShapes Go.ChangeAt Go.RowKit Go.Bv
open Go.ChangeMaps (open_string shut_string)
set_option linter.unusedVariables false

theorem own : ownKnob Tryz.prog.godebug = none := by kernel_rfl
theorem laidOut : laidOutB Tryz.prog = true := by kernel_rfl

set_option maxRecDepth 100000 in
theorem lifted (os : Os) (started : os.Started) (H : Type) (enc : TypeId × Value → H) :
    ReturnsInHanded {} Tryz.checked os 6 .any (Rows.gensJumpsSpec.pre6 enc Tryz.prog Tryz.f6 Rows.gensJumpsRow.domain false) (Rows.gensJumpsSpec.post enc Tryz.prog Tryz.f6 false true false false) := by
  refine returnsInHanded_of_change_sized (C := Tryz.checked) own started (by kernel_rfl) Tryz.func6
    (ChangeSpec.witness6 (enc := enc) (C := Tryz.checked) false ⟨#[], #[.agg #[.int .i64 0, .int .u64 0, .int .u64 0, .int .u64 0, .int .u64 0], .agg #[.int .u64 0, .int .u64 0, .int .u64 0, .int .u64 0], .agg #[.int .u64 0, .int .u64 0, .int .u64 0, .int .u64 0], .int .i64 0], []⟩ 8 (by kernel_rfl) (by kernel_rfl) (by kernel_rfl) (by kernel_rfl)) ?_
  intro W base args ds gs before hval0 hW hcnd hsz0 _
  have hval : ∀ (j : Nat) t v, Tryz.f6.params[j]? = some t → args[j]? = some v → Value.okWide Tryz.prog W .any base t v := hval0
  have hsz : (DataW.weightsEach Tryz.prog (Tryz.f6.params.toList ++ Rows.gensJumpsSpec.plain.varTypes Tryz.prog) (ds ++ gs)).all (· ≤ reachBytes) = true := hsz0
  have hW' := hW
  obtain ⟨p, q, hA0, hV, rfl, hfz, hnd⟩ := hW
  have hA : DataW.TrodAll enc Tryz.prog W 0 (fun _ => true) true Tryz.f6.params.toList args.toList ds p := hA0
  rw [Tryz.params6] at hA hval hsz
  obtain ⟨v0, vs0, d0, ds0, p0, q0, hargs, rfl, rfl, h0, r0⟩ := trodAll_cons hA
  obtain ⟨v1, vs1, d1, ds1, p1, q1, rfl, rfl, rfl, h1, r1⟩ := trodAll_cons r0
  obtain ⟨v2, vs2, d2, ds2, p2, q2, rfl, rfl, rfl, h2, r2⟩ := trodAll_cons r1
  obtain ⟨v3, vs3, d3, ds3, p3, q3, rfl, rfl, rfl, h3, r3⟩ := trodAll_cons r2
  obtain ⟨rfl, rfl, rfl⟩ := trodAll_nil r3
  obtain rfl : args = #[v0, v1, v2, v3] := by cases args; simp_all
  obtain ⟨rfl, rfl⟩ := trodVars_none hV
  have k0 := h0
  have lt0 : ∀ x ∈ p0, x.block < W.heap.size := by obtain ⟨m, hm⟩ := k0; exact DataW.trod_lt m _ _ _ hm
  have k1 := h1
  have lt1 : ∀ x ∈ p1, x.block < W.heap.size := by obtain ⟨m, hm⟩ := k1; exact DataW.trod_lt m _ _ _ hm
  have k2 := h2
  have lt2 : ∀ x ∈ p2, x.block < W.heap.size := by obtain ⟨m, hm⟩ := k2; exact DataW.trod_lt m _ _ _ hm
  have k3 := h3
  have lt3 : ∀ x ∈ p3, x.block < W.heap.size := by obtain ⟨m, hm⟩ := k3; exact DataW.trod_lt m _ _ _ hm
  obtain ⟨cs0, rfl, sz0, ro0⟩ := okWide_str Tryz.underlying25 (hval 0 25 v0 rfl rfl)
  rw [show Tryz.prog.cellsOf 25 = 5 by kernel_rfl] at sz0
  obtain ⟨c0_0, c0_1, c0_2, c0_3, c0_4, rfl⟩ := arrayN5 sz0
  obtain ⟨x0_0, rfl, b0_0⟩ := cell_i64 Tryz.underlying3 (row_at (ts := [3, 22, 22, 22, 22]) (by kernel_rfl) ro0 0 _ 3 rfl rfl)
  obtain ⟨x0_1, rfl⟩ := cell_u64 Tryz.underlying22 (row_at (ts := [3, 22, 22, 22, 22]) (by kernel_rfl) ro0 1 _ 22 rfl rfl)
  obtain ⟨x0_2, rfl⟩ := cell_u64 Tryz.underlying22 (row_at (ts := [3, 22, 22, 22, 22]) (by kernel_rfl) ro0 2 _ 22 rfl rfl)
  obtain ⟨x0_3, rfl⟩ := cell_u64 Tryz.underlying22 (row_at (ts := [3, 22, 22, 22, 22]) (by kernel_rfl) ro0 3 _ 22 rfl rfl)
  obtain ⟨x0_4, rfl⟩ := cell_u64 Tryz.underlying22 (row_at (ts := [3, 22, 22, 22, 22]) (by kernel_rfl) ro0 4 _ 22 rfl rfl)
  obtain ⟨cs1, rfl, sz1, ro1⟩ := okWide_arr Tryz.underlying49 (hval 1 49 v1 rfl rfl)
  rw [show Tryz.prog.cellsOf 49 = 4 by kernel_rfl] at sz1
  obtain ⟨c1_0, c1_1, c1_2, c1_3, rfl⟩ := arrayN4 sz1
  obtain ⟨x1_0, rfl⟩ := cell_u64 Tryz.underlying22 (row_at (ts := [22, 22, 22, 22]) (by kernel_rfl) ro1 0 _ 22 rfl rfl)
  obtain ⟨x1_1, rfl⟩ := cell_u64 Tryz.underlying22 (row_at (ts := [22, 22, 22, 22]) (by kernel_rfl) ro1 1 _ 22 rfl rfl)
  obtain ⟨x1_2, rfl⟩ := cell_u64 Tryz.underlying22 (row_at (ts := [22, 22, 22, 22]) (by kernel_rfl) ro1 2 _ 22 rfl rfl)
  obtain ⟨x1_3, rfl⟩ := cell_u64 Tryz.underlying22 (row_at (ts := [22, 22, 22, 22]) (by kernel_rfl) ro1 3 _ 22 rfl rfl)
  obtain ⟨cs2, rfl, sz2, ro2⟩ := okWide_arr Tryz.underlying49 (hval 2 49 v2 rfl rfl)
  rw [show Tryz.prog.cellsOf 49 = 4 by kernel_rfl] at sz2
  obtain ⟨c2_0, c2_1, c2_2, c2_3, rfl⟩ := arrayN4 sz2
  obtain ⟨x2_0, rfl⟩ := cell_u64 Tryz.underlying22 (row_at (ts := [22, 22, 22, 22]) (by kernel_rfl) ro2 0 _ 22 rfl rfl)
  obtain ⟨x2_1, rfl⟩ := cell_u64 Tryz.underlying22 (row_at (ts := [22, 22, 22, 22]) (by kernel_rfl) ro2 1 _ 22 rfl rfl)
  obtain ⟨x2_2, rfl⟩ := cell_u64 Tryz.underlying22 (row_at (ts := [22, 22, 22, 22]) (by kernel_rfl) ro2 2 _ 22 rfl rfl)
  obtain ⟨x2_3, rfl⟩ := cell_u64 Tryz.underlying22 (row_at (ts := [22, 22, 22, 22]) (by kernel_rfl) ro2 3 _ 22 rfl rfl)
  obtain ⟨a3, rfl, _, _, w3⟩ := open_int Tryz.underlying3 (hval 3 3 v3 rfl rfl) h3
  clear hA0 hval0
  refine (GensJumps_walk W x0_0 b0_0 x0_1 x0_2 x0_3 x0_4 x1_0 x1_1 x1_2 x1_3 x2_0 x2_1 x2_2 x2_3 a3 w3).mono fun e W' ⟨he, bel⟩ => ?_
  subst he
  exact ⟨_, rfl, _, _, _, [], _, [], hW', trodAll_mk1 (shut_bool Tryz.underlying4 _), (trodAll_cons_mk (Below.trod laidOut (by kernel_rfl) (of_decide_eq_true (by kernel_rfl)) k0 bel lt0) (trodAll_cons_mk (Below.trod laidOut (by kernel_rfl) (of_decide_eq_true (by kernel_rfl)) k1 bel lt1) (trodAll_cons_mk (Below.trod laidOut (by kernel_rfl) (of_decide_eq_true (by kernel_rfl)) k2 bel lt2) (trodAll_cons_mk (Below.trod laidOut (by kernel_rfl) (of_decide_eq_true (by kernel_rfl)) k3 bel lt3) trodAll_mk0)))), rfl, bel.frame _, fun h => by cases h⟩

theorem over : Rows.gensJumpsRow.holds Tryz.pinned (OpenSpec.ofChange Rows.gensJumpsSpec) :=
  OpenClaim.holds_of_wide 6 Tryz.f6 rfl rfl rfl rfl rfl rfl rfl ⟨rfl, rfl, rfl, rfl, rfl⟩ rfl rfl rfl rfl rfl (by kernel_rfl) Tryz.func6 (by kernel_rfl)
    (of_decide_eq_true (by kernel_rfl)) (by unfold Func.isWrapper; first | (rw [if_pos (by decide +kernel)]; kernel_rfl) | (rw [if_neg (by decide +kernel)]; exact ⟨rfl, rfl⟩))
    (fun os started H enc _ => lifted os started H enc)

/-- the statement -/
theorem proved : Rows.GensJumpsSaid := over
end Go.Proofs.YtfaobdmoifnglaaGreat.gensJumps
