import Derived.Test.YthkmcnlciefnfaaGreatZ4Rot64
import Derived.Laws.StructEq
import Derived.ChangeKeysEq
import Derived.Handy
import Derived.BigQuiet
import Derived.Test.YthkmcnlciefnfaaGreatZ4Class
/- Contracts of layer 20: the parts: allowed, Check, Eval, Top, Power, Bound, same, gap, limit, low; modn.Left, Odd. -/
namespace Go.Bv
open Go Go.RowKit
/-- the error's number -/
def chkM (a : BitVec 64) (k : Int) : Int := if k < 1 ∨ 64 < k then 1 else if a &&& 1#64 = 0#64 then 13 else 0
end Go.Bv
namespace Go.Proofs.YthkmcnlciefnfaaGreat
open Go.RowKit Go.Bv
set_option linter.unusedVariables false
theorem fields128 : ((Tryz.prog.fieldsOf 24).toList.map fun f => (f.type, f.offset, decide (f.name = "_"))) = [(22, 0, false), (22, 1, false)] := by kernel_rfl
theorem plain_u64 : Tryz.prog.plainKey 22 = true := by kernel_rfl
theorem equ128 (w : World) (x1 x0 y1 y0 : BitVec 64) :
    (Op.equalIn 10000 24 (.agg #[.int .u64 (W64 x1), .int .u64 (W64 x0)]) (.agg #[.int .u64 (W64 y1), .int .u64 (W64 y0)])).run Tryz.prog w = .ok (x1 == y1 && x0 == y0) w := by
  have hu := Tryz.underlying22
  have g1 := run_equalIn_int (w := w) 9998 _ .u64 .u64 (W64 x1) (W64 y1) hu
  have g0 := run_equalIn_int (w := w) 9998 _ .u64 .u64 (W64 x0) (W64 y0) hu
  rw [eq_u64] at g0 g1
  have e1 := run_part_plain (w := w) (v := .int .u64 (W64 x1)) plain_u64 (xs := #[.int .u64 (W64 x1), .int .u64 (W64 x0)]) (off := 0) rfl
  have e0 := run_part_plain (w := w) (v := .int .u64 (W64 x0)) plain_u64 (xs := #[.int .u64 (W64 x1), .int .u64 (W64 x0)]) (off := 1) rfl
  have f1 := run_part_plain (w := w) (v := .int .u64 (W64 y1)) plain_u64 (xs := #[.int .u64 (W64 y1), .int .u64 (W64 y0)]) (off := 0) rfl
  have f0 := run_part_plain (w := w) (v := .int .u64 (W64 y0)) plain_u64 (xs := #[.int .u64 (W64 y1), .int .u64 (W64 y0)]) (off := 1) rfl
  rw [run_equalIn_struct w 9999 _ _ _ (by kernel_rfl) (by kernel_rfl)]
  have hfs := fields128
  generalize (Tryz.prog.fieldsOf 24).toList = fs at hfs
  obtain ⟨a, l1, rfl, ha, h1⟩ := List.map_eq_cons_iff.1 hfs
  obtain ⟨b, l2, rfl, hb, h2⟩ := List.map_eq_cons_iff.1 h1
  obtain rfl := List.map_eq_nil_iff.1 h2
  simp only [Prod.mk.injEq, decide_eq_false_iff_not] at ha hb
  obtain ⟨t1, o1, n1⟩ := ha
  obtain ⟨t2, o2, n2⟩ := hb
  simp only [Op.eqFields, t1, o1, n1, t2, o2, n2, ne_eq, not_false_eq_true, if_true, Sem.run_bind, e1, f1, g1, Result.andThen_ok]
  rcases h1 : x1 == y1 <;> rcases h0 : x0 == y0 <;> rw [h0] at g0 <;> simp [Sem.run_bind, e0, f0, g0]
theorem allowed_m (k : Int) (w : World) : Calls Tryz.prog 318 #[.int .i64 k] w fun e w' => e = .returned (.bool (!decide (k < 1 ∨ 64 < k))) ∧ w' = w := by
  by_cases h1 : 1 ≤ k
  · by_cases h2 : k ≤ 64
    · rw [show decide (k < 1 ∨ 64 < k) = false from decide_eq_false (by omega), Bool.not_false]
      go_enter Tryz.func318, Tryz.ntmps318
      go_wp2
      go_ret
      exact ⟨rfl, rfl⟩
    · rw [show decide (k < 1 ∨ 64 < k) = true from decide_eq_true (by omega), Bool.not_true]
      go_enter Tryz.func318, Tryz.ntmps318
      go_wp2
      go_ret
      exact ⟨rfl, rfl⟩
  · rw [show decide (k < 1 ∨ 64 < k) = true from decide_eq_true (by omega), Bool.not_true]
    go_enter Tryz.func318, Tryz.ntmps318
    go_wp2
    go_ret
    exact ⟨rfl, rfl⟩
theorem check_m (a : BitVec 64) (k : Int) (w : World) : Calls Tryz.prog 200 #[.int .u64 (W64 a), .int .i64 k] w fun e w' => e = .returned (.int .i64 (chkM a k)) ∧ w' = w := by
  have HA := Lib.hid (allowed_m k w)
  unfold chkM
  by_cases h : k < 1 ∨ 64 < k
  · rw [decide_eq_true h, Bool.not_true] at HA
    rw [if_pos h]
    clear h
    go_enter Tryz.func200, Tryz.ntmps200
    go_wp2_with fail
    refine HA.out.mono ?_
    rintro e w1 ⟨rfl, rfl⟩
    go_wp2
    go_ret
    exact ⟨rfl, rfl⟩
  · rw [decide_eq_false h, Bool.not_false] at HA
    rw [if_neg h]
    clear h
    by_cases h : a &&& 1#64 = 0#64
    · rw [if_pos h]
      have z1 : (a &&& 1#64 == 0#64) = true := by rw [h]; rfl
      clear h
      go_enter Tryz.func200, Tryz.ntmps200
      go_wp2_with fail
      refine HA.out.mono ?_
      rintro e w1 ⟨rfl, rfl⟩
      go_wp2
      go_ret
      exact ⟨rfl, rfl⟩
    · rw [if_neg h]
      have z1 : (a &&& 1#64 == 0#64) = false := beq_false_of_ne h
      clear h
      go_enter Tryz.func200, Tryz.ntmps200
      go_wp2_with fail
      refine HA.out.mono ?_
      rintro e w1 ⟨rfl, rfl⟩
      go_wp2
      go_ret
      exact ⟨rfl, rfl⟩
end Go.Proofs.YthkmcnlciefnfaaGreat
