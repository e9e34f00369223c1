import Derived.Test.YthkmcnlciefnfaaGreatZ5CfgE
import Derived.ChangeKeysEq
import Derived.Laws.StructEq
/- Layer 47: equality of states; the law ConfigOf. -/
namespace Go.Proofs.YthkmcnlciefnfaaGreat
open Go Go.RowKit Go.Bv
set_option linter.unusedVariables false
set_option maxRecDepth 100000
theorem plainI15C : Tryz.prog.plainKey 3 = true := by kernel_rfl
theorem fields15C : ((Tryz.prog.fieldsOf 38).toList.map fun f => (f.type, f.offset, decide (f.name = "_"))) = [(3, 0, false), (36, 1, false)] := by kernel_rfl
theorem cells4_15C : Tryz.prog.cellsOf 36 = 4 := by kernel_rfl
theorem info4_15C : (Tryz.prog.info? 36).isSome = true := by kernel_rfl
theorem part4_15C (w : World) (k : Int) (q : W4) : (part 36 (stc k q) 1).run Tryz.prog w = .ok (.agg q.cells) w := by
  obtain ⟨i, hi⟩ := Option.isSome_iff_exists.1 info4_15C
  have hu := Tryz.underlying36
  have hs := run_sizeOf w hi
  rw [cells4_15C] at hs
  have ha : (isAgg 36).run Tryz.prog w = .ok true w := by simp [isAgg, run_underlying hu]
  unfold part
  simp only [Sem.run_bind, ha, hs, Result.andThen_ok, if_true, Sem.run_pure]
  rfl
theorem eqStC (w : World) (k k' : Int) (q q' : W4) :
    (Op.equalIn 10000 38 (.agg (stc k q)) (.agg (stc k' q'))).run Tryz.prog w = .ok (k == k' && (q.a == q'.a && (q.b == q'.b && (q.c == q'.c && q.d == q'.d)))) w := by
  have hu := Tryz.underlying3
  have g1 := run_equalIn_int (w := w) 9998 _ .i64 .i64 k k' hu
  have g2 := eq4d 9997 36 Tryz.underlying36 w q.a q.b q.c q.d q'.a q'.b q'.c q'.d
  have e1 := run_part_plain (w := w) (v := .int .i64 k) plainI15C (xs := stc k q) (off := 0) rfl
  have f1 := run_part_plain (w := w) (v := .int .i64 k') plainI15C (xs := stc k' q') (off := 0) rfl
  have e2 := part4_15C w k q
  have f2 := part4_15C w k' q'
  rw [run_equalIn_struct w 9999 _ _ _ (by kernel_rfl) (by kernel_rfl)]
  have hfs := fields15C
  generalize (Tryz.prog.fieldsOf 38).toList = fs at hfs
  obtain ⟨a, l1, rfl, ha, h1⟩ := List.map_eq_cons_iff.1 hfs
  obtain ⟨b, l2, rfl, hb, h2⟩ := List.map_eq_cons_iff.1 h1
  obtain rfl := List.map_eq_nil_iff.1 h2
  simp only [Prod.mk.injEq, decide_eq_false_iff_not] at ha hb
  obtain ⟨t1, o1, n1⟩ := ha
  obtain ⟨t2, o2, n2⟩ := hb
  simp only [Op.eqFields, t1, o1, n1, t2, o2, n2, ne_eq, not_false_eq_true, if_true, Sem.run_bind, e1, f1, g1, Result.andThen_ok]
  rcases h1 : k == k' <;> rcases h0 : (q.a == q'.a && (q.b == q'.b && (q.c == q'.c && q.d == q'.d))) <;> rw [h0] at g2 <;> simp [Sem.run_bind, e2, f2, g2]
theorem eqSt_selfC (w : World) (k : Int) (q : W4) : (Op.equalIn 10000 38 (.agg (stc k q)) (.agg (stc k q))).run Tryz.prog w = .ok true w := by
  rw [eqStC]; simp
theorem eqSt_zeroC (w : World) : (Op.equalIn 10000 38 (.agg #[.int .i64 0, .int .u64 0, .int .u64 0, .int .u64 0, .int .u64 0]) (.agg #[.int .i64 0, .int .u64 0, .int .u64 0, .int .u64 0, .int .u64 0])).run Tryz.prog w = .ok true w := eqSt_selfC w 0 ⟨0#64, 0#64, 0#64, 0#64⟩
/-- a config of the kind with the words X -/
def RowV (k : Int) (Z : Nat) (X : List (BitVec 64)) (v : Value) (w : World) : Prop := ∃ a c, v = .agg #[.int .i64 3, .int .i64 k, .int .i64 0, .int .u64 0, .int .u64 0, .slice a Z c] ∧ QRow w a Z c X
theorem RowV.stay {k : Int} {Z : Nat} {X : List (BitVec 64)} {v : Value} {w w' : World} (h : RowV k Z X v w) (hn : New w w') : RowV k Z X v w' := let ⟨a, c, e, hr⟩ := h; ⟨a, c, e, hr.stay hn⟩
theorem RowV.row {k : Int} {Z : Nat} {X : List (BitVec 64)} {w : World} {a : Option Addr} {c : Nat} (h : RowV k Z X (.agg #[.int .i64 3, .int .i64 k, .int .i64 0, .int .u64 0, .int .u64 0, .slice a Z c]) w) : QRow w a Z c X := by
  obtain ⟨a', c', e, hr⟩ := h
  cases e
  exact hr
theorem szK_ok (k : Int) : szK k = 0 ↔ okK k = false := by
  constructor
  · intro h
    cases hk : okK k with
    | false => rfl
    | true => rcases sz_cases hk with e | e | e <;> omega
  · intro h
    unfold okK at h
    simp at h
    unfold szK
    rw [if_neg (by omega), if_neg (by omega), if_neg (by omega)]
end Go.Proofs.YthkmcnlciefnfaaGreat
