import Derived.Test.YthkmcnlciefnfaaGreatZ4CfgF
import Derived.Lib.SmallJoins
import Derived.OpenShut
import Derived.ChangeOld
section
namespace Go.Bv
open Go Go.RowKit Go.WideShapes
theorem arrayN5 {α : Type} {cs : Array α} (h : cs.size = 5) : ∃ c0 c1 c2 c3 c4, cs = #[c0, c1, c2, c3, c4] := by
  obtain ⟨l⟩ := cs
  match l, h with
  | [c0, c1, c2, c3, c4], _ => exact ⟨c0, c1, c2, c3, c4, rfl⟩
section
variable {P : Program} {w : World} {r : Reach} {base : Nat}
theorem okWide_str {t : TypeId} {fs : Array Field} {v : Value} (hu : P.underlying t = some (.struct fs)) (h : Value.okWide P w r base t v) :
    ∃ cs, v = .agg cs ∧ cs.size = P.cellsOf t ∧ Row.okWide P w r base t cs := by
  simpa only [Value.okWide, hu] using h
theorem cell_u64 {T : TypeId} {c : Value} (hT : P.underlying T = some (.int .u64)) (h : Cell.okWide P w r base T c) : ∃ x : BitVec 64, c = .int .u64 (W64 x) := by
  cases c <;> simp [Cell.okWide, Cell.ok, hT] at h
  obtain ⟨rfl, h⟩ := h
  rename_i n
  obtain ⟨x, rfl⟩ := ex64 n (by simp [IntKind.has, IntKind.min, IntKind.max, IntKind.signed, IntKind.bits] at h; omega)
  exact ⟨x, rfl⟩
theorem cell_i64 {T : TypeId} {c : Value} (hT : P.underlying T = some (.int .i64)) (h : Cell.okWide P w r base T c) :
    ∃ n : Int, c = .int .i64 n ∧ -9223372036854775808 ≤ n ∧ n ≤ 9223372036854775807 := by
  cases c <;> simp [Cell.okWide, Cell.ok, hT] at h
  obtain ⟨rfl, h⟩ := h
  rename_i n
  exact ⟨n, rfl, by simp [IntKind.has, IntKind.min, IntKind.max, IntKind.signed, IntKind.bits] at h; omega⟩
theorem row_at {t : TypeId} {ts : List TypeId} {cs : Array Value} (hts : P.cellTypes P.depth t = some ts) (h : Row.okWide P w r base t cs) (i : Nat) (v : Value) (u : TypeId)
    (hv : cs[i]? = some v) (hu : ts[i % ts.length]? = some u) : Cell.okWide P w r base u v := by
  obtain ⟨ts', h1, _, h3⟩ := h
  rw [hts] at h1
  cases h1
  obtain ⟨u', h4, h5⟩ := h3 i v hv
  rw [hu] at h4
  cases h4
  exact h5
end
end Go.Bv
end
