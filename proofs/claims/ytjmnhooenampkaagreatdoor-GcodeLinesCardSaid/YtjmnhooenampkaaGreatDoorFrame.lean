/- Plain lemmas for the frames: what is known of an argument that is an array or a struct of words, by value; that nothing old has changed. -/
import Derived.Test.YtjmnhooenampkaaGreatDoorNew
import Derived.Lib.SmallJoins
import Derived.OpenShut
import Derived.ChangeOld
namespace Go.Bv
open Go Go.RowKit Go.WideShapes
/-- a slice of integers that came in: nil, or a row of cap cells, the numbers zs -/
def IRow (k : IntKind) (w : World) (a : Option Addr) (len cap : Nat) (zs : List Int) : Prop :=
  (a = none ∧ len = 0 ∧ cap = 0 ∧ zs = []) ∨
  ∃ x, a = some x ∧ len ≤ cap ∧ zs.length = cap ∧ (∀ i, i < zs.length → w.cell? (x.add i) = some (.int k (zs.getD i 0))) ∧ ∀ n ∈ zs, (Lit.int k n).wf = true
theorem arrayN1 {α : Type} {cs : Array α} (h : cs.size = 1) : ∃ c0, cs = #[c0] := by
  obtain ⟨l⟩ := cs
  match l, h with
  | [c0], _ => exact ⟨c0, rfl⟩
theorem arrayN2 {α : Type} {cs : Array α} (h : cs.size = 2) : ∃ c0 c1, cs = #[c0, c1] := by
  obtain ⟨l⟩ := cs
  match l, h with
  | [c0, c1], _ => exact ⟨c0, c1, rfl⟩
theorem arrayN3 {α : Type} {cs : Array α} (h : cs.size = 3) : ∃ c0 c1 c2, cs = #[c0, c1, c2] := by
  obtain ⟨l⟩ := cs
  match l, h with
  | [c0, c1, c2], _ => exact ⟨c0, c1, c2, rfl⟩
theorem arrayN4 {α : Type} {cs : Array α} (h : cs.size = 4) : ∃ c0 c1 c2 c3, cs = #[c0, c1, c2, c3] := by
  obtain ⟨l⟩ := cs
  match l, h with
  | [c0, c1, c2, c3], _ => exact ⟨c0, c1, c2, c3, rfl⟩
theorem arrayN5 {α : Type} {cs : Array α} (h : cs.size = 5) : ∃ c0 c1 c2 c3 c4, cs = #[c0, c1, c2, c3, c4] := by
  obtain ⟨l⟩ := cs
  match l, h with
  | [c0, c1, c2, c3, c4], _ => exact ⟨c0, c1, c2, c3, c4, rfl⟩
theorem arrayN6 {α : Type} {cs : Array α} (h : cs.size = 6) : ∃ c0 c1 c2 c3 c4 c5, cs = #[c0, c1, c2, c3, c4, c5] := by
  obtain ⟨l⟩ := cs
  match l, h with
  | [c0, c1, c2, c3, c4, c5], _ => exact ⟨c0, c1, c2, c3, c4, c5, rfl⟩
theorem arrayN8 {α : Type} {cs : Array α} (h : cs.size = 8) : ∃ c0 c1 c2 c3 c4 c5 c6 c7, cs = #[c0, c1, c2, c3, c4, c5, c6, c7] := by
  obtain ⟨l⟩ := cs
  match l, h with
  | [c0, c1, c2, c3, c4, c5, c6, c7], _ => exact ⟨c0, c1, c2, c3, c4, c5, c6, c7, rfl⟩
section
variable {P : Program} {w : World} {r : Reach} {base : Nat}
theorem okWide_arr {t : TypeId} {a : Nat} {b : Nat} {v : Value} (hu : P.underlying t = some (.array a b)) (h : Value.okWide P w r base t v) :
    ∃ cs, v = .agg cs ∧ cs.size = P.cellsOf t ∧ Row.okWide P w r base t cs := by
  simpa only [Value.okWide, hu] using h
theorem okWide_str {t : TypeId} {fs : Array Field} {v : Value} (hu : P.underlying t = some (.struct fs)) (h : Value.okWide P w r base t v) :
    ∃ cs, v = .agg cs ∧ cs.size = P.cellsOf t ∧ Row.okWide P w r base t cs := by
  simpa only [Value.okWide, hu] using h
theorem cell_u64 {T : TypeId} {c : Value} (hT : P.underlying T = some (.int .u64)) (h : Cell.okWide P w r base T c) : ∃ x : BitVec 64, c = .int .u64 (W64 x) := by
  cases c <;> simp [Cell.okWide, Cell.ok, hT] at h
  obtain ⟨rfl, h⟩ := h
  rename_i n
  obtain ⟨x, rfl⟩ := ex64 n (by simp [IntKind.has, IntKind.min, IntKind.max, IntKind.signed, IntKind.bits] at h; omega)
  exact ⟨x, rfl⟩
theorem cell_u32 {T : TypeId} {c : Value} (hT : P.underlying T = some (.int .u32)) (h : Cell.okWide P w r base T c) : ∃ x : BitVec 32, c = .int .u32 (W32 x) := by
  cases c <;> simp [Cell.okWide, Cell.ok, hT] at h
  obtain ⟨rfl, h⟩ := h
  rename_i n
  obtain ⟨x, rfl⟩ := ex32 n (by simp [IntKind.has, IntKind.min, IntKind.max, IntKind.signed, IntKind.bits] at h; omega)
  exact ⟨x, rfl⟩
theorem cell_i64 {T : TypeId} {c : Value} (hT : P.underlying T = some (.int .i64)) (h : Cell.okWide P w r base T c) :
    ∃ n : Int, c = .int .i64 n ∧ -9223372036854775808 ≤ n ∧ n ≤ 9223372036854775807 := by
  cases c <;> simp [Cell.okWide, Cell.ok, hT] at h
  obtain ⟨rfl, h⟩ := h
  rename_i n
  exact ⟨n, rfl, by simp [IntKind.has, IntKind.min, IntKind.max, IntKind.signed, IntKind.bits] at h; omega⟩
theorem row_at {t : TypeId} {ts : List TypeId} {cs : Array Value} (hts : P.cellTypes P.depth t = some ts) (h : Row.okWide P w r base t cs) (i : Nat) (v : Value) (u : TypeId)
    (hv : cs[i]? = some v) (hu : ts[i % ts.length]? = some u) : Cell.okWide P w r base u v := by
  obtain ⟨ts', h1, _, h3⟩ := h
  rw [hts] at h1
  cases h1
  obtain ⟨u', h4, h5⟩ := h3 i v hv
  rw [hu] at h4
  cases h4
  exact h5
end
end Go.Bv
