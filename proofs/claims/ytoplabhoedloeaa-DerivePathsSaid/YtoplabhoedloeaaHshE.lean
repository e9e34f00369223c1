/- Equality of results and lanes of hashes. -/
import Derived.Test.YtoplabhoedloeaaBlkM
import Derived.Test.YtoplabhoedloeaaGro3
import Derived.Test.YtoplabhoedloeaaLoadA
import Derived.Defers
import Derived.Recover
import Derived.Laws.Pointers
import Derived.Handy
import Derived.Laws.EntriesVeiled
import Derived.ChangeKeysEq
import Derived.Laws.StructEq
namespace Go.Bv
open Go Go.RowKit
theorem put4h {w : World} {q : Nat} {u0 u1 u2 u3 : Value} {T : TypeId} (v0 v1 v2 v3 : Value) (h : w.heap[q]? = some (.cells #[u0, u1, u2, u3] T (0, 0))) :
    ((((((((w).setCell ⟨q, 0, none⟩ v0)).setCell ⟨q, 1, none⟩ v1)).setCell ⟨q, 2, none⟩ v2)).setCell ⟨q, 3, none⟩ v3).heap[q]? = some (.cells #[v0, v1, v2, v3] T (0, 0)) ∧ (∀ j, j ≠ q → ((((((((w).setCell ⟨q, 0, none⟩ v0)).setCell ⟨q, 1, none⟩ v1)).setCell ⟨q, 2, none⟩ v2)).setCell ⟨q, 3, none⟩ v3).heap[j]? = w.heap[j]?) ∧ (∀ W : World, New W w → W.heap.size ≤ q → New W ((((((((w).setCell ⟨q, 0, none⟩ v0)).setCell ⟨q, 1, none⟩ v1)).setCell ⟨q, 2, none⟩ v2)).setCell ⟨q, 3, none⟩ v3)) := by
  refine ⟨?_, fun j hj => ?_, fun W hn hq => ?_⟩
  · have h0 := heap_setCell_same w q 0 _ _ v0 h
    have h1 := heap_setCell_same _ q 1 _ _ v1 h0
    have h2 := heap_setCell_same _ q 2 _ _ v2 h1
    have h3 := heap_setCell_same _ q 3 _ _ v3 h2
    exact h3
  · rw [heap_setCell_other _ _ _ _ hj, heap_setCell_other _ _ _ _ hj, heap_setCell_other _ _ _ _ hj, heap_setCell_other _ _ _ _ hj]
  · exact (((hn.setCell (by exact hq) _).setCell (by exact hq) _).setCell (by exact hq) _).setCell (by exact hq) _
end Go.Bv
namespace Go.Proofs.Ytoplabhoedloeaa
open Go.RowKit Go.Bv
set_option linter.unusedVariables false
theorem info4h : (Try.prog.info? 22).isSome = true := by kernel_rfl
theorem plain4h : Try.prog.plainKey 22 = true := by kernel_rfl
theorem cells4h : Try.prog.cellsOf 22 = 1 := by kernel_rfl
theorem eq4h (w : World) (x0 x1 x2 x3 y0 y1 y2 y3 : BitVec 64) :
    (Op.equalIn 10000 57 (.agg #[.int .u64 (W64 x0), .int .u64 (W64 x1), .int .u64 (W64 x2), .int .u64 (W64 x3)]) (.agg #[.int .u64 (W64 y0), .int .u64 (W64 y1), .int .u64 (W64 y2), .int .u64 (W64 y3)])).run Try.prog w =
      .ok (x0 == y0 && (x1 == y1 && (x2 == y2 && x3 == y3))) w := by
  obtain ⟨i, hi⟩ := Option.isSome_iff_exists.1 info4h
  rw [run_equalIn_array w 9999 _ _ Try.underlying57 hi, cells4h, show List.range 4 = [0, 1, 2, 3] from rfl]
  have hu := Try.underlying22
  have e0 := run_part_plain (w := w) (v := .int .u64 (W64 x0)) plain4h (xs := #[.int .u64 (W64 x0), .int .u64 (W64 x1), .int .u64 (W64 x2), .int .u64 (W64 x3)]) (off := 0) rfl
  have e1 := run_part_plain (w := w) (v := .int .u64 (W64 x1)) plain4h (xs := #[.int .u64 (W64 x0), .int .u64 (W64 x1), .int .u64 (W64 x2), .int .u64 (W64 x3)]) (off := 1) rfl
  have e2 := run_part_plain (w := w) (v := .int .u64 (W64 x2)) plain4h (xs := #[.int .u64 (W64 x0), .int .u64 (W64 x1), .int .u64 (W64 x2), .int .u64 (W64 x3)]) (off := 2) rfl
  have e3 := run_part_plain (w := w) (v := .int .u64 (W64 x3)) plain4h (xs := #[.int .u64 (W64 x0), .int .u64 (W64 x1), .int .u64 (W64 x2), .int .u64 (W64 x3)]) (off := 3) rfl
  have f0 := run_part_plain (w := w) (v := .int .u64 (W64 y0)) plain4h (xs := #[.int .u64 (W64 y0), .int .u64 (W64 y1), .int .u64 (W64 y2), .int .u64 (W64 y3)]) (off := 0) rfl
  have f1 := run_part_plain (w := w) (v := .int .u64 (W64 y1)) plain4h (xs := #[.int .u64 (W64 y0), .int .u64 (W64 y1), .int .u64 (W64 y2), .int .u64 (W64 y3)]) (off := 1) rfl
  have f2 := run_part_plain (w := w) (v := .int .u64 (W64 y2)) plain4h (xs := #[.int .u64 (W64 y0), .int .u64 (W64 y1), .int .u64 (W64 y2), .int .u64 (W64 y3)]) (off := 2) rfl
  have f3 := run_part_plain (w := w) (v := .int .u64 (W64 y3)) plain4h (xs := #[.int .u64 (W64 y0), .int .u64 (W64 y1), .int .u64 (W64 y2), .int .u64 (W64 y3)]) (off := 3) rfl
  have g0 := run_equalIn_int (w := w) 9998 _ .u64 .u64 (W64 x0) (W64 y0) hu
  have g1 := run_equalIn_int (w := w) 9998 _ .u64 .u64 (W64 x1) (W64 y1) hu
  have g2 := run_equalIn_int (w := w) 9998 _ .u64 .u64 (W64 x2) (W64 y2) hu
  have g3 := run_equalIn_int (w := w) 9998 _ .u64 .u64 (W64 x3) (W64 y3) hu
  rw [eq_u64] at g0 g1 g2 g3
  simp only [Op.eqItems, Sem.run_bind, Nat.mul_one, e0, f0, g0, Result.andThen_ok]
  rcases h0 : x0 == y0 <;> rcases h1 : x1 == y1 <;> rcases h2 : x2 == y2 <;> rcases h3 : x3 == y3 <;> rw [h1] at g1 <;> rw [h2] at g2 <;> rw [h3] at g3 <;> simp [Sem.run_bind, e1, e2, e3, f1, f2, f3, g1, g2, g3]
theorem plainUh : Try.prog.plainKey 22 = true := by kernel_rfl
theorem fieldsUh : ((Try.prog.fieldsOf 24).toList.map fun f => (f.type, f.offset, decide (f.name = "_"))) = [(22, 0, false), (22, 1, false)] := by kernel_rfl
theorem eqUh (w : World) (x1 y1 x0 y0 : BitVec 64) :
    (Op.equalIn 10000 24 (.agg #[.int .u64 (W64 x1), .int .u64 (W64 x0)]) (.agg #[.int .u64 (W64 y1), .int .u64 (W64 y0)])).run Try.prog w = .ok (x1 == y1 && x0 == y0) w := by
  have hu := Try.underlying22
  have g1 := run_equalIn_int (w := w) 9998 _ .u64 .u64 (W64 x1) (W64 y1) hu
  have g0 := run_equalIn_int (w := w) 9998 _ .u64 .u64 (W64 x0) (W64 y0) hu
  rw [eq_u64] at g1 g0
  have e1 := run_part_plain (w := w) (v := .int .u64 (W64 x1)) plainUh (xs := #[.int .u64 (W64 x1), .int .u64 (W64 x0)]) (off := 0) rfl
  have e0 := run_part_plain (w := w) (v := .int .u64 (W64 x0)) plainUh (xs := #[.int .u64 (W64 x1), .int .u64 (W64 x0)]) (off := 1) rfl
  have f1 := run_part_plain (w := w) (v := .int .u64 (W64 y1)) plainUh (xs := #[.int .u64 (W64 y1), .int .u64 (W64 y0)]) (off := 0) rfl
  have f0 := run_part_plain (w := w) (v := .int .u64 (W64 y0)) plainUh (xs := #[.int .u64 (W64 y1), .int .u64 (W64 y0)]) (off := 1) rfl
  rw [run_equalIn_struct w 9999 _ _ _ (by kernel_rfl) (by kernel_rfl)]
  have hfs := fieldsUh
  generalize (Try.prog.fieldsOf 24).toList = fs at hfs
  obtain ⟨a, l1, rfl, ha, h1⟩ := List.map_eq_cons_iff.1 hfs
  obtain ⟨b, l2, rfl, hb, h2⟩ := List.map_eq_cons_iff.1 h1
  obtain rfl := List.map_eq_nil_iff.1 h2
  simp only [Prod.mk.injEq, decide_eq_false_iff_not] at ha hb
  obtain ⟨t1, o1, n1⟩ := ha
  obtain ⟨t2, o2, n2⟩ := hb
  simp only [Op.eqFields, t1, o1, n1, t2, o2, n2, ne_eq, not_false_eq_true, if_true, Sem.run_bind, e1, f1, g1, Result.andThen_ok]
  rcases h1 : x1 == y1 <;> rcases h0 : x0 == y0 <;> rw [h0] at g0 <;> simp [Sem.run_bind, e0, f0, g0]
theorem eqUs (w : World) (x1 x0 : BitVec 64) : (Op.equalIn 10000 24 (.agg #[.int .u64 (W64 x1), .int .u64 (W64 x0)]) (.agg #[.int .u64 (W64 x1), .int .u64 (W64 x0)])).run Try.prog w = .ok true w := by
  have h := eqUh w x1 x1 x0 x0
  simpa using h
theorem eqUz (w : World) : (Op.equalIn 10000 24 (.agg #[.int .u64 0, .int .u64 0]) (.agg #[.int .u64 0, .int .u64 0])).run Try.prog w = .ok true w := by
  have h := eqUs w 0#64 0#64
  rwa [show W64 0#64 = 0 by decide] at h
theorem eq4s (w : World) (x0 x1 x2 x3 : BitVec 64) : (Op.equalIn 10000 57 (.agg #[.int .u64 (W64 x0), .int .u64 (W64 x1), .int .u64 (W64 x2), .int .u64 (W64 x3)]) (.agg #[.int .u64 (W64 x0), .int .u64 (W64 x1), .int .u64 (W64 x2), .int .u64 (W64 x3)])).run Try.prog w = .ok true w := by
  have h := eq4h w x0 x1 x2 x3 x0 x1 x2 x3
  simpa using h
theorem eq4zz (w : World) : (Op.equalIn 10000 57 (.agg #[.int .u64 0, .int .u64 0, .int .u64 0, .int .u64 0]) (.agg #[.int .u64 0, .int .u64 0, .int .u64 0, .int .u64 0])).run Try.prog w = .ok true w := by
  have h := eq4s w 0#64 0#64 0#64 0#64
  rwa [show W64 0#64 = 0 by decide] at h
/-- two words, and zeros, against four words -/
theorem eq4p (w : World) (x0 x1 x2 x3 y0 y1 : BitVec 64) : (Op.equalIn 10000 57 (.agg #[.int .u64 (W64 x0), .int .u64 (W64 x1), .int .u64 (W64 x2), .int .u64 (W64 x3)]) (.agg #[.int .u64 (W64 y0), .int .u64 (W64 y1), .int .u64 0, .int .u64 0])).run Try.prog w = .ok (x0 == y0 && (x1 == y1 && (x2 == 0#64 && x3 == 0#64))) w := by
  have h := eq4h w x0 x1 x2 x3 y0 y1 0#64 0#64
  rwa [show W64 0#64 = 0 by decide] at h
theorem eq4q (w : World) (x0 x1 : BitVec 64) : (Op.equalIn 10000 57 (.agg #[.int .u64 (W64 x0), .int .u64 (W64 x1), .int .u64 0, .int .u64 0]) (.agg #[.int .u64 (W64 x0), .int .u64 (W64 x1), .int .u64 0, .int .u64 0])).run Try.prog w = .ok true w := by
  have h := eq4s w x0 x1 0#64 0#64
  rwa [show W64 0#64 = 0 by decide] at h
end Go.Proofs.Ytoplabhoedloeaa
