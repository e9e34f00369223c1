/- Contracts of mers89's Fold and Mul: for all numbers. -/
import Derived.Test.YtagidgboebjkhaaDoorMeiC
import Derived.BigRegion
namespace Go.Proofs.YtagidgboebjkhaaDoor
open Go.RowKit Go.Bv
set_option linter.unusedVariables false
set_option maxHeartbeats 1000000 in
theorem part_0 (X : BitVec 256) (b : Nat) (w : World) (h : w.heap[b]? = some (.cells #[.int .u64 (W64 (X.extractLsb' 0 64)), .int .u64 (W64 (X.extractLsb' 64 64)), .int .u64 (W64 (X.extractLsb' 128 64)), .int .u64 (W64 (X.extractLsb' 192 64)), .int .u64 0, .int .u64 0] 43 (0, 0))) :
    Calls Tryd.prog 18 #[.int .i64 0, .pointer (some ⟨b, 0, none⟩)] w fun e w' => e = .returned (.agg #[.int .u64 (W64 (hi128 (part89 X 0))), .int .u64 (W64 (lo128 (part89 X 0)))]) ∧ New w w' := by
  have hi := part_hi0 X
  have hl := part_lo0 X
  have hs := ((New.refl w).alloc (.cells #[.int .u64 0, .int .u64 0] 26)).block _ (lt_of_block h)
  rw [h] at hs
  have h0 := heap_alloc_new w (.cells #[.int .u64 0, .int .u64 0] 26)
  have hn := (New.refl w).alloc (.cells #[.int .u64 0, .int .u64 0] 26)
  generalize part89 X 0 = p at *
  obtain ⟨x0, e0⟩ : ∃ x, (X.extractLsb' 0 64) = x := ⟨_, rfl⟩
  obtain ⟨x1, e1⟩ : ∃ x, (X.extractLsb' 64 64) = x := ⟨_, rfl⟩
  obtain ⟨x2, e2⟩ : ∃ x, (X.extractLsb' 128 64) = x := ⟨_, rfl⟩
  obtain ⟨x3, e3⟩ : ∃ x, (X.extractLsb' 192 64) = x := ⟨_, rfl⟩
  simp only [e0, e1, e2, e3] at hi hl hs
  clear e0 e1 e2 e3 h
  simp at hi hl
  have HS := Lib.hid hs
  have H0 := Lib.hid h0
  have HN := Lib.hid hn
  clear hs h0 hn
  have v1 : IntKind.i64.wrap 1 = 1 := by decide
  have v2 : IntKind.i64.wrap 2 = 2 := by decide
  have v3 : IntKind.i64.wrap 3 = 3 := by decide
  have v4 : IntKind.i64.wrap 4 = 4 := by decide
  have v64 : IntKind.i64.wrap 64 = 64 := by decide
  have v39 : IntKind.i64.wrap 39 = 39 := by decide
  have v14 : IntKind.i64.wrap 14 = 14 := by decide
  go_enter Tryd.func18, Tryd.ntmps18
  go_wp2_with fail
  generalize w.alloc (.cells #[.int .u64 0, .int .u64 0] 26) = w0 at *
  have c0 : w0.cell? ⟨b, 0, none⟩ = some (.int .u64 (W64 x0)) := cell_of_row _ _ 0 _ _ _ HS.out
  have c1 : w0.cell? ⟨b, 1, none⟩ = some (.int .u64 (W64 x1)) := cell_of_row _ _ 1 _ _ _ HS.out
  have c2 : w0.cell? ⟨b, 2, none⟩ = some (.int .u64 (W64 x2)) := cell_of_row _ _ 2 _ _ _ HS.out
  have c3 : w0.cell? ⟨b, 3, none⟩ = some (.int .u64 (W64 x3)) := cell_of_row _ _ 3 _ _ _ HS.out
  have c4 : w0.cell? ⟨b, 4, none⟩ = some (.int .u64 0) := cell_of_row _ _ 4 _ _ _ HS.out
  have z0 := (show Z2 w0 _ _ from H0.out).c0
  have z1 := (show Z2 w0 _ _ from H0.out).c1
  have zf := (show Z2 w0 _ _ from H0.out).free
  go_region
  go_wp2
  refine bodyPost_ret (by simp [results, Tryd.results18, go_sem, z0, z1]; try rfl) rfl ?_
  exact ⟨rfl, (put2_new _ HN.out (Nat.le_refl _)).drew⟩
set_option maxHeartbeats 1000000 in
theorem part_1 (X : BitVec 256) (b : Nat) (w : World) (h : w.heap[b]? = some (.cells #[.int .u64 (W64 (X.extractLsb' 0 64)), .int .u64 (W64 (X.extractLsb' 64 64)), .int .u64 (W64 (X.extractLsb' 128 64)), .int .u64 (W64 (X.extractLsb' 192 64)), .int .u64 0, .int .u64 0] 43 (0, 0))) :
    Calls Tryd.prog 18 #[.int .i64 1, .pointer (some ⟨b, 0, none⟩)] w fun e w' => e = .returned (.agg #[.int .u64 (W64 (hi128 (part89 X 1))), .int .u64 (W64 (lo128 (part89 X 1)))]) ∧ New w w' := by
  have hi := part_hi1 X
  have hl := part_lo1 X
  have hs := ((New.refl w).alloc (.cells #[.int .u64 0, .int .u64 0] 26)).block _ (lt_of_block h)
  rw [h] at hs
  have h0 := heap_alloc_new w (.cells #[.int .u64 0, .int .u64 0] 26)
  have hn := (New.refl w).alloc (.cells #[.int .u64 0, .int .u64 0] 26)
  generalize part89 X 1 = p at *
  obtain ⟨x0, e0⟩ : ∃ x, (X.extractLsb' 0 64) = x := ⟨_, rfl⟩
  obtain ⟨x1, e1⟩ : ∃ x, (X.extractLsb' 64 64) = x := ⟨_, rfl⟩
  obtain ⟨x2, e2⟩ : ∃ x, (X.extractLsb' 128 64) = x := ⟨_, rfl⟩
  obtain ⟨x3, e3⟩ : ∃ x, (X.extractLsb' 192 64) = x := ⟨_, rfl⟩
  simp only [e0, e1, e2, e3] at hi hl hs
  clear e0 e1 e2 e3 h
  have HS := Lib.hid hs
  have H0 := Lib.hid h0
  have HN := Lib.hid hn
  clear hs h0 hn
  have v1 : IntKind.i64.wrap 1 = 1 := by decide
  have v2 : IntKind.i64.wrap 2 = 2 := by decide
  have v3 : IntKind.i64.wrap 3 = 3 := by decide
  have v4 : IntKind.i64.wrap 4 = 4 := by decide
  have v64 : IntKind.i64.wrap 64 = 64 := by decide
  have v39 : IntKind.i64.wrap 39 = 39 := by decide
  have v14 : IntKind.i64.wrap 14 = 14 := by decide
  go_enter Tryd.func18, Tryd.ntmps18
  go_wp2_with fail
  generalize w.alloc (.cells #[.int .u64 0, .int .u64 0] 26) = w0 at *
  have c0 : w0.cell? ⟨b, 0, none⟩ = some (.int .u64 (W64 x0)) := cell_of_row _ _ 0 _ _ _ HS.out
  have c1 : w0.cell? ⟨b, 1, none⟩ = some (.int .u64 (W64 x1)) := cell_of_row _ _ 1 _ _ _ HS.out
  have c2 : w0.cell? ⟨b, 2, none⟩ = some (.int .u64 (W64 x2)) := cell_of_row _ _ 2 _ _ _ HS.out
  have c3 : w0.cell? ⟨b, 3, none⟩ = some (.int .u64 (W64 x3)) := cell_of_row _ _ 3 _ _ _ HS.out
  have c4 : w0.cell? ⟨b, 4, none⟩ = some (.int .u64 0) := cell_of_row _ _ 4 _ _ _ HS.out
  have z0 := (show Z2 w0 _ _ from H0.out).c0
  have z1 := (show Z2 w0 _ _ from H0.out).c1
  have zf := (show Z2 w0 _ _ from H0.out).free
  go_region
  go_wp2
  refine bodyPost_ret (by simp [results, Tryd.results18, go_sem, z0, z1]; try rfl) rfl ?_
  exact ⟨rfl, (put2_new _ HN.out (Nat.le_refl _)).drew⟩
set_option maxHeartbeats 1000000 in
theorem part_2 (X : BitVec 256) (b : Nat) (w : World) (h : w.heap[b]? = some (.cells #[.int .u64 (W64 (X.extractLsb' 0 64)), .int .u64 (W64 (X.extractLsb' 64 64)), .int .u64 (W64 (X.extractLsb' 128 64)), .int .u64 (W64 (X.extractLsb' 192 64)), .int .u64 0, .int .u64 0] 43 (0, 0))) :
    Calls Tryd.prog 18 #[.int .i64 2, .pointer (some ⟨b, 0, none⟩)] w fun e w' => e = .returned (.agg #[.int .u64 (W64 (hi128 (part89 X 2))), .int .u64 (W64 (lo128 (part89 X 2)))]) ∧ New w w' := by
  have hi := part_hi2 X
  have hl := part_lo2 X
  have hs := ((New.refl w).alloc (.cells #[.int .u64 0, .int .u64 0] 26)).block _ (lt_of_block h)
  rw [h] at hs
  have h0 := heap_alloc_new w (.cells #[.int .u64 0, .int .u64 0] 26)
  have hn := (New.refl w).alloc (.cells #[.int .u64 0, .int .u64 0] 26)
  generalize part89 X 2 = p at *
  obtain ⟨x0, e0⟩ : ∃ x, (X.extractLsb' 0 64) = x := ⟨_, rfl⟩
  obtain ⟨x1, e1⟩ : ∃ x, (X.extractLsb' 64 64) = x := ⟨_, rfl⟩
  obtain ⟨x2, e2⟩ : ∃ x, (X.extractLsb' 128 64) = x := ⟨_, rfl⟩
  obtain ⟨x3, e3⟩ : ∃ x, (X.extractLsb' 192 64) = x := ⟨_, rfl⟩
  simp only [e0, e1, e2, e3] at hi hl hs
  clear e0 e1 e2 e3 h
  simp only [BitVec.zero_shiftLeft, BitVec.or_zero] at hi
  have HS := Lib.hid hs
  have H0 := Lib.hid h0
  have HN := Lib.hid hn
  clear hs h0 hn
  have v1 : IntKind.i64.wrap 1 = 1 := by decide
  have v2 : IntKind.i64.wrap 2 = 2 := by decide
  have v3 : IntKind.i64.wrap 3 = 3 := by decide
  have v4 : IntKind.i64.wrap 4 = 4 := by decide
  have v64 : IntKind.i64.wrap 64 = 64 := by decide
  have v39 : IntKind.i64.wrap 39 = 39 := by decide
  have v14 : IntKind.i64.wrap 14 = 14 := by decide
  go_enter Tryd.func18, Tryd.ntmps18
  go_wp2_with fail
  generalize w.alloc (.cells #[.int .u64 0, .int .u64 0] 26) = w0 at *
  have c0 : w0.cell? ⟨b, 0, none⟩ = some (.int .u64 (W64 x0)) := cell_of_row _ _ 0 _ _ _ HS.out
  have c1 : w0.cell? ⟨b, 1, none⟩ = some (.int .u64 (W64 x1)) := cell_of_row _ _ 1 _ _ _ HS.out
  have c2 : w0.cell? ⟨b, 2, none⟩ = some (.int .u64 (W64 x2)) := cell_of_row _ _ 2 _ _ _ HS.out
  have c3 : w0.cell? ⟨b, 3, none⟩ = some (.int .u64 (W64 x3)) := cell_of_row _ _ 3 _ _ _ HS.out
  have c4 : w0.cell? ⟨b, 4, none⟩ = some (.int .u64 0) := cell_of_row _ _ 4 _ _ _ HS.out
  have z0 := (show Z2 w0 _ _ from H0.out).c0
  have z1 := (show Z2 w0 _ _ from H0.out).c1
  have zf := (show Z2 w0 _ _ from H0.out).free
  go_region
  go_wp2
  refine bodyPost_ret (by simp [results, Tryd.results18, go_sem, z0, z1]; try rfl) rfl ?_
  exact ⟨rfl, (put2_new _ HN.out (Nat.le_refl _)).drew⟩
end Go.Proofs.YtagidgboebjkhaaDoor
