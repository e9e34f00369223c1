/- Layer 30: joined. -/
import Derived.Test.YtnapogamcohfaaaM30A
import Derived.Defers
import Derived.Recover
import Derived.Laws.Pointers
import Derived.Handy
import Derived.Laws.EntriesVeiled
import Derived.LoopN
import Derived.BigRegion
namespace Go.Proofs.Ytnapogamcohfaaa
open Go.RowKit Go.Bv
set_option linter.unusedVariables false
set_option maxRecDepth 100000 in
set_option maxHeartbeats 2000000 in
theorem joined_30s (s : BitVec 32 × BitVec 32 × BitVec 32 × BitVec 32) (w : World) : Calls Try.prog 49 #[.agg #[.int .u32 (W32 (s.1)), .int .u32 (W32 (s.2.1)), .int .u32 (W32 (s.2.2.1)), .int .u32 (W32 (s.2.2.2))]] w fun e w' => e = .returned (.agg #[.int .u32 (W32 ((join30 s).1)), .int .u32 (W32 ((join30 s).2.1)), .int .u32 (W32 ((join30 s).2.2.1)), .int .u32 (W32 ((join30 s).2.2.2))]) ∧ New w w' := by
  obtain ⟨s0, s1, s2, s3⟩ := s
  unfold join30
  simp only
  obtain ⟨t, ht⟩ : ∃ z, s0 + s1 + s2 + s3 = z := ⟨_, rfl⟩
  have HT := Lib.hid ht
  rw [ht]
  clear ht
  have HZ := Lib.hid (two_blocks w (.cells #[.int .u32 (W32 t), .int .u32 (W32 s1), .int .u32 (W32 s2), .int .u32 (W32 s3)] 52) (.cells #[.int .u32 0, .int .u32 0, .int .u32 0, .int .u32 0] 52))
  have HA := Lib.hid HZ.out.1
  have HO := Lib.hid HZ.out.2.1
  have HN := Lib.hid HZ.out.2.2
  clear HZ
  go_enter Try.func49, Try.ntmps49
  go_wp2_with fail
  refine wp_loop_rounds 4 ?_
  rw [rounds_succ]
  go_wp2_with fail
  rw [rounds_succ]
  go_wp2_with fail
  rw [rounds_succ]
  go_wp2_with fail
  rw [rounds_succ]
  have ht := HT.out
  go_wp2_with fail
  clear ht HT
  refine wp_loop_rounds 4 ?_
  generalize (w.alloc (.cells #[.int .u32 (W32 t), .int .u32 (W32 s1), .int .u32 (W32 s2), .int .u32 (W32 s3)] 52)).alloc (.cells #[.int .u32 0, .int .u32 0, .int .u32 0, .int .u32 0] 52) = w9 at *
  rw [rounds_succ]
  have c0 := cell_of_row _ _ 0 _ _ _ HA.out
  have c1 := cell_of_row _ _ 1 _ _ _ HA.out
  have cf := fun i => frozen_of_row _ _ i _ _ HA.out
  go_wp2_with fail
  go_region
  clear c0 c1 cf
  have h0 := heap_setCell_same w9 w.heap.size 1 _ _ (.int .u32 (W32 (s1 + t))) HA.out
  have h1 := heap_setCell_other w9 ⟨w.heap.size, 1, none⟩ (w.heap.size + 1) (.int .u32 (W32 (s1 + t))) (by show w.heap.size + 1 ≠ w.heap.size; omega)
  have h2 := (HN.out.setCell (p := ⟨w.heap.size, 1, none⟩) (Nat.le_refl _) (.int .u32 (W32 (s1 + t)))).drew
  replace HA := Lib.hid (show ((w9.setCell ⟨w.heap.size, 1, none⟩ (.int .u32 (W32 (s1 + t)))).drew).heap[w.heap.size]? = some (.cells #[.int .u32 (W32 t), .int .u32 (W32 (s1 + t)), .int .u32 (W32 s2), .int .u32 (W32 s3)] 52 (0, 0)) from h0)
  replace HO := Lib.hid (show ((w9.setCell ⟨w.heap.size, 1, none⟩ (.int .u32 (W32 (s1 + t)))).drew).heap[w.heap.size + 1]? = _ from h1.trans HO.out)
  replace HN := Lib.hid h2
  clear h0 h1 h2
  generalize (w9.setCell ⟨w.heap.size, 1, none⟩ (.int .u32 (W32 (s1 + t)))).drew = w8 at *
  obtain ⟨w9, hw9⟩ : ∃ z, w8 = z := ⟨_, rfl⟩
  rw [hw9] at HA HO HN ⊢
  clear hw9 w8
  first | go_wp2_with fail | skip
  rw [rounds_succ]
  have c0 := cell_of_row _ _ 0 _ _ _ HA.out
  have c2 := cell_of_row _ _ 2 _ _ _ HA.out
  have cf := fun i => frozen_of_row _ _ i _ _ HA.out
  go_wp2_with fail
  go_region
  clear c0 c2 cf
  have h0 := heap_setCell_same w9 w.heap.size 2 _ _ (.int .u32 (W32 (s2 + t))) HA.out
  have h1 := heap_setCell_other w9 ⟨w.heap.size, 2, none⟩ (w.heap.size + 1) (.int .u32 (W32 (s2 + t))) (by show w.heap.size + 1 ≠ w.heap.size; omega)
  have h2 := (HN.out.setCell (p := ⟨w.heap.size, 2, none⟩) (Nat.le_refl _) (.int .u32 (W32 (s2 + t)))).drew
  replace HA := Lib.hid (show ((w9.setCell ⟨w.heap.size, 2, none⟩ (.int .u32 (W32 (s2 + t)))).drew).heap[w.heap.size]? = some (.cells #[.int .u32 (W32 t), .int .u32 (W32 (s1 + t)), .int .u32 (W32 (s2 + t)), .int .u32 (W32 s3)] 52 (0, 0)) from h0)
  replace HO := Lib.hid (show ((w9.setCell ⟨w.heap.size, 2, none⟩ (.int .u32 (W32 (s2 + t)))).drew).heap[w.heap.size + 1]? = _ from h1.trans HO.out)
  replace HN := Lib.hid h2
  clear h0 h1 h2
  generalize (w9.setCell ⟨w.heap.size, 2, none⟩ (.int .u32 (W32 (s2 + t)))).drew = w8 at *
  obtain ⟨w9, hw9⟩ : ∃ z, w8 = z := ⟨_, rfl⟩
  rw [hw9] at HA HO HN ⊢
  clear hw9 w8
  first | go_wp2_with fail | skip
  rw [rounds_succ]
  have c0 := cell_of_row _ _ 0 _ _ _ HA.out
  have c3 := cell_of_row _ _ 3 _ _ _ HA.out
  have cf := fun i => frozen_of_row _ _ i _ _ HA.out
  go_wp2_with fail
  go_region
  clear c0 c3 cf
  have h0 := heap_setCell_same w9 w.heap.size 3 _ _ (.int .u32 (W32 (s3 + t))) HA.out
  have h1 := heap_setCell_other w9 ⟨w.heap.size, 3, none⟩ (w.heap.size + 1) (.int .u32 (W32 (s3 + t))) (by show w.heap.size + 1 ≠ w.heap.size; omega)
  have h2 := (HN.out.setCell (p := ⟨w.heap.size, 3, none⟩) (Nat.le_refl _) (.int .u32 (W32 (s3 + t)))).drew
  replace HA := Lib.hid (show ((w9.setCell ⟨w.heap.size, 3, none⟩ (.int .u32 (W32 (s3 + t)))).drew).heap[w.heap.size]? = some (.cells #[.int .u32 (W32 t), .int .u32 (W32 (s1 + t)), .int .u32 (W32 (s2 + t)), .int .u32 (W32 (s3 + t))] 52 (0, 0)) from h0)
  replace HO := Lib.hid (show ((w9.setCell ⟨w.heap.size, 3, none⟩ (.int .u32 (W32 (s3 + t)))).drew).heap[w.heap.size + 1]? = _ from h1.trans HO.out)
  replace HN := Lib.hid h2
  clear h0 h1 h2
  generalize (w9.setCell ⟨w.heap.size, 3, none⟩ (.int .u32 (W32 (s3 + t)))).drew = w8 at *
  obtain ⟨w9, hw9⟩ : ∃ z, w8 = z := ⟨_, rfl⟩
  rw [hw9] at HA HO HN ⊢
  clear hw9 w8
  first | go_wp2_with fail | skip
  rw [rounds_succ]
  have z0 := cell_of_row _ _ 0 _ _ _ HO.out
  have c0 := cell_of_row _ _ 0 _ _ _ HA.out
  have z1 := cell_of_row _ _ 1 _ _ _ HO.out
  have c1 := cell_of_row _ _ 1 _ _ _ HA.out
  have z2 := cell_of_row _ _ 2 _ _ _ HO.out
  have c2 := cell_of_row _ _ 2 _ _ _ HA.out
  have z3 := cell_of_row _ _ 3 _ _ _ HO.out
  have c3 := cell_of_row _ _ 3 _ _ _ HA.out
  have zf := fun i => frozen_of_row _ _ i _ _ HO.out
  go_wp2
  refine bodyPost_ret (by simp [results, Try.results49, go_sem, z0, z1, z2, z3]; try rfl) rfl ?_
  exact ⟨rfl, ((((HN.out.setCell (by show w.heap.size ≤ w.heap.size + 1; omega) _).setCell (by show w.heap.size ≤ w.heap.size + 1; omega) _).setCell (by show w.heap.size ≤ w.heap.size + 1; omega) _).setCell (by show w.heap.size ≤ w.heap.size + 1; omega) _)⟩
end Go.Proofs.Ytnapogamcohfaaa
