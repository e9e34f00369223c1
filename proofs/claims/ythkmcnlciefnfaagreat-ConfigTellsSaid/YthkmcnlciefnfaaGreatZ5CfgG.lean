import Derived.Test.YthkmcnlciefnfaaGreatZ5CfgC
import Derived.Test.YthkmcnlciefnfaaGreatZ5FamH
import Derived.Test.YthkmcnlciefnfaaGreatZ5AliE
/- Layer 47: what is wrong with a config, by the document. -/
namespace Go.Proofs.YthkmcnlciefnfaaGreat
open Go Go.RowKit Go.Bv Go.Ali
set_option linter.unusedVariables false
set_option maxRecDepth 100000
theorem rsz35_1 (w : World) : Calls Tryz.prog 37 #[.int .i64 1] w fun e w' => e = .returned (.int .i64 (szS 1)) ∧ New w w' := by
  go_enter Tryz.func37, Tryz.ntmps37
  go_wp2
  go_ret
  exact ⟨rfl, (New.refl w).alloc _⟩
theorem rsz35_2 (w : World) : Calls Tryz.prog 37 #[.int .i64 2] w fun e w' => e = .returned (.int .i64 (szS 2)) ∧ New w w' := by
  go_enter Tryz.func37, Tryz.ntmps37
  go_wp2
  go_ret
  exact ⟨rfl, (New.refl w).alloc _⟩
theorem rsz35_3 (w : World) : Calls Tryz.prog 37 #[.int .i64 3] w fun e w' => e = .returned (.int .i64 (szS 3)) ∧ New w w' := by
  go_enter Tryz.func37, Tryz.ntmps37
  go_wp2
  go_ret
  exact ⟨rfl, (New.refl w).alloc _⟩
theorem rsz35_4 (w : World) : Calls Tryz.prog 37 #[.int .i64 4] w fun e w' => e = .returned (.int .i64 (szS 4)) ∧ New w w' := by
  go_enter Tryz.func37, Tryz.ntmps37
  go_wp2
  go_ret
  exact ⟨rfl, (New.refl w).alloc _⟩
theorem rsz35_5 (w : World) : Calls Tryz.prog 37 #[.int .i64 5] w fun e w' => e = .returned (.int .i64 (szS 5)) ∧ New w w' := by
  go_enter Tryz.func37, Tryz.ntmps37
  go_wp2
  go_ret
  exact ⟨rfl, (New.refl w).alloc _⟩
theorem rsz35_6 (w : World) : Calls Tryz.prog 37 #[.int .i64 6] w fun e w' => e = .returned (.int .i64 (szS 6)) ∧ New w w' := by
  go_enter Tryz.func37, Tryz.ntmps37
  go_wp2
  go_ret
  exact ⟨rfl, (New.refl w).alloc _⟩
theorem rsz35_7 (w : World) : Calls Tryz.prog 37 #[.int .i64 7] w fun e w' => e = .returned (.int .i64 (szS 7)) ∧ New w w' := by
  go_enter Tryz.func37, Tryz.ntmps37
  go_wp2
  go_ret
  exact ⟨rfl, (New.refl w).alloc _⟩
theorem rsz35_8 (w : World) : Calls Tryz.prog 37 #[.int .i64 8] w fun e w' => e = .returned (.int .i64 (szS 8)) ∧ New w w' := by
  go_enter Tryz.func37, Tryz.ntmps37
  go_wp2
  go_ret
  exact ⟨rfl, (New.refl w).alloc _⟩
theorem rsz35_0 (k : Int) (h : okS k = false) (w : World) : Calls Tryz.prog 37 #[.int .i64 k] w fun e w' => e = .returned (.int .i64 0) ∧ New w w' := by
  have hk : k < 1 ∨ 8 < k := by unfold okS at h; simp at h; omega
  clear h
  by_cases h1 : k < 1
  · have q : decide (k < 1) = true := decide_eq_true h1
    clear hk h1
    go_enter Tryz.func37, Tryz.ntmps37
    go_wp2
    go_ret
    exact ⟨rfl, New.refl w⟩
  · have q : decide (k < 1) = false := decide_eq_false h1
    have q2 : decide (8 < k) = true := decide_eq_true (by omega)
    clear hk h1
    go_enter Tryz.func37, Tryz.ntmps37
    go_wp2
    go_ret
    exact ⟨rfl, New.refl w⟩
theorem rck35_1_0 (h l : BitVec 64) (q1 : decide ((0 : Int) < W64 h) = true) (w : World) : Calls Tryz.prog 21 #[.int .i64 1, .agg #[.int .u64 (W64 h), .int .u64 (W64 l)]] w fun e w' => e = .returned (.int .i64 13) ∧ New w w' := by
  generalize hW : w.alloc (.cells #[.int .u64 (W64 h), .int .u64 (W64 l)] 24) = w0
  have HB : Hid (w0.heap[w.heap.size]? = some (.cells #[.int .u64 (W64 h), .int .u64 (W64 l)] 24 (0, 0))) := Lib.hid (by rw [← hW]; exact heap_alloc_new w _)
  have HN : Hid (New w w0) := Lib.hid (by rw [← hW]; exact (New.refl w).alloc _)
  have HSZ : Hid (∀ w, Calls Tryz.prog 37 #[.int .i64 1] w fun e w' => e = .returned (.int .i64 4) ∧ New w w') := Lib.hid (fun w => rsz35_1 w)
  go_enter Tryz.func21, Tryz.ntmps21
  go_wp2_with fail
  refine (HSZ.out _).mono ?_
  rintro e w1 ⟨rfl, hn⟩
  have hb := (hn.block _ (lt_of_block HB.out)).trans HB.out
  have c0 := cell_of_row _ _ 0 _ _ _ hb
  have c1 := cell_of_row _ _ 1 _ _ _ hb
  have HN1 := Lib.hid (HN.out.trans hn)
  clear hb hn HSZ
  go_wp2
  go_ret
  exact ⟨rfl, HN1.out⟩
theorem rck35_1_1 (h l : BitVec 64) (q1 : decide ((0 : Int) < W64 h) = false) (q2 : decide ((4294967296 : Int) ≤ W64 l) = true) (w : World) : Calls Tryz.prog 21 #[.int .i64 1, .agg #[.int .u64 (W64 h), .int .u64 (W64 l)]] w fun e w' => e = .returned (.int .i64 13) ∧ New w w' := by
  generalize hW : w.alloc (.cells #[.int .u64 (W64 h), .int .u64 (W64 l)] 24) = w0
  have HB : Hid (w0.heap[w.heap.size]? = some (.cells #[.int .u64 (W64 h), .int .u64 (W64 l)] 24 (0, 0))) := Lib.hid (by rw [← hW]; exact heap_alloc_new w _)
  have HN : Hid (New w w0) := Lib.hid (by rw [← hW]; exact (New.refl w).alloc _)
  have HSZ : Hid (∀ w, Calls Tryz.prog 37 #[.int .i64 1] w fun e w' => e = .returned (.int .i64 4) ∧ New w w') := Lib.hid (fun w => rsz35_1 w)
  go_enter Tryz.func21, Tryz.ntmps21
  go_wp2_with fail
  refine (HSZ.out _).mono ?_
  rintro e w1 ⟨rfl, hn⟩
  have hb := (hn.block _ (lt_of_block HB.out)).trans HB.out
  have c0 := cell_of_row _ _ 0 _ _ _ hb
  have c1 := cell_of_row _ _ 1 _ _ _ hb
  have HN1 := Lib.hid (HN.out.trans hn)
  clear hb hn HSZ
  go_wp2
  go_ret
  exact ⟨rfl, HN1.out⟩
theorem rck35_1_2 (h l : BitVec 64) (q1 : decide ((0 : Int) < W64 h) = false) (q2 : decide ((4294967296 : Int) ≤ W64 l) = false) (w : World) : Calls Tryz.prog 21 #[.int .i64 1, .agg #[.int .u64 (W64 h), .int .u64 (W64 l)]] w fun e w' => e = .returned (.int .i64 0) ∧ New w w' := by
  generalize hW : w.alloc (.cells #[.int .u64 (W64 h), .int .u64 (W64 l)] 24) = w0
  have HB : Hid (w0.heap[w.heap.size]? = some (.cells #[.int .u64 (W64 h), .int .u64 (W64 l)] 24 (0, 0))) := Lib.hid (by rw [← hW]; exact heap_alloc_new w _)
  have HN : Hid (New w w0) := Lib.hid (by rw [← hW]; exact (New.refl w).alloc _)
  have HSZ : Hid (∀ w, Calls Tryz.prog 37 #[.int .i64 1] w fun e w' => e = .returned (.int .i64 4) ∧ New w w') := Lib.hid (fun w => rsz35_1 w)
  go_enter Tryz.func21, Tryz.ntmps21
  go_wp2_with fail
  refine (HSZ.out _).mono ?_
  rintro e w1 ⟨rfl, hn⟩
  have hb := (hn.block _ (lt_of_block HB.out)).trans HB.out
  have c0 := cell_of_row _ _ 0 _ _ _ hb
  have c1 := cell_of_row _ _ 1 _ _ _ hb
  have HN1 := Lib.hid (HN.out.trans hn)
  clear hb hn HSZ
  go_wp2
  go_ret
  exact ⟨rfl, HN1.out⟩
theorem rck35_2_0 (h l : BitVec 64) (q1 : decide ((0 : Int) < W64 h) = true) (w : World) : Calls Tryz.prog 21 #[.int .i64 2, .agg #[.int .u64 (W64 h), .int .u64 (W64 l)]] w fun e w' => e = .returned (.int .i64 13) ∧ New w w' := by
  generalize hW : w.alloc (.cells #[.int .u64 (W64 h), .int .u64 (W64 l)] 24) = w0
  have HB : Hid (w0.heap[w.heap.size]? = some (.cells #[.int .u64 (W64 h), .int .u64 (W64 l)] 24 (0, 0))) := Lib.hid (by rw [← hW]; exact heap_alloc_new w _)
  have HN : Hid (New w w0) := Lib.hid (by rw [← hW]; exact (New.refl w).alloc _)
  have HSZ : Hid (∀ w, Calls Tryz.prog 37 #[.int .i64 2] w fun e w' => e = .returned (.int .i64 16) ∧ New w w') := Lib.hid (fun w => rsz35_2 w)
  go_enter Tryz.func21, Tryz.ntmps21
  go_wp2_with fail
  refine (HSZ.out _).mono ?_
  rintro e w1 ⟨rfl, hn⟩
  have hb := (hn.block _ (lt_of_block HB.out)).trans HB.out
  have c0 := cell_of_row _ _ 0 _ _ _ hb
  have c1 := cell_of_row _ _ 1 _ _ _ hb
  have HN1 := Lib.hid (HN.out.trans hn)
  clear hb hn HSZ
  go_wp2
  go_ret
  exact ⟨rfl, HN1.out⟩
theorem rck35_2_1 (h l : BitVec 64) (q1 : decide ((0 : Int) < W64 h) = false) (q2 : decide ((4294967296 : Int) ≤ W64 l) = true) (w : World) : Calls Tryz.prog 21 #[.int .i64 2, .agg #[.int .u64 (W64 h), .int .u64 (W64 l)]] w fun e w' => e = .returned (.int .i64 13) ∧ New w w' := by
  generalize hW : w.alloc (.cells #[.int .u64 (W64 h), .int .u64 (W64 l)] 24) = w0
  have HB : Hid (w0.heap[w.heap.size]? = some (.cells #[.int .u64 (W64 h), .int .u64 (W64 l)] 24 (0, 0))) := Lib.hid (by rw [← hW]; exact heap_alloc_new w _)
  have HN : Hid (New w w0) := Lib.hid (by rw [← hW]; exact (New.refl w).alloc _)
  have HSZ : Hid (∀ w, Calls Tryz.prog 37 #[.int .i64 2] w fun e w' => e = .returned (.int .i64 16) ∧ New w w') := Lib.hid (fun w => rsz35_2 w)
  go_enter Tryz.func21, Tryz.ntmps21
  go_wp2_with fail
  refine (HSZ.out _).mono ?_
  rintro e w1 ⟨rfl, hn⟩
  have hb := (hn.block _ (lt_of_block HB.out)).trans HB.out
  have c0 := cell_of_row _ _ 0 _ _ _ hb
  have c1 := cell_of_row _ _ 1 _ _ _ hb
  have HN1 := Lib.hid (HN.out.trans hn)
  clear hb hn HSZ
  go_wp2
  go_ret
  exact ⟨rfl, HN1.out⟩
theorem rck35_2_2 (h l : BitVec 64) (q1 : decide ((0 : Int) < W64 h) = false) (q2 : decide ((4294967296 : Int) ≤ W64 l) = false) (w : World) : Calls Tryz.prog 21 #[.int .i64 2, .agg #[.int .u64 (W64 h), .int .u64 (W64 l)]] w fun e w' => e = .returned (.int .i64 0) ∧ New w w' := by
  generalize hW : w.alloc (.cells #[.int .u64 (W64 h), .int .u64 (W64 l)] 24) = w0
  have HB : Hid (w0.heap[w.heap.size]? = some (.cells #[.int .u64 (W64 h), .int .u64 (W64 l)] 24 (0, 0))) := Lib.hid (by rw [← hW]; exact heap_alloc_new w _)
  have HN : Hid (New w w0) := Lib.hid (by rw [← hW]; exact (New.refl w).alloc _)
  have HSZ : Hid (∀ w, Calls Tryz.prog 37 #[.int .i64 2] w fun e w' => e = .returned (.int .i64 16) ∧ New w w') := Lib.hid (fun w => rsz35_2 w)
  go_enter Tryz.func21, Tryz.ntmps21
  go_wp2_with fail
  refine (HSZ.out _).mono ?_
  rintro e w1 ⟨rfl, hn⟩
  have hb := (hn.block _ (lt_of_block HB.out)).trans HB.out
  have c0 := cell_of_row _ _ 0 _ _ _ hb
  have c1 := cell_of_row _ _ 1 _ _ _ hb
  have HN1 := Lib.hid (HN.out.trans hn)
  clear hb hn HSZ
  go_wp2
  go_ret
  exact ⟨rfl, HN1.out⟩
theorem rck35_3_0 (h l : BitVec 64) (q1 : decide ((0 : Int) < W64 h) = true) (w : World) : Calls Tryz.prog 21 #[.int .i64 3, .agg #[.int .u64 (W64 h), .int .u64 (W64 l)]] w fun e w' => e = .returned (.int .i64 13) ∧ New w w' := by
  generalize hW : w.alloc (.cells #[.int .u64 (W64 h), .int .u64 (W64 l)] 24) = w0
  have HB : Hid (w0.heap[w.heap.size]? = some (.cells #[.int .u64 (W64 h), .int .u64 (W64 l)] 24 (0, 0))) := Lib.hid (by rw [← hW]; exact heap_alloc_new w _)
  have HN : Hid (New w w0) := Lib.hid (by rw [← hW]; exact (New.refl w).alloc _)
  have HSZ : Hid (∀ w, Calls Tryz.prog 37 #[.int .i64 3] w fun e w' => e = .returned (.int .i64 16) ∧ New w w') := Lib.hid (fun w => rsz35_3 w)
  go_enter Tryz.func21, Tryz.ntmps21
  go_wp2_with fail
  refine (HSZ.out _).mono ?_
  rintro e w1 ⟨rfl, hn⟩
  have hb := (hn.block _ (lt_of_block HB.out)).trans HB.out
  have c0 := cell_of_row _ _ 0 _ _ _ hb
  have c1 := cell_of_row _ _ 1 _ _ _ hb
  have HN1 := Lib.hid (HN.out.trans hn)
  clear hb hn HSZ
  go_wp2
  go_ret
  exact ⟨rfl, HN1.out⟩
theorem rck35_3_1 (h l : BitVec 64) (q1 : decide ((0 : Int) < W64 h) = false) (q2 : decide ((4294967296 : Int) ≤ W64 l) = true) (w : World) : Calls Tryz.prog 21 #[.int .i64 3, .agg #[.int .u64 (W64 h), .int .u64 (W64 l)]] w fun e w' => e = .returned (.int .i64 13) ∧ New w w' := by
  generalize hW : w.alloc (.cells #[.int .u64 (W64 h), .int .u64 (W64 l)] 24) = w0
  have HB : Hid (w0.heap[w.heap.size]? = some (.cells #[.int .u64 (W64 h), .int .u64 (W64 l)] 24 (0, 0))) := Lib.hid (by rw [← hW]; exact heap_alloc_new w _)
  have HN : Hid (New w w0) := Lib.hid (by rw [← hW]; exact (New.refl w).alloc _)
  have HSZ : Hid (∀ w, Calls Tryz.prog 37 #[.int .i64 3] w fun e w' => e = .returned (.int .i64 16) ∧ New w w') := Lib.hid (fun w => rsz35_3 w)
  go_enter Tryz.func21, Tryz.ntmps21
  go_wp2_with fail
  refine (HSZ.out _).mono ?_
  rintro e w1 ⟨rfl, hn⟩
  have hb := (hn.block _ (lt_of_block HB.out)).trans HB.out
  have c0 := cell_of_row _ _ 0 _ _ _ hb
  have c1 := cell_of_row _ _ 1 _ _ _ hb
  have HN1 := Lib.hid (HN.out.trans hn)
  clear hb hn HSZ
  go_wp2
  go_ret
  exact ⟨rfl, HN1.out⟩
theorem rck35_3_2 (h l : BitVec 64) (q1 : decide ((0 : Int) < W64 h) = false) (q2 : decide ((4294967296 : Int) ≤ W64 l) = false) (w : World) : Calls Tryz.prog 21 #[.int .i64 3, .agg #[.int .u64 (W64 h), .int .u64 (W64 l)]] w fun e w' => e = .returned (.int .i64 0) ∧ New w w' := by
  generalize hW : w.alloc (.cells #[.int .u64 (W64 h), .int .u64 (W64 l)] 24) = w0
  have HB : Hid (w0.heap[w.heap.size]? = some (.cells #[.int .u64 (W64 h), .int .u64 (W64 l)] 24 (0, 0))) := Lib.hid (by rw [← hW]; exact heap_alloc_new w _)
  have HN : Hid (New w w0) := Lib.hid (by rw [← hW]; exact (New.refl w).alloc _)
  have HSZ : Hid (∀ w, Calls Tryz.prog 37 #[.int .i64 3] w fun e w' => e = .returned (.int .i64 16) ∧ New w w') := Lib.hid (fun w => rsz35_3 w)
  go_enter Tryz.func21, Tryz.ntmps21
  go_wp2_with fail
  refine (HSZ.out _).mono ?_
  rintro e w1 ⟨rfl, hn⟩
  have hb := (hn.block _ (lt_of_block HB.out)).trans HB.out
  have c0 := cell_of_row _ _ 0 _ _ _ hb
  have c1 := cell_of_row _ _ 1 _ _ _ hb
  have HN1 := Lib.hid (HN.out.trans hn)
  clear hb hn HSZ
  go_wp2
  go_ret
  exact ⟨rfl, HN1.out⟩
theorem rck35_4_0 (h l : BitVec 64) (q1 : decide ((0 : Int) < W64 h) = true) (w : World) : Calls Tryz.prog 21 #[.int .i64 4, .agg #[.int .u64 (W64 h), .int .u64 (W64 l)]] w fun e w' => e = .returned (.int .i64 13) ∧ New w w' := by
  generalize hW : w.alloc (.cells #[.int .u64 (W64 h), .int .u64 (W64 l)] 24) = w0
  have HB : Hid (w0.heap[w.heap.size]? = some (.cells #[.int .u64 (W64 h), .int .u64 (W64 l)] 24 (0, 0))) := Lib.hid (by rw [← hW]; exact heap_alloc_new w _)
  have HN : Hid (New w w0) := Lib.hid (by rw [← hW]; exact (New.refl w).alloc _)
  have HSZ : Hid (∀ w, Calls Tryz.prog 37 #[.int .i64 4] w fun e w' => e = .returned (.int .i64 4) ∧ New w w') := Lib.hid (fun w => rsz35_4 w)
  go_enter Tryz.func21, Tryz.ntmps21
  go_wp2_with fail
  refine (HSZ.out _).mono ?_
  rintro e w1 ⟨rfl, hn⟩
  have hb := (hn.block _ (lt_of_block HB.out)).trans HB.out
  have c0 := cell_of_row _ _ 0 _ _ _ hb
  have c1 := cell_of_row _ _ 1 _ _ _ hb
  have HN1 := Lib.hid (HN.out.trans hn)
  clear hb hn HSZ
  go_wp2
  go_ret
  exact ⟨rfl, HN1.out⟩
theorem rck35_4_1 (h l : BitVec 64) (q1 : decide ((0 : Int) < W64 h) = false) (q2 : decide ((4294967296 : Int) ≤ W64 l) = true) (w : World) : Calls Tryz.prog 21 #[.int .i64 4, .agg #[.int .u64 (W64 h), .int .u64 (W64 l)]] w fun e w' => e = .returned (.int .i64 13) ∧ New w w' := by
  generalize hW : w.alloc (.cells #[.int .u64 (W64 h), .int .u64 (W64 l)] 24) = w0
  have HB : Hid (w0.heap[w.heap.size]? = some (.cells #[.int .u64 (W64 h), .int .u64 (W64 l)] 24 (0, 0))) := Lib.hid (by rw [← hW]; exact heap_alloc_new w _)
  have HN : Hid (New w w0) := Lib.hid (by rw [← hW]; exact (New.refl w).alloc _)
  have HSZ : Hid (∀ w, Calls Tryz.prog 37 #[.int .i64 4] w fun e w' => e = .returned (.int .i64 4) ∧ New w w') := Lib.hid (fun w => rsz35_4 w)
  go_enter Tryz.func21, Tryz.ntmps21
  go_wp2_with fail
  refine (HSZ.out _).mono ?_
  rintro e w1 ⟨rfl, hn⟩
  have hb := (hn.block _ (lt_of_block HB.out)).trans HB.out
  have c0 := cell_of_row _ _ 0 _ _ _ hb
  have c1 := cell_of_row _ _ 1 _ _ _ hb
  have HN1 := Lib.hid (HN.out.trans hn)
  clear hb hn HSZ
  go_wp2
  go_ret
  exact ⟨rfl, HN1.out⟩
theorem rck35_4_2 (h l : BitVec 64) (q1 : decide ((0 : Int) < W64 h) = false) (q2 : decide ((4294967296 : Int) ≤ W64 l) = false) (w : World) : Calls Tryz.prog 21 #[.int .i64 4, .agg #[.int .u64 (W64 h), .int .u64 (W64 l)]] w fun e w' => e = .returned (.int .i64 0) ∧ New w w' := by
  generalize hW : w.alloc (.cells #[.int .u64 (W64 h), .int .u64 (W64 l)] 24) = w0
  have HB : Hid (w0.heap[w.heap.size]? = some (.cells #[.int .u64 (W64 h), .int .u64 (W64 l)] 24 (0, 0))) := Lib.hid (by rw [← hW]; exact heap_alloc_new w _)
  have HN : Hid (New w w0) := Lib.hid (by rw [← hW]; exact (New.refl w).alloc _)
  have HSZ : Hid (∀ w, Calls Tryz.prog 37 #[.int .i64 4] w fun e w' => e = .returned (.int .i64 4) ∧ New w w') := Lib.hid (fun w => rsz35_4 w)
  go_enter Tryz.func21, Tryz.ntmps21
  go_wp2_with fail
  refine (HSZ.out _).mono ?_
  rintro e w1 ⟨rfl, hn⟩
  have hb := (hn.block _ (lt_of_block HB.out)).trans HB.out
  have c0 := cell_of_row _ _ 0 _ _ _ hb
  have c1 := cell_of_row _ _ 1 _ _ _ hb
  have HN1 := Lib.hid (HN.out.trans hn)
  clear hb hn HSZ
  go_wp2
  go_ret
  exact ⟨rfl, HN1.out⟩
theorem rck35_5_0 (h l : BitVec 64) (q1 : decide ((0 : Int) < W64 h) = true) (w : World) : Calls Tryz.prog 21 #[.int .i64 5, .agg #[.int .u64 (W64 h), .int .u64 (W64 l)]] w fun e w' => e = .returned (.int .i64 13) ∧ New w w' := by
  generalize hW : w.alloc (.cells #[.int .u64 (W64 h), .int .u64 (W64 l)] 24) = w0
  have HB : Hid (w0.heap[w.heap.size]? = some (.cells #[.int .u64 (W64 h), .int .u64 (W64 l)] 24 (0, 0))) := Lib.hid (by rw [← hW]; exact heap_alloc_new w _)
  have HN : Hid (New w w0) := Lib.hid (by rw [← hW]; exact (New.refl w).alloc _)
  have HSZ : Hid (∀ w, Calls Tryz.prog 37 #[.int .i64 5] w fun e w' => e = .returned (.int .i64 8) ∧ New w w') := Lib.hid (fun w => rsz35_5 w)
  go_enter Tryz.func21, Tryz.ntmps21
  go_wp2_with fail
  refine (HSZ.out _).mono ?_
  rintro e w1 ⟨rfl, hn⟩
  have hb := (hn.block _ (lt_of_block HB.out)).trans HB.out
  have c0 := cell_of_row _ _ 0 _ _ _ hb
  have c1 := cell_of_row _ _ 1 _ _ _ hb
  have HN1 := Lib.hid (HN.out.trans hn)
  clear hb hn HSZ
  go_wp2
  go_ret
  exact ⟨rfl, HN1.out⟩
theorem rck35_5_1 (h l : BitVec 64) (q1 : decide ((0 : Int) < W64 h) = false) (w : World) : Calls Tryz.prog 21 #[.int .i64 5, .agg #[.int .u64 (W64 h), .int .u64 (W64 l)]] w fun e w' => e = .returned (.int .i64 0) ∧ New w w' := by
  generalize hW : w.alloc (.cells #[.int .u64 (W64 h), .int .u64 (W64 l)] 24) = w0
  have HB : Hid (w0.heap[w.heap.size]? = some (.cells #[.int .u64 (W64 h), .int .u64 (W64 l)] 24 (0, 0))) := Lib.hid (by rw [← hW]; exact heap_alloc_new w _)
  have HN : Hid (New w w0) := Lib.hid (by rw [← hW]; exact (New.refl w).alloc _)
  have HSZ : Hid (∀ w, Calls Tryz.prog 37 #[.int .i64 5] w fun e w' => e = .returned (.int .i64 8) ∧ New w w') := Lib.hid (fun w => rsz35_5 w)
  go_enter Tryz.func21, Tryz.ntmps21
  go_wp2_with fail
  refine (HSZ.out _).mono ?_
  rintro e w1 ⟨rfl, hn⟩
  have hb := (hn.block _ (lt_of_block HB.out)).trans HB.out
  have c0 := cell_of_row _ _ 0 _ _ _ hb
  have c1 := cell_of_row _ _ 1 _ _ _ hb
  have HN1 := Lib.hid (HN.out.trans hn)
  clear hb hn HSZ
  go_wp2
  go_ret
  exact ⟨rfl, HN1.out⟩
theorem rck35_6_0 (h l : BitVec 64)  (w : World) : Calls Tryz.prog 21 #[.int .i64 6, .agg #[.int .u64 (W64 h), .int .u64 (W64 l)]] w fun e w' => e = .returned (.int .i64 0) ∧ New w w' := by
  generalize hW : w.alloc (.cells #[.int .u64 (W64 h), .int .u64 (W64 l)] 24) = w0
  have HB : Hid (w0.heap[w.heap.size]? = some (.cells #[.int .u64 (W64 h), .int .u64 (W64 l)] 24 (0, 0))) := Lib.hid (by rw [← hW]; exact heap_alloc_new w _)
  have HN : Hid (New w w0) := Lib.hid (by rw [← hW]; exact (New.refl w).alloc _)
  have HSZ : Hid (∀ w, Calls Tryz.prog 37 #[.int .i64 6] w fun e w' => e = .returned (.int .i64 8) ∧ New w w') := Lib.hid (fun w => rsz35_6 w)
  go_enter Tryz.func21, Tryz.ntmps21
  go_wp2_with fail
  refine (HSZ.out _).mono ?_
  rintro e w1 ⟨rfl, hn⟩
  have hb := (hn.block _ (lt_of_block HB.out)).trans HB.out
  have c0 := cell_of_row _ _ 0 _ _ _ hb
  have c1 := cell_of_row _ _ 1 _ _ _ hb
  have HN1 := Lib.hid (HN.out.trans hn)
  clear hb hn HSZ
  go_wp2
  go_ret
  exact ⟨rfl, HN1.out⟩
theorem rck35_7_0 (h l : BitVec 64)  (w : World) : Calls Tryz.prog 21 #[.int .i64 7, .agg #[.int .u64 (W64 h), .int .u64 (W64 l)]] w fun e w' => e = .returned (.int .i64 0) ∧ New w w' := by
  generalize hW : w.alloc (.cells #[.int .u64 (W64 h), .int .u64 (W64 l)] 24) = w0
  have HB : Hid (w0.heap[w.heap.size]? = some (.cells #[.int .u64 (W64 h), .int .u64 (W64 l)] 24 (0, 0))) := Lib.hid (by rw [← hW]; exact heap_alloc_new w _)
  have HN : Hid (New w w0) := Lib.hid (by rw [← hW]; exact (New.refl w).alloc _)
  have HSZ : Hid (∀ w, Calls Tryz.prog 37 #[.int .i64 7] w fun e w' => e = .returned (.int .i64 8) ∧ New w w') := Lib.hid (fun w => rsz35_7 w)
  go_enter Tryz.func21, Tryz.ntmps21
  go_wp2_with fail
  refine (HSZ.out _).mono ?_
  rintro e w1 ⟨rfl, hn⟩
  have hb := (hn.block _ (lt_of_block HB.out)).trans HB.out
  have c0 := cell_of_row _ _ 0 _ _ _ hb
  have c1 := cell_of_row _ _ 1 _ _ _ hb
  have HN1 := Lib.hid (HN.out.trans hn)
  clear hb hn HSZ
  go_wp2
  go_ret
  exact ⟨rfl, HN1.out⟩
theorem rck35_8_0 (h l : BitVec 64)  (w : World) : Calls Tryz.prog 21 #[.int .i64 8, .agg #[.int .u64 (W64 h), .int .u64 (W64 l)]] w fun e w' => e = .returned (.int .i64 0) ∧ New w w' := by
  generalize hW : w.alloc (.cells #[.int .u64 (W64 h), .int .u64 (W64 l)] 24) = w0
  have HB : Hid (w0.heap[w.heap.size]? = some (.cells #[.int .u64 (W64 h), .int .u64 (W64 l)] 24 (0, 0))) := Lib.hid (by rw [← hW]; exact heap_alloc_new w _)
  have HN : Hid (New w w0) := Lib.hid (by rw [← hW]; exact (New.refl w).alloc _)
  have HSZ : Hid (∀ w, Calls Tryz.prog 37 #[.int .i64 8] w fun e w' => e = .returned (.int .i64 16) ∧ New w w') := Lib.hid (fun w => rsz35_8 w)
  go_enter Tryz.func21, Tryz.ntmps21
  go_wp2_with fail
  refine (HSZ.out _).mono ?_
  rintro e w1 ⟨rfl, hn⟩
  have hb := (hn.block _ (lt_of_block HB.out)).trans HB.out
  have c0 := cell_of_row _ _ 0 _ _ _ hb
  have c1 := cell_of_row _ _ 1 _ _ _ hb
  have HN1 := Lib.hid (HN.out.trans hn)
  clear hb hn HSZ
  go_wp2
  go_ret
  exact ⟨rfl, HN1.out⟩
theorem rscheck_35 (k : Int) (h l : BitVec 64) (w : World) : Calls Tryz.prog 21 #[.int .i64 k, .agg #[.int .u64 (W64 h), .int .u64 (W64 l)]] w fun e w' => e = .returned (.int .i64 (stE k h l)) ∧ New w w' := by
  unfold stE
  by_cases hk : 1 ≤ k ∧ k ≤ 8
  · have hok : okS k = true := by unfold okS; simpa using hk
    rw [hok, if_neg (by decide)]
    have r1 := w64_rngC h
    have r2 := w64_rngC l
    have h8 : k = 1 ∨ k = 2 ∨ k = 3 ∨ k = 4 ∨ k = 5 ∨ k = 6 ∨ k = 7 ∨ k = 8 := by omega
    clear hk hok
    rcases h8 with rfl | rfl | rfl | rfl | rfl | rfl | rfl | rfl
    · have e1 : hiS 1 = 0 := rfl
      have e2 : loS 1 = 4294967295 := rfl
      rw [e1, e2]
      by_cases g1 : (0 : Int) < W64 h
      · rw [if_pos (.inl g1)]; exact rck35_1_0 h l (decide_eq_true g1) w
      · by_cases g2 : (4294967296 : Int) ≤ W64 l
        · rw [if_pos (.inr (by omega))]; exact rck35_1_1 h l (decide_eq_false g1) (decide_eq_true g2) w
        · rw [if_neg (by omega)]; exact rck35_1_2 h l (decide_eq_false g1) (decide_eq_false g2) w
    · have e1 : hiS 2 = 0 := rfl
      have e2 : loS 2 = 4294967295 := rfl
      rw [e1, e2]
      by_cases g1 : (0 : Int) < W64 h
      · rw [if_pos (.inl g1)]; exact rck35_2_0 h l (decide_eq_true g1) w
      · by_cases g2 : (4294967296 : Int) ≤ W64 l
        · rw [if_pos (.inr (by omega))]; exact rck35_2_1 h l (decide_eq_false g1) (decide_eq_true g2) w
        · rw [if_neg (by omega)]; exact rck35_2_2 h l (decide_eq_false g1) (decide_eq_false g2) w
    · have e1 : hiS 3 = 0 := rfl
      have e2 : loS 3 = 4294967295 := rfl
      rw [e1, e2]
      by_cases g1 : (0 : Int) < W64 h
      · rw [if_pos (.inl g1)]; exact rck35_3_0 h l (decide_eq_true g1) w
      · by_cases g2 : (4294967296 : Int) ≤ W64 l
        · rw [if_pos (.inr (by omega))]; exact rck35_3_1 h l (decide_eq_false g1) (decide_eq_true g2) w
        · rw [if_neg (by omega)]; exact rck35_3_2 h l (decide_eq_false g1) (decide_eq_false g2) w
    · have e1 : hiS 4 = 0 := rfl
      have e2 : loS 4 = 4294967295 := rfl
      rw [e1, e2]
      by_cases g1 : (0 : Int) < W64 h
      · rw [if_pos (.inl g1)]; exact rck35_4_0 h l (decide_eq_true g1) w
      · by_cases g2 : (4294967296 : Int) ≤ W64 l
        · rw [if_pos (.inr (by omega))]; exact rck35_4_1 h l (decide_eq_false g1) (decide_eq_true g2) w
        · rw [if_neg (by omega)]; exact rck35_4_2 h l (decide_eq_false g1) (decide_eq_false g2) w
    · have e1 : hiS 5 = 0 := rfl
      have e2 : loS 5 = 18446744073709551615 := rfl
      rw [e1, e2]
      by_cases g1 : (0 : Int) < W64 h
      · rw [if_pos (.inl g1)]; exact rck35_5_0 h l (decide_eq_true g1) w
      · rw [if_neg (by omega)]; exact rck35_5_1 h l (decide_eq_false g1) w
    · have e1 : hiS 6 = 18446744073709551615 := rfl
      have e2 : loS 6 = 18446744073709551615 := rfl
      rw [e1, e2, if_neg (by omega)]; exact rck35_6_0 h l w
    · have e1 : hiS 7 = 18446744073709551615 := rfl
      have e2 : loS 7 = 18446744073709551615 := rfl
      rw [e1, e2, if_neg (by omega)]; exact rck35_7_0 h l w
    · have e1 : hiS 8 = 18446744073709551615 := rfl
      have e2 : loS 8 = 18446744073709551615 := rfl
      rw [e1, e2, if_neg (by omega)]; exact rck35_8_0 h l w
  · have hno := okS_no hk
    rw [hno, if_pos rfl]
    generalize hW : w.alloc (.cells #[.int .u64 (W64 h), .int .u64 (W64 l)] 24) = w0
    have HB : Hid (w0.heap[w.heap.size]? = some (.cells #[.int .u64 (W64 h), .int .u64 (W64 l)] 24 (0, 0))) := Lib.hid (by rw [← hW]; exact heap_alloc_new w _)
    have HN : Hid (New w w0) := Lib.hid (by rw [← hW]; exact (New.refl w).alloc _)
    have HSZ := Lib.hid (fun w => rsz35_0 k hno w)
    clear hk hno
    go_enter Tryz.func21, Tryz.ntmps21
    go_wp2_with fail
    refine (HSZ.out _).mono ?_
    rintro e w1 ⟨rfl, hn⟩
    have HN1 := Lib.hid (HN.out.trans hn)
    clear hn HSZ
    go_wp2
    go_ret
    exact ⟨rfl, HN1.out⟩
theorem w4_take (x : List (BitVec 64)) (j : Nat) (hj : j < 4) : w4 (x.take (j + 1)) = (if j = 0 then ⟨x.getD 0 0, (w4 (x.take j)).b, (w4 (x.take j)).c, (w4 (x.take j)).d⟩ else if j = 1 then ⟨(w4 (x.take j)).a, x.getD 1 0, (w4 (x.take j)).c, (w4 (x.take j)).d⟩ else if j = 2 then ⟨(w4 (x.take j)).a, (w4 (x.take j)).b, x.getD 2 0, (w4 (x.take j)).d⟩ else ⟨(w4 (x.take j)).a, (w4 (x.take j)).b, (w4 (x.take j)).c, x.getD 3 0⟩) := by
  have e : j = 0 ∨ j = 1 ∨ j = 2 ∨ j = 3 := by omega
  rcases e with rfl | rfl | rfl | rfl
  · match x with
    | [] => rfl
    | p :: r => rfl
  · match x with
    | [] => rfl
    | [p] => rfl
    | p :: q :: r => rfl
  · match x with
    | [] => rfl
    | [p] => rfl
    | [p, q] => rfl
    | p :: q :: s :: r => rfl
  · match x with
    | [] => rfl
    | [p] => rfl
    | [p, q] => rfl
    | [p, q, s] => rfl
    | p :: q :: s :: u :: r => rfl
end Go.Proofs.YthkmcnlciefnfaaGreat
