import Derived.Test.YthkmcnlciefnfaaGreatZ5CfgH
import Derived.Test.YthkmcnlciefnfaaGreatZ5DivM
/- Layer 47: what is wrong with a config, by the document. -/
namespace Go.Proofs.YthkmcnlciefnfaaGreat
open Go Go.RowKit Go.Bv Go.Ali
set_option linter.unusedVariables false
set_option maxRecDepth 100000
theorem rc_low (t : Int) (k b : Int) (h l : BitVec 64) (a : Option Addr) (n c : Nat) (x : List (BitVec 64)) (w : World) (hr : QRow w a n c x) (ht : t < 1) : Calls Tryz.prog 7 #[.agg (cfc t k b h l a n c)] w fun e w' => e = .returned (.int .i64 (6)) ∧ New w w' := by
  generalize hW : w.alloc (.cells (cfc t k b h l a n c) 34) = w0
  have HB : Hid (w0.heap[w.heap.size]? = some (.cells (cfc t k b h l a n c) 34 (0, 0))) := Lib.hid (by rw [← hW]; exact heap_alloc_new w _)
  have HN : Hid (New w w0) := Lib.hid (by rw [← hW]; exact (New.refl w).alloc _)
  have q : decide (t < 1) = true := decide_eq_true ht
  clear hr ht
  have c0 := cell_of_row _ _ 0 _ _ _ HB.out
  have c1 := cell_of_row _ _ 1 _ _ _ HB.out
  have c2 := cell_of_row _ _ 2 _ _ _ HB.out
  have c3 := cell_of_row _ _ 3 _ _ _ HB.out
  have c4 := cell_of_row _ _ 4 _ _ _ HB.out
  have c5 := cell_of_row _ _ 5 _ _ _ HB.out
  go_enter Tryz.func7, Tryz.ntmps7
  go_wp2
  go_ret
  exact ⟨rfl, HN.out⟩
theorem rc_high (t : Int) (k b : Int) (h l : BitVec 64) (a : Option Addr) (n c : Nat) (x : List (BitVec 64)) (w : World) (hr : QRow w a n c x) (ht : 5 < t) : Calls Tryz.prog 7 #[.agg (cfc t k b h l a n c)] w fun e w' => e = .returned (.int .i64 (6)) ∧ New w w' := by
  generalize hW : w.alloc (.cells (cfc t k b h l a n c) 34) = w0
  have HB : Hid (w0.heap[w.heap.size]? = some (.cells (cfc t k b h l a n c) 34 (0, 0))) := Lib.hid (by rw [← hW]; exact heap_alloc_new w _)
  have HN : Hid (New w w0) := Lib.hid (by rw [← hW]; exact (New.refl w).alloc _)
  have q0 : decide (t < 1) = false := decide_eq_false (by omega)
  have q : decide (5 < t) = true := decide_eq_true ht
  clear hr ht
  have c0 := cell_of_row _ _ 0 _ _ _ HB.out
  have c1 := cell_of_row _ _ 1 _ _ _ HB.out
  have c2 := cell_of_row _ _ 2 _ _ _ HB.out
  have c3 := cell_of_row _ _ 3 _ _ _ HB.out
  have c4 := cell_of_row _ _ 4 _ _ _ HB.out
  have c5 := cell_of_row _ _ 5 _ _ _ HB.out
  go_enter Tryz.func7, Tryz.ntmps7
  go_wp2
  go_ret
  exact ⟨rfl, HN.out⟩
theorem rc_1_0 (k b : Int) (h l : BitVec 64) (a : Option Addr) (n c : Nat) (x : List (BitVec 64)) (w : World) (hr : QRow w a n c x)  (gb : (b != 0) = true) : Calls Tryz.prog 7 #[.agg (cfc 1 k b h l a n c)] w fun e w' => e = .returned (.int .i64 (5)) ∧ New w w' := by
  generalize hW : w.alloc (.cells (cfc 1 k b h l a n c) 34) = w0
  have HB : Hid (w0.heap[w.heap.size]? = some (.cells (cfc 1 k b h l a n c) 34 (0, 0))) := Lib.hid (by rw [← hW]; exact heap_alloc_new w _)
  have HN : Hid (New w w0) := Lib.hid (by rw [← hW]; exact (New.refl w).alloc _)
  clear hr
  have c0 := cell_of_row _ _ 0 _ _ _ HB.out
  have c1 := cell_of_row _ _ 1 _ _ _ HB.out
  have c2 := cell_of_row _ _ 2 _ _ _ HB.out
  have c3 := cell_of_row _ _ 3 _ _ _ HB.out
  have c4 := cell_of_row _ _ 4 _ _ _ HB.out
  have c5 := cell_of_row _ _ 5 _ _ _ HB.out
  have hzx := (((New.refl w0).alloc (.cells #[.int .u64 0, .int .u64 0] 24)).block _ (lt_of_block HB.out)).trans HB.out
  have v0 := cell_of_row _ _ 0 _ _ _ hzx
  have v1 := cell_of_row _ _ 1 _ _ _ hzx
  have v2 := cell_of_row _ _ 2 _ _ _ hzx
  have v3 := cell_of_row _ _ 3 _ _ _ hzx
  have v4 := cell_of_row _ _ 4 _ _ _ hzx
  have v5 := cell_of_row _ _ 5 _ _ _ hzx
  clear hzx
  go_enter Tryz.func7, Tryz.ntmps7
  go_wp2
  go_ret
  exact ⟨rfl, HN.out.alloc _⟩
theorem rc_1_1 (k b : Int) (h l : BitVec 64) (a : Option Addr) (n c : Nat) (x : List (BitVec 64)) (w : World) (hr : QRow w a n c x) (gb : (b != 0) = false) (gn : ((n : Int) != 0) = true) : Calls Tryz.prog 7 #[.agg (cfc 1 k b h l a n c)] w fun e w' => e = .returned (.int .i64 (5)) ∧ New w w' := by
  generalize hW : w.alloc (.cells (cfc 1 k b h l a n c) 34) = w0
  have HB : Hid (w0.heap[w.heap.size]? = some (.cells (cfc 1 k b h l a n c) 34 (0, 0))) := Lib.hid (by rw [← hW]; exact heap_alloc_new w _)
  have HN : Hid (New w w0) := Lib.hid (by rw [← hW]; exact (New.refl w).alloc _)
  have gn1 : decide (0 < n) = true := decide_eq_true (by have := bne_iff_ne.1 gn; omega)
  have gn2 : decide ((0 : Int) < (n : Int)) = true := decide_eq_true (by have := bne_iff_ne.1 gn; omega)
  clear gn
  clear hr
  have c0 := cell_of_row _ _ 0 _ _ _ HB.out
  have c1 := cell_of_row _ _ 1 _ _ _ HB.out
  have c2 := cell_of_row _ _ 2 _ _ _ HB.out
  have c3 := cell_of_row _ _ 3 _ _ _ HB.out
  have c4 := cell_of_row _ _ 4 _ _ _ HB.out
  have c5 := cell_of_row _ _ 5 _ _ _ HB.out
  have hzx := (((New.refl w0).alloc (.cells #[.int .u64 0, .int .u64 0] 24)).block _ (lt_of_block HB.out)).trans HB.out
  have v0 := cell_of_row _ _ 0 _ _ _ hzx
  have v1 := cell_of_row _ _ 1 _ _ _ hzx
  have v2 := cell_of_row _ _ 2 _ _ _ hzx
  have v3 := cell_of_row _ _ 3 _ _ _ hzx
  have v4 := cell_of_row _ _ 4 _ _ _ hzx
  have v5 := cell_of_row _ _ 5 _ _ _ hzx
  clear hzx
  go_enter Tryz.func7, Tryz.ntmps7
  go_wp2
  go_ret
  exact ⟨rfl, HN.out.alloc _⟩
theorem rc_1_2 (k b : Int) (h l : BitVec 64) (a : Option Addr) (n c : Nat) (x : List (BitVec 64)) (w : World) (hr : QRow w a n c x) (gb : (b != 0) = false) (gn : ((n : Int) != 0) = false) : Calls Tryz.prog 7 #[.agg (cfc 1 k b h l a n c)] w fun e w' => e = .returned (.int .i64 (stE k h l)) ∧ New w w' := by
  generalize hW : w.alloc (.cells (cfc 1 k b h l a n c) 34) = w0
  have HB : Hid (w0.heap[w.heap.size]? = some (.cells (cfc 1 k b h l a n c) 34 (0, 0))) := Lib.hid (by rw [← hW]; exact heap_alloc_new w _)
  have HN : Hid (New w w0) := Lib.hid (by rw [← hW]; exact (New.refl w).alloc _)
  have gn1 : decide (0 < n) = false := decide_eq_false (by have := bne_eq_false_iff_eq.1 gn; omega)
  have gn2 : decide ((0 : Int) < (n : Int)) = false := decide_eq_false (by have := bne_eq_false_iff_eq.1 gn; omega)
  clear gn
  have HT := Lib.hid (fun (w' : World) (hn : New w0 w') => rscheck_35 k h l w')
  generalize stE k h l = E at *
  clear hr
  have c0 := cell_of_row _ _ 0 _ _ _ HB.out
  have c1 := cell_of_row _ _ 1 _ _ _ HB.out
  have c2 := cell_of_row _ _ 2 _ _ _ HB.out
  have c3 := cell_of_row _ _ 3 _ _ _ HB.out
  have c4 := cell_of_row _ _ 4 _ _ _ HB.out
  have c5 := cell_of_row _ _ 5 _ _ _ HB.out
  have hzx := (((New.refl w0).alloc (.cells #[.int .u64 0, .int .u64 0] 24)).block _ (lt_of_block HB.out)).trans HB.out
  have v0 := cell_of_row _ _ 0 _ _ _ hzx
  have v1 := cell_of_row _ _ 1 _ _ _ hzx
  have v2 := cell_of_row _ _ 2 _ _ _ hzx
  have v3 := cell_of_row _ _ 3 _ _ _ hzx
  have v4 := cell_of_row _ _ 4 _ _ _ hzx
  have v5 := cell_of_row _ _ 5 _ _ _ hzx
  clear hzx
  go_enter Tryz.func7, Tryz.ntmps7
  have HNX : Hid (New w0 (w0.alloc (.cells #[.int .u64 0, .int .u64 0] 24))) := Lib.hid ((New.refl w0).alloc _)
  go_wp2_with fail
  refine (HT.out _ HNX.out).mono ?_
  rintro e w2 ⟨rfl, hn⟩
  have HN2 := Lib.hid (HN.out.trans (HNX.out.trans hn))
  clear hn HT c0 c1 c2 c3 c4 c5 v0 v1 v2 v3 v4 v5
  go_wp2
  go_ret
  exact ⟨rfl, HN2.out⟩
theorem rc_2_0 (k b : Int) (h l : BitVec 64) (a : Option Addr) (n c : Nat) (x : List (BitVec 64)) (w : World) (hr : QRow w a n c x)  (gy : (h == 0#64 && l == 0#64) = false) : Calls Tryz.prog 7 #[.agg (cfc 2 k b h l a n c)] w fun e w' => e = .returned (.int .i64 (5)) ∧ New w w' := by
  generalize hW : w.alloc (.cells (cfc 2 k b h l a n c) 34) = w0
  have HB : Hid (w0.heap[w.heap.size]? = some (.cells (cfc 2 k b h l a n c) 34 (0, 0))) := Lib.hid (by rw [← hW]; exact heap_alloc_new w _)
  have HN : Hid (New w w0) := Lib.hid (by rw [← hW]; exact (New.refl w).alloc _)
  have heq := fun w => equ0 h l w
  rw [gy] at heq
  clear hr
  have c0 := cell_of_row _ _ 0 _ _ _ HB.out
  have c1 := cell_of_row _ _ 1 _ _ _ HB.out
  have c2 := cell_of_row _ _ 2 _ _ _ HB.out
  have c3 := cell_of_row _ _ 3 _ _ _ HB.out
  have c4 := cell_of_row _ _ 4 _ _ _ HB.out
  have c5 := cell_of_row _ _ 5 _ _ _ HB.out
  have hzx := (((New.refl w0).alloc (.cells #[.int .u64 0, .int .u64 0] 24)).block _ (lt_of_block HB.out)).trans HB.out
  have v0 := cell_of_row _ _ 0 _ _ _ hzx
  have v1 := cell_of_row _ _ 1 _ _ _ hzx
  have v2 := cell_of_row _ _ 2 _ _ _ hzx
  have v3 := cell_of_row _ _ 3 _ _ _ hzx
  have v4 := cell_of_row _ _ 4 _ _ _ hzx
  have v5 := cell_of_row _ _ 5 _ _ _ hzx
  clear hzx
  go_enter Tryz.func7, Tryz.ntmps7
  go_wp2
  go_ret
  exact ⟨rfl, HN.out.alloc _⟩
theorem rc_2_1 (k b : Int) (h l : BitVec 64) (a : Option Addr) (n c : Nat) (x : List (BitVec 64)) (w : World) (hr : QRow w a n c x) (gy : (h == 0#64 && l == 0#64) = true) : Calls Tryz.prog 7 #[.agg (cfc 2 k b h l a n c)] w fun e w' => e = .returned (.int .i64 (chF k b x)) ∧ New w w' := by
  generalize hW : w.alloc (.cells (cfc 2 k b h l a n c) 34) = w0
  have HB : Hid (w0.heap[w.heap.size]? = some (.cells (cfc 2 k b h l a n c) 34 (0, 0))) := Lib.hid (by rw [← hW]; exact heap_alloc_new w _)
  have HN : Hid (New w w0) := Lib.hid (by rw [← hW]; exact (New.refl w).alloc _)
  have heq := fun w => equ0 h l w
  rw [gy] at heq
  have HT := Lib.hid (fun (w' : World) (hn : New w0 w') => rcheck_27 k b a n c x w' (hr.stay (HN.out.trans hn)))
  generalize chF k b x = E at *
  clear hr
  have c0 := cell_of_row _ _ 0 _ _ _ HB.out
  have c1 := cell_of_row _ _ 1 _ _ _ HB.out
  have c2 := cell_of_row _ _ 2 _ _ _ HB.out
  have c3 := cell_of_row _ _ 3 _ _ _ HB.out
  have c4 := cell_of_row _ _ 4 _ _ _ HB.out
  have c5 := cell_of_row _ _ 5 _ _ _ HB.out
  have hzx := (((New.refl w0).alloc (.cells #[.int .u64 0, .int .u64 0] 24)).block _ (lt_of_block HB.out)).trans HB.out
  have v0 := cell_of_row _ _ 0 _ _ _ hzx
  have v1 := cell_of_row _ _ 1 _ _ _ hzx
  have v2 := cell_of_row _ _ 2 _ _ _ hzx
  have v3 := cell_of_row _ _ 3 _ _ _ hzx
  have v4 := cell_of_row _ _ 4 _ _ _ hzx
  have v5 := cell_of_row _ _ 5 _ _ _ hzx
  clear hzx
  go_enter Tryz.func7, Tryz.ntmps7
  have HNX : Hid (New w0 (w0.alloc (.cells #[.int .u64 0, .int .u64 0] 24))) := Lib.hid ((New.refl w0).alloc _)
  go_wp2_with fail
  refine (HT.out _ HNX.out).mono ?_
  rintro e w2 ⟨rfl, hn⟩
  have HN2 := Lib.hid (HN.out.trans (HNX.out.trans hn))
  clear hn HT c0 c1 c2 c3 c4 c5 v0 v1 v2 v3 v4 v5
  go_wp2
  go_ret
  exact ⟨rfl, HN2.out⟩
theorem rc_3_0 (k b : Int) (h l : BitVec 64) (a : Option Addr) (n c : Nat) (x : List (BitVec 64)) (w : World) (hr : QRow w a n c x)  (gy : (h == 0#64 && l == 0#64) = false) : Calls Tryz.prog 7 #[.agg (cfc 3 k b h l a n c)] w fun e w' => e = .returned (.int .i64 (5)) ∧ New w w' := by
  generalize hW : w.alloc (.cells (cfc 3 k b h l a n c) 34) = w0
  have HB : Hid (w0.heap[w.heap.size]? = some (.cells (cfc 3 k b h l a n c) 34 (0, 0))) := Lib.hid (by rw [← hW]; exact heap_alloc_new w _)
  have HN : Hid (New w w0) := Lib.hid (by rw [← hW]; exact (New.refl w).alloc _)
  have heq := fun w => equ0 h l w
  rw [gy] at heq
  clear hr
  have c0 := cell_of_row _ _ 0 _ _ _ HB.out
  have c1 := cell_of_row _ _ 1 _ _ _ HB.out
  have c2 := cell_of_row _ _ 2 _ _ _ HB.out
  have c3 := cell_of_row _ _ 3 _ _ _ HB.out
  have c4 := cell_of_row _ _ 4 _ _ _ HB.out
  have c5 := cell_of_row _ _ 5 _ _ _ HB.out
  have hzx := (((New.refl w0).alloc (.cells #[.int .u64 0, .int .u64 0] 24)).block _ (lt_of_block HB.out)).trans HB.out
  have v0 := cell_of_row _ _ 0 _ _ _ hzx
  have v1 := cell_of_row _ _ 1 _ _ _ hzx
  have v2 := cell_of_row _ _ 2 _ _ _ hzx
  have v3 := cell_of_row _ _ 3 _ _ _ hzx
  have v4 := cell_of_row _ _ 4 _ _ _ hzx
  have v5 := cell_of_row _ _ 5 _ _ _ hzx
  clear hzx
  go_enter Tryz.func7, Tryz.ntmps7
  go_wp2
  go_ret
  exact ⟨rfl, HN.out.alloc _⟩
theorem rc_3_1 (k b : Int) (h l : BitVec 64) (a : Option Addr) (n c : Nat) (x : List (BitVec 64)) (w : World) (hr : QRow w a n c x) (gy : (h == 0#64 && l == 0#64) = true) (gb : (b != 0) = true) : Calls Tryz.prog 7 #[.agg (cfc 3 k b h l a n c)] w fun e w' => e = .returned (.int .i64 (5)) ∧ New w w' := by
  generalize hW : w.alloc (.cells (cfc 3 k b h l a n c) 34) = w0
  have HB : Hid (w0.heap[w.heap.size]? = some (.cells (cfc 3 k b h l a n c) 34 (0, 0))) := Lib.hid (by rw [← hW]; exact heap_alloc_new w _)
  have HN : Hid (New w w0) := Lib.hid (by rw [← hW]; exact (New.refl w).alloc _)
  have heq := fun w => equ0 h l w
  rw [gy] at heq
  clear hr
  have c0 := cell_of_row _ _ 0 _ _ _ HB.out
  have c1 := cell_of_row _ _ 1 _ _ _ HB.out
  have c2 := cell_of_row _ _ 2 _ _ _ HB.out
  have c3 := cell_of_row _ _ 3 _ _ _ HB.out
  have c4 := cell_of_row _ _ 4 _ _ _ HB.out
  have c5 := cell_of_row _ _ 5 _ _ _ HB.out
  have hzx := (((New.refl w0).alloc (.cells #[.int .u64 0, .int .u64 0] 24)).block _ (lt_of_block HB.out)).trans HB.out
  have v0 := cell_of_row _ _ 0 _ _ _ hzx
  have v1 := cell_of_row _ _ 1 _ _ _ hzx
  have v2 := cell_of_row _ _ 2 _ _ _ hzx
  have v3 := cell_of_row _ _ 3 _ _ _ hzx
  have v4 := cell_of_row _ _ 4 _ _ _ hzx
  have v5 := cell_of_row _ _ 5 _ _ _ hzx
  clear hzx
  go_enter Tryz.func7, Tryz.ntmps7
  go_wp2
  go_ret
  exact ⟨rfl, HN.out.alloc _⟩
theorem rc_4_0 (k b : Int) (h l : BitVec 64) (a : Option Addr) (n c : Nat) (x : List (BitVec 64)) (w : World) (hr : QRow w a n c x)  (gy : (h == 0#64 && l == 0#64) = false) : Calls Tryz.prog 7 #[.agg (cfc 4 k b h l a n c)] w fun e w' => e = .returned (.int .i64 (5)) ∧ New w w' := by
  generalize hW : w.alloc (.cells (cfc 4 k b h l a n c) 34) = w0
  have HB : Hid (w0.heap[w.heap.size]? = some (.cells (cfc 4 k b h l a n c) 34 (0, 0))) := Lib.hid (by rw [← hW]; exact heap_alloc_new w _)
  have HN : Hid (New w w0) := Lib.hid (by rw [← hW]; exact (New.refl w).alloc _)
  have heq := fun w => equ0 h l w
  rw [gy] at heq
  clear hr
  have c0 := cell_of_row _ _ 0 _ _ _ HB.out
  have c1 := cell_of_row _ _ 1 _ _ _ HB.out
  have c2 := cell_of_row _ _ 2 _ _ _ HB.out
  have c3 := cell_of_row _ _ 3 _ _ _ HB.out
  have c4 := cell_of_row _ _ 4 _ _ _ HB.out
  have c5 := cell_of_row _ _ 5 _ _ _ HB.out
  have hzx := (((New.refl w0).alloc (.cells #[.int .u64 0, .int .u64 0] 24)).block _ (lt_of_block HB.out)).trans HB.out
  have v0 := cell_of_row _ _ 0 _ _ _ hzx
  have v1 := cell_of_row _ _ 1 _ _ _ hzx
  have v2 := cell_of_row _ _ 2 _ _ _ hzx
  have v3 := cell_of_row _ _ 3 _ _ _ hzx
  have v4 := cell_of_row _ _ 4 _ _ _ hzx
  have v5 := cell_of_row _ _ 5 _ _ _ hzx
  clear hzx
  go_enter Tryz.func7, Tryz.ntmps7
  go_wp2
  go_ret
  exact ⟨rfl, HN.out.alloc _⟩
theorem rc_4_1 (k b : Int) (h l : BitVec 64) (a : Option Addr) (n c : Nat) (x : List (BitVec 64)) (w : World) (hr : QRow w a n c x) (gy : (h == 0#64 && l == 0#64) = true) (gb : (b != 0) = true) : Calls Tryz.prog 7 #[.agg (cfc 4 k b h l a n c)] w fun e w' => e = .returned (.int .i64 (5)) ∧ New w w' := by
  generalize hW : w.alloc (.cells (cfc 4 k b h l a n c) 34) = w0
  have HB : Hid (w0.heap[w.heap.size]? = some (.cells (cfc 4 k b h l a n c) 34 (0, 0))) := Lib.hid (by rw [← hW]; exact heap_alloc_new w _)
  have HN : Hid (New w w0) := Lib.hid (by rw [← hW]; exact (New.refl w).alloc _)
  have heq := fun w => equ0 h l w
  rw [gy] at heq
  clear hr
  have c0 := cell_of_row _ _ 0 _ _ _ HB.out
  have c1 := cell_of_row _ _ 1 _ _ _ HB.out
  have c2 := cell_of_row _ _ 2 _ _ _ HB.out
  have c3 := cell_of_row _ _ 3 _ _ _ HB.out
  have c4 := cell_of_row _ _ 4 _ _ _ HB.out
  have c5 := cell_of_row _ _ 5 _ _ _ HB.out
  have hzx := (((New.refl w0).alloc (.cells #[.int .u64 0, .int .u64 0] 24)).block _ (lt_of_block HB.out)).trans HB.out
  have v0 := cell_of_row _ _ 0 _ _ _ hzx
  have v1 := cell_of_row _ _ 1 _ _ _ hzx
  have v2 := cell_of_row _ _ 2 _ _ _ hzx
  have v3 := cell_of_row _ _ 3 _ _ _ hzx
  have v4 := cell_of_row _ _ 4 _ _ _ hzx
  have v5 := cell_of_row _ _ 5 _ _ _ hzx
  clear hzx
  go_enter Tryz.func7, Tryz.ntmps7
  go_wp2
  go_ret
  exact ⟨rfl, HN.out.alloc _⟩
theorem rc_4_2 (k b : Int) (h l : BitVec 64) (a : Option Addr) (n c : Nat) (x : List (BitVec 64)) (w : World) (hr : QRow w a n c x) (gy : (h == 0#64 && l == 0#64) = true) (gb : (b != 0) = false) (gk : (k != 0) = true) : Calls Tryz.prog 7 #[.agg (cfc 4 k b h l a n c)] w fun e w' => e = .returned (.int .i64 (5)) ∧ New w w' := by
  generalize hW : w.alloc (.cells (cfc 4 k b h l a n c) 34) = w0
  have HB : Hid (w0.heap[w.heap.size]? = some (.cells (cfc 4 k b h l a n c) 34 (0, 0))) := Lib.hid (by rw [← hW]; exact heap_alloc_new w _)
  have HN : Hid (New w w0) := Lib.hid (by rw [← hW]; exact (New.refl w).alloc _)
  have heq := fun w => equ0 h l w
  rw [gy] at heq
  clear hr
  have c0 := cell_of_row _ _ 0 _ _ _ HB.out
  have c1 := cell_of_row _ _ 1 _ _ _ HB.out
  have c2 := cell_of_row _ _ 2 _ _ _ HB.out
  have c3 := cell_of_row _ _ 3 _ _ _ HB.out
  have c4 := cell_of_row _ _ 4 _ _ _ HB.out
  have c5 := cell_of_row _ _ 5 _ _ _ HB.out
  have hzx := (((New.refl w0).alloc (.cells #[.int .u64 0, .int .u64 0] 24)).block _ (lt_of_block HB.out)).trans HB.out
  have v0 := cell_of_row _ _ 0 _ _ _ hzx
  have v1 := cell_of_row _ _ 1 _ _ _ hzx
  have v2 := cell_of_row _ _ 2 _ _ _ hzx
  have v3 := cell_of_row _ _ 3 _ _ _ hzx
  have v4 := cell_of_row _ _ 4 _ _ _ hzx
  have v5 := cell_of_row _ _ 5 _ _ _ hzx
  clear hzx
  go_enter Tryz.func7, Tryz.ntmps7
  go_wp2
  go_ret
  exact ⟨rfl, HN.out.alloc _⟩
theorem rc_4_3 (k b : Int) (h l : BitVec 64) (a : Option Addr) (n c : Nat) (x : List (BitVec 64)) (w : World) (hr : QRow w a n c x) (gy : (h == 0#64 && l == 0#64) = true) (gb : (b != 0) = false) (gk : (k != 0) = false) : Calls Tryz.prog 7 #[.agg (cfc 4 k b h l a n c)] w fun e w' => e = .returned (.int .i64 (if 4096 < x.length then 9 else 0)) ∧ New w w' := by
  generalize hW : w.alloc (.cells (cfc 4 k b h l a n c) 34) = w0
  have HB : Hid (w0.heap[w.heap.size]? = some (.cells (cfc 4 k b h l a n c) 34 (0, 0))) := Lib.hid (by rw [← hW]; exact heap_alloc_new w _)
  have HN : Hid (New w w0) := Lib.hid (by rw [← hW]; exact (New.refl w).alloc _)
  have heq := fun w => equ0 h l w
  rw [gy] at heq
  rw [hr.len_eq]
  clear hr
  have c0 := cell_of_row _ _ 0 _ _ _ HB.out
  have c1 := cell_of_row _ _ 1 _ _ _ HB.out
  have c2 := cell_of_row _ _ 2 _ _ _ HB.out
  have c3 := cell_of_row _ _ 3 _ _ _ HB.out
  have c4 := cell_of_row _ _ 4 _ _ _ HB.out
  have c5 := cell_of_row _ _ 5 _ _ _ HB.out
  have hzx := (((New.refl w0).alloc (.cells #[.int .u64 0, .int .u64 0] 24)).block _ (lt_of_block HB.out)).trans HB.out
  have v0 := cell_of_row _ _ 0 _ _ _ hzx
  have v1 := cell_of_row _ _ 1 _ _ _ hzx
  have v2 := cell_of_row _ _ 2 _ _ _ hzx
  have v3 := cell_of_row _ _ 3 _ _ _ hzx
  have v4 := cell_of_row _ _ 4 _ _ _ hzx
  have v5 := cell_of_row _ _ 5 _ _ _ hzx
  clear hzx
  by_cases hm : 4096 < n
  · rw [if_pos hm]
    have q : decide ((4096 : Int) < (n : Int)) = true := decide_eq_true (by omega)
    clear hm
    go_enter Tryz.func7, Tryz.ntmps7
    go_wp2
    go_ret
    exact ⟨rfl, HN.out.alloc _⟩
  · rw [if_neg hm]
    have q : decide ((4096 : Int) < (n : Int)) = false := decide_eq_false (by omega)
    clear hm
    go_enter Tryz.func7, Tryz.ntmps7
    go_wp2
    go_ret
    exact ⟨rfl, HN.out.alloc _⟩
theorem rc_5_0 (k b : Int) (h l : BitVec 64) (a : Option Addr) (n c : Nat) (x : List (BitVec 64)) (w : World) (hr : QRow w a n c x)  (gy : (h == 0#64 && l == 0#64) = false) : Calls Tryz.prog 7 #[.agg (cfc 5 k b h l a n c)] w fun e w' => e = .returned (.int .i64 (5)) ∧ New w w' := by
  generalize hW : w.alloc (.cells (cfc 5 k b h l a n c) 34) = w0
  have HB : Hid (w0.heap[w.heap.size]? = some (.cells (cfc 5 k b h l a n c) 34 (0, 0))) := Lib.hid (by rw [← hW]; exact heap_alloc_new w _)
  have HN : Hid (New w w0) := Lib.hid (by rw [← hW]; exact (New.refl w).alloc _)
  have heq := fun w => equ0 h l w
  rw [gy] at heq
  clear hr
  have c0 := cell_of_row _ _ 0 _ _ _ HB.out
  have c1 := cell_of_row _ _ 1 _ _ _ HB.out
  have c2 := cell_of_row _ _ 2 _ _ _ HB.out
  have c3 := cell_of_row _ _ 3 _ _ _ HB.out
  have c4 := cell_of_row _ _ 4 _ _ _ HB.out
  have c5 := cell_of_row _ _ 5 _ _ _ HB.out
  have hzx := (((New.refl w0).alloc (.cells #[.int .u64 0, .int .u64 0] 24)).block _ (lt_of_block HB.out)).trans HB.out
  have v0 := cell_of_row _ _ 0 _ _ _ hzx
  have v1 := cell_of_row _ _ 1 _ _ _ hzx
  have v2 := cell_of_row _ _ 2 _ _ _ hzx
  have v3 := cell_of_row _ _ 3 _ _ _ hzx
  have v4 := cell_of_row _ _ 4 _ _ _ hzx
  have v5 := cell_of_row _ _ 5 _ _ _ hzx
  clear hzx
  go_enter Tryz.func7, Tryz.ntmps7
  go_wp2
  go_ret
  exact ⟨rfl, HN.out.alloc _⟩
theorem rc_5_1 (k b : Int) (h l : BitVec 64) (a : Option Addr) (n c : Nat) (x : List (BitVec 64)) (w : World) (hr : QRow w a n c x) (gy : (h == 0#64 && l == 0#64) = true) (gb : (b != 0) = true) : Calls Tryz.prog 7 #[.agg (cfc 5 k b h l a n c)] w fun e w' => e = .returned (.int .i64 (5)) ∧ New w w' := by
  generalize hW : w.alloc (.cells (cfc 5 k b h l a n c) 34) = w0
  have HB : Hid (w0.heap[w.heap.size]? = some (.cells (cfc 5 k b h l a n c) 34 (0, 0))) := Lib.hid (by rw [← hW]; exact heap_alloc_new w _)
  have HN : Hid (New w w0) := Lib.hid (by rw [← hW]; exact (New.refl w).alloc _)
  have heq := fun w => equ0 h l w
  rw [gy] at heq
  clear hr
  have c0 := cell_of_row _ _ 0 _ _ _ HB.out
  have c1 := cell_of_row _ _ 1 _ _ _ HB.out
  have c2 := cell_of_row _ _ 2 _ _ _ HB.out
  have c3 := cell_of_row _ _ 3 _ _ _ HB.out
  have c4 := cell_of_row _ _ 4 _ _ _ HB.out
  have c5 := cell_of_row _ _ 5 _ _ _ HB.out
  have hzx := (((New.refl w0).alloc (.cells #[.int .u64 0, .int .u64 0] 24)).block _ (lt_of_block HB.out)).trans HB.out
  have v0 := cell_of_row _ _ 0 _ _ _ hzx
  have v1 := cell_of_row _ _ 1 _ _ _ hzx
  have v2 := cell_of_row _ _ 2 _ _ _ hzx
  have v3 := cell_of_row _ _ 3 _ _ _ hzx
  have v4 := cell_of_row _ _ 4 _ _ _ hzx
  have v5 := cell_of_row _ _ 5 _ _ _ hzx
  clear hzx
  go_enter Tryz.func7, Tryz.ntmps7
  go_wp2
  go_ret
  exact ⟨rfl, HN.out.alloc _⟩
theorem rc_5_2 (k b : Int) (h l : BitVec 64) (a : Option Addr) (n c : Nat) (x : List (BitVec 64)) (w : World) (hr : QRow w a n c x) (gy : (h == 0#64 && l == 0#64) = true) (gb : (b != 0) = false) (gk : (k != 0) = true) : Calls Tryz.prog 7 #[.agg (cfc 5 k b h l a n c)] w fun e w' => e = .returned (.int .i64 (5)) ∧ New w w' := by
  generalize hW : w.alloc (.cells (cfc 5 k b h l a n c) 34) = w0
  have HB : Hid (w0.heap[w.heap.size]? = some (.cells (cfc 5 k b h l a n c) 34 (0, 0))) := Lib.hid (by rw [← hW]; exact heap_alloc_new w _)
  have HN : Hid (New w w0) := Lib.hid (by rw [← hW]; exact (New.refl w).alloc _)
  have heq := fun w => equ0 h l w
  rw [gy] at heq
  clear hr
  have c0 := cell_of_row _ _ 0 _ _ _ HB.out
  have c1 := cell_of_row _ _ 1 _ _ _ HB.out
  have c2 := cell_of_row _ _ 2 _ _ _ HB.out
  have c3 := cell_of_row _ _ 3 _ _ _ HB.out
  have c4 := cell_of_row _ _ 4 _ _ _ HB.out
  have c5 := cell_of_row _ _ 5 _ _ _ HB.out
  have hzx := (((New.refl w0).alloc (.cells #[.int .u64 0, .int .u64 0] 24)).block _ (lt_of_block HB.out)).trans HB.out
  have v0 := cell_of_row _ _ 0 _ _ _ hzx
  have v1 := cell_of_row _ _ 1 _ _ _ hzx
  have v2 := cell_of_row _ _ 2 _ _ _ hzx
  have v3 := cell_of_row _ _ 3 _ _ _ hzx
  have v4 := cell_of_row _ _ 4 _ _ _ hzx
  have v5 := cell_of_row _ _ 5 _ _ _ hzx
  clear hzx
  go_enter Tryz.func7, Tryz.ntmps7
  go_wp2
  go_ret
  exact ⟨rfl, HN.out.alloc _⟩
theorem rc_5_3 (k b : Int) (h l : BitVec 64) (a : Option Addr) (n c : Nat) (x : List (BitVec 64)) (w : World) (hr : QRow w a n c x) (gy : (h == 0#64 && l == 0#64) = true) (gb : (b != 0) = false) (gk : (k != 0) = false) : Calls Tryz.prog 7 #[.agg (cfc 5 k b h l a n c)] w fun e w' => e = .returned (.int .i64 (wE x)) ∧ New w w' := by
  generalize hW : w.alloc (.cells (cfc 5 k b h l a n c) 34) = w0
  have HB : Hid (w0.heap[w.heap.size]? = some (.cells (cfc 5 k b h l a n c) 34 (0, 0))) := Lib.hid (by rw [← hW]; exact heap_alloc_new w _)
  have HN : Hid (New w w0) := Lib.hid (by rw [← hW]; exact (New.refl w).alloc _)
  have heq := fun w => equ0 h l w
  rw [gy] at heq
  have HT := Lib.hid (fun (w' : World) (hn : New w0 w') => checkr_43 a n c x w' (hr.stay (HN.out.trans hn)))
  generalize wE x = E at *
  clear hr
  have c0 := cell_of_row _ _ 0 _ _ _ HB.out
  have c1 := cell_of_row _ _ 1 _ _ _ HB.out
  have c2 := cell_of_row _ _ 2 _ _ _ HB.out
  have c3 := cell_of_row _ _ 3 _ _ _ HB.out
  have c4 := cell_of_row _ _ 4 _ _ _ HB.out
  have c5 := cell_of_row _ _ 5 _ _ _ HB.out
  have hzx := (((New.refl w0).alloc (.cells #[.int .u64 0, .int .u64 0] 24)).block _ (lt_of_block HB.out)).trans HB.out
  have v0 := cell_of_row _ _ 0 _ _ _ hzx
  have v1 := cell_of_row _ _ 1 _ _ _ hzx
  have v2 := cell_of_row _ _ 2 _ _ _ hzx
  have v3 := cell_of_row _ _ 3 _ _ _ hzx
  have v4 := cell_of_row _ _ 4 _ _ _ hzx
  have v5 := cell_of_row _ _ 5 _ _ _ hzx
  clear hzx
  go_enter Tryz.func7, Tryz.ntmps7
  have HNX : Hid (New w0 (w0.alloc (.cells #[.int .u64 0, .int .u64 0] 24))) := Lib.hid ((New.refl w0).alloc _)
  go_wp2_with fail
  refine (HT.out _ HNX.out).mono ?_
  rintro e w2 ⟨rfl, hn⟩
  have HN2 := Lib.hid (HN.out.trans (HNX.out.trans hn))
  clear hn HT c0 c1 c2 c3 c4 c5 v0 v1 v2 v3 v4 v5
  go_wp2
  go_ret
  exact ⟨rfl, HN2.out⟩
theorem rc_3_6 (k b : Int) (h l : BitVec 64) (a : Option Addr) (n c : Nat) (x : List (BitVec 64)) (w : World) (hr : QRow w a n c x) (gy : (h == 0#64 && l == 0#64) = true) (gb : (b != 0) = false) (hs : szK k = 0) : Calls Tryz.prog 7 #[.agg (cfc 3 k b h l a n c)] w fun e w' => e = .returned (.int .i64 (6)) ∧ New w w' := by
  generalize hW : w.alloc (.cells (cfc 3 k b h l a n c) 34) = w0
  have HB : Hid (w0.heap[w.heap.size]? = some (.cells (cfc 3 k b h l a n c) 34 (0, 0))) := Lib.hid (by rw [← hW]; exact heap_alloc_new w _)
  have HN : Hid (New w w0) := Lib.hid (by rw [← hW]; exact (New.refl w).alloc _)
  have heq := fun w => equ0 h l w
  rw [gy] at heq
  have HSZ := Lib.hid (fun w => rsize_any k w)
  rw [hs] at HSZ
  clear hr hs
  have c0 := cell_of_row _ _ 0 _ _ _ HB.out
  have c1 := cell_of_row _ _ 1 _ _ _ HB.out
  have c2 := cell_of_row _ _ 2 _ _ _ HB.out
  have c3 := cell_of_row _ _ 3 _ _ _ HB.out
  have c4 := cell_of_row _ _ 4 _ _ _ HB.out
  have c5 := cell_of_row _ _ 5 _ _ _ HB.out
  have hzx := (((New.refl w0).alloc (.cells #[.int .u64 0, .int .u64 0] 24)).block _ (lt_of_block HB.out)).trans HB.out
  have v0 := cell_of_row _ _ 0 _ _ _ hzx
  have v1 := cell_of_row _ _ 1 _ _ _ hzx
  have v2 := cell_of_row _ _ 2 _ _ _ hzx
  have v3 := cell_of_row _ _ 3 _ _ _ hzx
  have v4 := cell_of_row _ _ 4 _ _ _ hzx
  have v5 := cell_of_row _ _ 5 _ _ _ hzx
  clear hzx
  go_enter Tryz.func7, Tryz.ntmps7
  go_wp2_with fail
  refine (HSZ.out _).mono ?_
  rintro e w1 ⟨rfl, hn⟩
  have HN1 := Lib.hid ((HN.out.alloc _).trans hn)
  clear hn HSZ c0 c1 c2 c3 c4 c5 v0 v1 v2 v3 v4 v5
  go_wp2
  go_ret
  exact ⟨rfl, HN1.out⟩
set_option maxHeartbeats 2000000 in
theorem rc_3_5 (k b : Int) (h l : BitVec 64) (a : Option Addr) (n c : Nat) (x : List (BitVec 64)) (w : World) (hr : QRow w a n c x) (gy : (h == 0#64 && l == 0#64) = true) (gb : (b != 0) = false) (hs : ¬ szK k = 0) (hl : ¬ (n : Int) = szK k) : Calls Tryz.prog 7 #[.agg (cfc 3 k b h l a n c)] w fun e w' => e = .returned (.int .i64 (5)) ∧ New w w' := by
  generalize hW : w.alloc (.cells (cfc 3 k b h l a n c) 34) = w0
  have HB : Hid (w0.heap[w.heap.size]? = some (.cells (cfc 3 k b h l a n c) 34 (0, 0))) := Lib.hid (by rw [← hW]; exact heap_alloc_new w _)
  have HN : Hid (New w w0) := Lib.hid (by rw [← hW]; exact (New.refl w).alloc _)
  have heq := fun w => equ0 h l w
  rw [gy] at heq
  have HSZ := Lib.hid (fun w => rsize_any k w)
  have z0 : (szK k == 0) = false := beq_false_of_ne hs
  have z1 : (szK k != (n : Int)) = true := bne_iff_ne.2 (fun e => hl e.symm)
  generalize szK k = Z at *
  clear hr hs hl
  have c0 := cell_of_row _ _ 0 _ _ _ HB.out
  have c1 := cell_of_row _ _ 1 _ _ _ HB.out
  have c2 := cell_of_row _ _ 2 _ _ _ HB.out
  have c3 := cell_of_row _ _ 3 _ _ _ HB.out
  have c4 := cell_of_row _ _ 4 _ _ _ HB.out
  have c5 := cell_of_row _ _ 5 _ _ _ HB.out
  have hzx := (((New.refl w0).alloc (.cells #[.int .u64 0, .int .u64 0] 24)).block _ (lt_of_block HB.out)).trans HB.out
  have v0 := cell_of_row _ _ 0 _ _ _ hzx
  have v1 := cell_of_row _ _ 1 _ _ _ hzx
  have v2 := cell_of_row _ _ 2 _ _ _ hzx
  have v3 := cell_of_row _ _ 3 _ _ _ hzx
  have v4 := cell_of_row _ _ 4 _ _ _ hzx
  have v5 := cell_of_row _ _ 5 _ _ _ hzx
  clear hzx
  go_enter Tryz.func7, Tryz.ntmps7
  go_wp2_with fail
  refine (HSZ.out _).mono ?_
  rintro e w1 ⟨rfl, hn⟩
  have HN1 := Lib.hid (((New.refl w0).alloc (.cells #[.int .u64 0, .int .u64 0] 24)).trans hn)
  have HB1 := Lib.hid ((HN1.out.block _ (lt_of_block HB.out)).trans HB.out)
  clear hn c0 c1 c2 c3 c4 c5 v0 v1 v2 v3 v4 v5
  have c0 := cell_of_row _ _ 0 _ _ _ HB1.out
  have c1 := cell_of_row _ _ 1 _ _ _ HB1.out
  have c2 := cell_of_row _ _ 2 _ _ _ HB1.out
  have c3 := cell_of_row _ _ 3 _ _ _ HB1.out
  have c4 := cell_of_row _ _ 4 _ _ _ HB1.out
  have c5 := cell_of_row _ _ 5 _ _ _ HB1.out
  go_wp2_with fail
  clear c0 c1 c2 c3 c4 c5
  refine wp_region_class (fun w' => (w'.heap[w.heap.size]? = some (.cells (cfc 3 k b h l a n c) 34 (0, 0))) ∧ New w1 w') (by kernel_rfl) (by kernel_rfl) ⟨HB1.out, (New.refl _).drew⟩ ?_
  intro I _ f hall hback
  have HSTEP : Hid (∀ n w', New (f n) w' → ∃ m, w' = f m) := Lib.hid fun n w' hn => hback w' ⟨(hn.block _ (lt_of_block (hall n).1)).trans (hall n).1, (hall n).2.trans hn⟩
  have HALL := Lib.hid hall
  have s0 := fun n => cell_of_row _ _ 0 _ _ _ (hall n).1
  have s1 := fun n => cell_of_row _ _ 1 _ _ _ (hall n).1
  have s2 := fun n => cell_of_row _ _ 2 _ _ _ (hall n).1
  have s3 := fun n => cell_of_row _ _ 3 _ _ _ (hall n).1
  have s4 := fun n => cell_of_row _ _ 4 _ _ _ (hall n).1
  have s5 := fun n => cell_of_row _ _ 5 _ _ _ (hall n).1
  clear hall hback
  repeat (go_big_quiet_step (first
    | (go_at_call 23; refine class_new HSTEP.out (HSZ.out _))))
  refine wpQuiet_nil ?_
  rintro w9 ⟨n1, hw1⟩
  have hS := HALL.out n1
  rw [← hw1] at hS
  have HB9 := Lib.hid hS.1
  have HN9 := Lib.hid (HN1.out.trans hS.2)
  clear HALL HSTEP hw1 hS s0 s1 s2 s3 s4 s5
  have c0 := cell_of_row _ _ 0 _ _ _ HB9.out
  have c1 := cell_of_row _ _ 1 _ _ _ HB9.out
  have c2 := cell_of_row _ _ 2 _ _ _ HB9.out
  have c3 := cell_of_row _ _ 3 _ _ _ HB9.out
  have c4 := cell_of_row _ _ 4 _ _ _ HB9.out
  have c5 := cell_of_row _ _ 5 _ _ _ HB9.out
  go_wp2
  go_ret
  exact ⟨rfl, HN.out.trans HN9.out⟩
set_option maxHeartbeats 2000000 in
theorem rc_3_ok (k b : Int) (h l : BitVec 64) (a : Option Addr) (n c : Nat) (x : List (BitVec 64)) (w : World) (hr : QRow w a n c x) (gy : (h == 0#64 && l == 0#64) = true) (gb : (b != 0) = false) (hs : ¬ szK k = 0) (hl : (n : Int) = szK k) : Calls Tryz.prog 7 #[.agg (cfc 3 k b h l a n c)] w fun e w' => e = .returned (.int .i64 (chkK k (w4 x))) ∧ New w w' := by
  generalize hW : w.alloc (.cells (cfc 3 k b h l a n c) 34) = w0
  have HB : Hid (w0.heap[w.heap.size]? = some (.cells (cfc 3 k b h l a n c) 34 (0, 0))) := Lib.hid (by rw [← hW]; exact heap_alloc_new w _)
  have HN : Hid (New w w0) := Lib.hid (by rw [← hW]; exact (New.refl w).alloc _)
  have heq := fun w => equ0 h l w
  rw [gy] at heq
  have HSZ := Lib.hid (fun w => rsize_any k w)
  have z0 : (szK k == 0) = false := beq_false_of_ne hs
  have z1 : (szK k != (n : Int)) = false := by rw [hl]; exact bne_self_eq_false _
  have hn4 : 0 < n ∧ n ≤ 4 := by have := sz_124 hs; omega
  have HST := Lib.hid (fun (w' : World) (hn : New w0 w') => rst_47 3 k b h l a n c x w' (hr.stay (HN.out.trans hn)) hn4.1 hn4.2)
  have HCK := Lib.hid (fun w => rcheck_any k (w4 x) w)
  generalize chkK k (w4 x) = E at *
  obtain ⟨Q, hQ⟩ : ∃ z, w4 x = z := ⟨_, rfl⟩
  rw [hQ] at HST HCK
  clear hQ hn4
  generalize szK k = Z at *
  clear hr hs hl
  have c0 := cell_of_row _ _ 0 _ _ _ HB.out
  have c1 := cell_of_row _ _ 1 _ _ _ HB.out
  have c2 := cell_of_row _ _ 2 _ _ _ HB.out
  have c3 := cell_of_row _ _ 3 _ _ _ HB.out
  have c4 := cell_of_row _ _ 4 _ _ _ HB.out
  have c5 := cell_of_row _ _ 5 _ _ _ HB.out
  have hzx := (((New.refl w0).alloc (.cells #[.int .u64 0, .int .u64 0] 24)).block _ (lt_of_block HB.out)).trans HB.out
  have v0 := cell_of_row _ _ 0 _ _ _ hzx
  have v1 := cell_of_row _ _ 1 _ _ _ hzx
  have v2 := cell_of_row _ _ 2 _ _ _ hzx
  have v3 := cell_of_row _ _ 3 _ _ _ hzx
  have v4 := cell_of_row _ _ 4 _ _ _ hzx
  have v5 := cell_of_row _ _ 5 _ _ _ hzx
  clear hzx
  go_enter Tryz.func7, Tryz.ntmps7
  go_wp2_with fail
  refine (HSZ.out _).mono ?_
  rintro e w1 ⟨rfl, hn⟩
  have HN1 := Lib.hid (((New.refl w0).alloc (.cells #[.int .u64 0, .int .u64 0] 24)).trans hn)
  have HB1 := Lib.hid ((HN1.out.block _ (lt_of_block HB.out)).trans HB.out)
  clear hn c0 c1 c2 c3 c4 c5 v0 v1 v2 v3 v4 v5
  have c0 := cell_of_row _ _ 0 _ _ _ HB1.out
  have c1 := cell_of_row _ _ 1 _ _ _ HB1.out
  have c2 := cell_of_row _ _ 2 _ _ _ HB1.out
  have c3 := cell_of_row _ _ 3 _ _ _ HB1.out
  have c4 := cell_of_row _ _ 4 _ _ _ HB1.out
  have c5 := cell_of_row _ _ 5 _ _ _ HB1.out
  go_wp2_with fail
  clear c0 c1 c2 c3 c4 c5
  refine wp_region_class (fun w' => (w'.heap[w.heap.size]? = some (.cells (cfc 3 k b h l a n c) 34 (0, 0))) ∧ New w1 w') (by kernel_rfl) (by kernel_rfl) ⟨HB1.out, (New.refl _).drew⟩ ?_
  intro I _ f hall hback
  have HSTEP : Hid (∀ n w', New (f n) w' → ∃ m, w' = f m) := Lib.hid fun n w' hn => hback w' ⟨(hn.block _ (lt_of_block (hall n).1)).trans (hall n).1, (hall n).2.trans hn⟩
  have HALL := Lib.hid hall
  have s0 := fun n => cell_of_row _ _ 0 _ _ _ (hall n).1
  have s1 := fun n => cell_of_row _ _ 1 _ _ _ (hall n).1
  have s2 := fun n => cell_of_row _ _ 2 _ _ _ (hall n).1
  have s3 := fun n => cell_of_row _ _ 3 _ _ _ (hall n).1
  have s4 := fun n => cell_of_row _ _ 4 _ _ _ (hall n).1
  have s5 := fun n => cell_of_row _ _ 5 _ _ _ (hall n).1
  clear hall hback
  repeat (go_big_quiet_step (first
    | (go_at_call 23; refine class_new HSTEP.out (HSZ.out _))))
  refine wpQuiet_nil ?_
  rintro w9 ⟨n1, hw1⟩
  have hS := HALL.out n1
  rw [← hw1] at hS
  have HB9 := Lib.hid hS.1
  have HN9 := Lib.hid (HN1.out.trans hS.2)
  clear HALL HSTEP hw1 hS s0 s1 s2 s3 s4 s5
  have c0 := cell_of_row _ _ 0 _ _ _ HB9.out
  have c1 := cell_of_row _ _ 1 _ _ _ HB9.out
  have c2 := cell_of_row _ _ 2 _ _ _ HB9.out
  have c3 := cell_of_row _ _ 3 _ _ _ HB9.out
  have c4 := cell_of_row _ _ 4 _ _ _ HB9.out
  have c5 := cell_of_row _ _ 5 _ _ _ HB9.out
  go_wp2_with fail
  refine (HST.out _ HN9.out).mono ?_
  rintro e w10 ⟨rfl, hn⟩
  have HN10 := Lib.hid (HN9.out.trans hn)
  clear hn HST c0 c1 c2 c3 c4 c5
  go_wp2_with fail
  refine (HCK.out _).mono ?_
  rintro e w11 ⟨rfl, hn⟩
  have HN11 := Lib.hid (HN.out.trans (HN10.out.trans hn))
  clear hn HCK
  go_wp2
  go_ret
  exact ⟨rfl, HN11.out⟩
theorem rcheck_47 (t : Int) (k b : Int) (h l : BitVec 64) (a : Option Addr) (n c : Nat) (x : List (BitVec 64)) (w : World) (hr : QRow w a n c x) : Calls Tryz.prog 7 #[.agg (cfc t k b h l a n c)] w fun e w' => e = .returned (.int .i64 (cfE t k b h l x)) ∧ New w w' := by
  have hl := hr.len_eq
  unfold cfE
  by_cases h1 : t < 1
  · rw [if_pos (.inl h1)]; exact rc_low t k b h l a n c x w hr h1
  by_cases h2 : 5 < t
  · rw [if_pos (.inr h2)]; exact rc_high t k b h l a n c x w hr h2
  rw [if_neg (by omega), hl]
  have h5 : t = 1 ∨ t = 2 ∨ t = 3 ∨ t = 4 ∨ t = 5 := by omega
  rcases h5 with rfl | rfl | rfl | rfl | rfl
  · rw [cfF_1]
    cases gb : (b != 0) with
    | true => rw [if_pos (by simp)]; exact rc_1_0 k b h l a n c x w hr gb
    | false =>
      cases gn : ((n : Int) != 0) with
      | true => rw [if_pos (by simp)]; exact rc_1_1 k b h l a n c x w hr gb gn
      | false =>
        rw [if_neg (by simp)]; exact rc_1_2 k b h l a n c x w hr gb gn
  · rw [cfF_2]
    cases gy : (h == 0#64 && l == 0#64) with
    | false => rw [if_pos (by simp)]; exact rc_2_0 k b h l a n c x w hr gy
    | true =>
      rw [if_neg (by simp)]; exact rc_2_1 k b h l a n c x w hr gy
  · rw [cfF_3]
    cases gy : (h == 0#64 && l == 0#64) with
    | false => rw [if_pos (by simp)]; exact rc_3_0 k b h l a n c x w hr gy
    | true =>
      cases gb : (b != 0) with
      | true => rw [if_pos (by simp)]; exact rc_3_1 k b h l a n c x w hr gy gb
      | false =>
        rw [if_neg (by simp)]
        show Calls Tryz.prog 7 #[.agg (cfc 3 k b h l a n c)] w fun e w' => e = .returned (.int .i64 (soE k x)) ∧ New w w'
        unfold soE
        by_cases hs : szK k = 0
        · rw [if_pos hs]; exact rc_3_6 k b h l a n c x w hr gy gb hs
        · rw [if_neg hs]
          by_cases hq : (n : Int) = szK k
          · rw [if_neg (by rw [hl]; omega)]; exact rc_3_ok k b h l a n c x w hr gy gb hs hq
          · rw [if_pos (by rw [hl]; exact hq)]; exact rc_3_5 k b h l a n c x w hr gy gb hs hq
  · rw [cfF_4]
    cases gy : (h == 0#64 && l == 0#64) with
    | false => rw [if_pos (by simp)]; exact rc_4_0 k b h l a n c x w hr gy
    | true =>
      cases gb : (b != 0) with
      | true => rw [if_pos (by simp)]; exact rc_4_1 k b h l a n c x w hr gy gb
      | false =>
        cases gk : (k != 0) with
        | true => rw [if_pos (by simp)]; exact rc_4_2 k b h l a n c x w hr gy gb gk
        | false =>
          rw [if_neg (by simp)]; exact rc_4_3 k b h l a n c x w hr gy gb gk
  · rw [cfF_5]
    cases gy : (h == 0#64 && l == 0#64) with
    | false => rw [if_pos (by simp)]; exact rc_5_0 k b h l a n c x w hr gy
    | true =>
      cases gb : (b != 0) with
      | true => rw [if_pos (by simp)]; exact rc_5_1 k b h l a n c x w hr gy gb
      | false =>
        cases gk : (k != 0) with
        | true => rw [if_pos (by simp)]; exact rc_5_2 k b h l a n c x w hr gy gb gk
        | false =>
          rw [if_neg (by simp)]; exact rc_5_3 k b h l a n c x w hr gy gb gk
end Go.Proofs.YthkmcnlciefnfaaGreat
