import Derived.Test.YthkmcnlciefnfaaGreatZ5FamA
import Derived.BigRegion
/- Layer 27: the family of a kind; sizes, keys and names of the kinds. -/
namespace Go.Proofs.YthkmcnlciefnfaaGreat
open Go.RowKit Go.Bv
set_option linter.unusedVariables false
def okF (k : Int) : Bool := decide (1 ≤ k ∧ k ≤ 8)
/-- the value of a kind, if it is one -/
def FamV (n : Nat) (w : World) (k : Int) (cs : Array Value) : Prop := (okF k = true ∧ ∃ f : Fm, cs = f.cells ∧ OwnF n w k f) ∨ (okF k = false ∧ cs = fzc)
abbrev put10 (w : World) (q : Nat) (v0 v1 v2 v3 v4 v5 v6 v7 v8 v9 : Value) : World := ((((((((((w.setCell ⟨q, 0, none⟩ v0).setCell ⟨q, 1, none⟩ v1).setCell ⟨q, 2, none⟩ v2).setCell ⟨q, 3, none⟩ v3).setCell ⟨q, 4, none⟩ v4).setCell ⟨q, 5, none⟩ v5).setCell ⟨q, 6, none⟩ v6).setCell ⟨q, 7, none⟩ v7).setCell ⟨q, 8, none⟩ v8).setCell ⟨q, 9, none⟩ v9)
set_option maxHeartbeats 2000000 in
theorem put10_facts {w : World} {q : Nat} {u0 u1 u2 u3 u4 u5 u6 u7 u8 u9 : Value} {T : TypeId} (v0 v1 v2 v3 v4 v5 v6 v7 v8 v9 : Value) (h : w.heap[q]? = some (.cells #[u0, u1, u2, u3, u4, u5, u6, u7, u8, u9] T (0, 0))) :
    (put10 w q v0 v1 v2 v3 v4 v5 v6 v7 v8 v9).heap[q]? = some (.cells #[v0, v1, v2, v3, v4, v5, v6, v7, v8, v9] T (0, 0)) ∧ (∀ j, j ≠ q → (put10 w q v0 v1 v2 v3 v4 v5 v6 v7 v8 v9).heap[j]? = w.heap[j]?) ∧ (∀ W : World, New W w → W.heap.size ≤ q → New W (put10 w q v0 v1 v2 v3 v4 v5 v6 v7 v8 v9)) ∧ (put10 w q v0 v1 v2 v3 v4 v5 v6 v7 v8 v9).heap.size = w.heap.size := by
  refine ⟨?_, fun j hj => ?_, fun W hn hq => ?_, ?_⟩
  · have h0 : (w.setCell ⟨q, 0, none⟩ v0).heap[q]? = some (.cells #[v0, u1, u2, u3, u4, u5, u6, u7, u8, u9] T (0, 0)) := heap_setCell_same _ q 0 _ _ v0 h
    have h1 : ((w.setCell ⟨q, 0, none⟩ v0).setCell ⟨q, 1, none⟩ v1).heap[q]? = some (.cells #[v0, v1, u2, u3, u4, u5, u6, u7, u8, u9] T (0, 0)) := heap_setCell_same _ q 1 _ _ v1 h0
    have h2 : (((w.setCell ⟨q, 0, none⟩ v0).setCell ⟨q, 1, none⟩ v1).setCell ⟨q, 2, none⟩ v2).heap[q]? = some (.cells #[v0, v1, v2, u3, u4, u5, u6, u7, u8, u9] T (0, 0)) := heap_setCell_same _ q 2 _ _ v2 h1
    have h3 : ((((w.setCell ⟨q, 0, none⟩ v0).setCell ⟨q, 1, none⟩ v1).setCell ⟨q, 2, none⟩ v2).setCell ⟨q, 3, none⟩ v3).heap[q]? = some (.cells #[v0, v1, v2, v3, u4, u5, u6, u7, u8, u9] T (0, 0)) := heap_setCell_same _ q 3 _ _ v3 h2
    have h4 : (((((w.setCell ⟨q, 0, none⟩ v0).setCell ⟨q, 1, none⟩ v1).setCell ⟨q, 2, none⟩ v2).setCell ⟨q, 3, none⟩ v3).setCell ⟨q, 4, none⟩ v4).heap[q]? = some (.cells #[v0, v1, v2, v3, v4, u5, u6, u7, u8, u9] T (0, 0)) := heap_setCell_same _ q 4 _ _ v4 h3
    have h5 : ((((((w.setCell ⟨q, 0, none⟩ v0).setCell ⟨q, 1, none⟩ v1).setCell ⟨q, 2, none⟩ v2).setCell ⟨q, 3, none⟩ v3).setCell ⟨q, 4, none⟩ v4).setCell ⟨q, 5, none⟩ v5).heap[q]? = some (.cells #[v0, v1, v2, v3, v4, v5, u6, u7, u8, u9] T (0, 0)) := heap_setCell_same _ q 5 _ _ v5 h4
    have h6 : (((((((w.setCell ⟨q, 0, none⟩ v0).setCell ⟨q, 1, none⟩ v1).setCell ⟨q, 2, none⟩ v2).setCell ⟨q, 3, none⟩ v3).setCell ⟨q, 4, none⟩ v4).setCell ⟨q, 5, none⟩ v5).setCell ⟨q, 6, none⟩ v6).heap[q]? = some (.cells #[v0, v1, v2, v3, v4, v5, v6, u7, u8, u9] T (0, 0)) := heap_setCell_same _ q 6 _ _ v6 h5
    have h7 : ((((((((w.setCell ⟨q, 0, none⟩ v0).setCell ⟨q, 1, none⟩ v1).setCell ⟨q, 2, none⟩ v2).setCell ⟨q, 3, none⟩ v3).setCell ⟨q, 4, none⟩ v4).setCell ⟨q, 5, none⟩ v5).setCell ⟨q, 6, none⟩ v6).setCell ⟨q, 7, none⟩ v7).heap[q]? = some (.cells #[v0, v1, v2, v3, v4, v5, v6, v7, u8, u9] T (0, 0)) := heap_setCell_same _ q 7 _ _ v7 h6
    have h8 : (((((((((w.setCell ⟨q, 0, none⟩ v0).setCell ⟨q, 1, none⟩ v1).setCell ⟨q, 2, none⟩ v2).setCell ⟨q, 3, none⟩ v3).setCell ⟨q, 4, none⟩ v4).setCell ⟨q, 5, none⟩ v5).setCell ⟨q, 6, none⟩ v6).setCell ⟨q, 7, none⟩ v7).setCell ⟨q, 8, none⟩ v8).heap[q]? = some (.cells #[v0, v1, v2, v3, v4, v5, v6, v7, v8, u9] T (0, 0)) := heap_setCell_same _ q 8 _ _ v8 h7
    have h9 : ((((((((((w.setCell ⟨q, 0, none⟩ v0).setCell ⟨q, 1, none⟩ v1).setCell ⟨q, 2, none⟩ v2).setCell ⟨q, 3, none⟩ v3).setCell ⟨q, 4, none⟩ v4).setCell ⟨q, 5, none⟩ v5).setCell ⟨q, 6, none⟩ v6).setCell ⟨q, 7, none⟩ v7).setCell ⟨q, 8, none⟩ v8).setCell ⟨q, 9, none⟩ v9).heap[q]? = some (.cells #[v0, v1, v2, v3, v4, v5, v6, v7, v8, v9] T (0, 0)) := heap_setCell_same _ q 9 _ _ v9 h8
    exact h9
  · rw [heap_setCell_other _ _ _ _ hj, heap_setCell_other _ _ _ _ hj, heap_setCell_other _ _ _ _ hj, heap_setCell_other _ _ _ _ hj, heap_setCell_other _ _ _ _ hj, heap_setCell_other _ _ _ _ hj, heap_setCell_other _ _ _ _ hj, heap_setCell_other _ _ _ _ hj, heap_setCell_other _ _ _ _ hj, heap_setCell_other _ _ _ _ hj]
  · exact ((((((((((hn.setCell (by exact hq) _).setCell (by exact hq) _).setCell (by exact hq) _).setCell (by exact hq) _).setCell (by exact hq) _).setCell (by exact hq) _).setCell (by exact hq) _).setCell (by exact hq) _).setCell (by exact hq) _).setCell (by exact hq) _)
  · simp
theorem okF_no {k : Int} (h : ¬ (1 ≤ k ∧ k ≤ 8)) : okF k = false := by unfold okF; simpa using h
set_option maxHeartbeats 1600000 in
theorem fam_of1 (w : World) : Calls Tryz.prog 69 #[.int .i64 1] w fun e w' => (∃ cs, e = .returned (.tuple #[.agg cs, .bool true]) ∧ FamV w.heap.size w' 1 cs) ∧ New w w' := by
  go_enter Tryz.func69, Tryz.ntmps69
  go_wp2_with fail
  refine (of_poly _).mono ?_
  rintro e w' ⟨⟨f, rfl, hg⟩, hn⟩
  have hb := (hn.block _ (lt_of_block (heap_alloc_new w _))).trans (heap_alloc_new w _)
  have k0 := cell_of_row _ _ 0 _ _ _ hb
  have k1 := cell_of_row _ _ 1 _ _ _ hb
  have k2 := cell_of_row _ _ 2 _ _ _ hb
  have k3 := cell_of_row _ _ 3 _ _ _ hb
  have k4 := cell_of_row _ _ 4 _ _ _ hb
  have k5 := cell_of_row _ _ 5 _ _ _ hb
  have k6 := cell_of_row _ _ 6 _ _ _ hb
  have k7 := cell_of_row _ _ 7 _ _ _ hb
  have k8 := cell_of_row _ _ 8 _ _ _ hb
  have k9 := cell_of_row _ _ 9 _ _ _ hb
  have kf := fun i => frozen_of_row _ _ i _ _ hb
  have hp := put10_facts (.string f.nm) (.int .i64 f.ls) (.int .i64 f.ms) (.int .i64 f.lb) (.int .i64 f.mb) (.int .i64 f.ky) f.ck f.tg f.ev f.sh hb
  have hfm := hg.now.form
  obtain ⟨nm, ls, ms, lb, mb, ky, ck, tg, ev, sh⟩ := f
  dsimp only at hfm
  rcases hfm with ⟨a, b, c, d, p, q, r, s, rfl, rfl, rfl, rfl⟩ | ⟨a, b, c, p, q, r, rfl, rfl, rfl, rfl⟩
  · go_wp2_with fail
    refine bodyPost_ret (by simp [results, Tryz.results69, go_sem, k0, k1, k2, k3, k4, k5, k6, k7, k8, k9]; try rfl) rfl ?_
    refine ⟨⟨Fm.cells ⟨nm, ls, ms, lb, mb, ky, .func (Fn.func a) #[] p, .func (Fn.func b) #[] q, .func (Fn.func c) #[] r, .func (Fn.func d) #[] s⟩, rfl, Or.inl ⟨rfl, _, rfl, ?_⟩⟩, hp.2.2.1 _ (((New.refl w).alloc _).trans hn) (Nat.le_refl _)⟩
    refine (hg.kept (Nat.le_of_eq hp.2.2.2.symm) fun j hj _ => hp.2.1 j ?_).le (by simp)
    simp at hj; omega
  · go_wp2_with fail
    refine bodyPost_ret (by simp [results, Tryz.results69, go_sem, k0, k1, k2, k3, k4, k5, k6, k7, k8, k9]; try rfl) rfl ?_
    refine ⟨⟨Fm.cells ⟨nm, ls, ms, lb, mb, ky, .func (Fn.func a) #[] p, .func (Fn.func b) #[] q, .func (Fn.func c) #[] r, .nilFunc⟩, rfl, Or.inl ⟨rfl, _, rfl, ?_⟩⟩, hp.2.2.1 _ (((New.refl w).alloc _).trans hn) (Nat.le_refl _)⟩
    refine (hg.kept (Nat.le_of_eq hp.2.2.2.symm) fun j hj _ => hp.2.1 j ?_).le (by simp)
    simp at hj; omega
set_option maxHeartbeats 1600000 in
theorem fam_of2 (w : World) : Calls Tryz.prog 69 #[.int .i64 2] w fun e w' => (∃ cs, e = .returned (.tuple #[.agg cs, .bool true]) ∧ FamV w.heap.size w' 2 cs) ∧ New w w' := by
  go_enter Tryz.func69, Tryz.ntmps69
  go_wp2_with fail
  refine (of_odd _).mono ?_
  rintro e w' ⟨⟨f, rfl, hg⟩, hn⟩
  have hb := (hn.block _ (lt_of_block (heap_alloc_new w _))).trans (heap_alloc_new w _)
  have k0 := cell_of_row _ _ 0 _ _ _ hb
  have k1 := cell_of_row _ _ 1 _ _ _ hb
  have k2 := cell_of_row _ _ 2 _ _ _ hb
  have k3 := cell_of_row _ _ 3 _ _ _ hb
  have k4 := cell_of_row _ _ 4 _ _ _ hb
  have k5 := cell_of_row _ _ 5 _ _ _ hb
  have k6 := cell_of_row _ _ 6 _ _ _ hb
  have k7 := cell_of_row _ _ 7 _ _ _ hb
  have k8 := cell_of_row _ _ 8 _ _ _ hb
  have k9 := cell_of_row _ _ 9 _ _ _ hb
  have kf := fun i => frozen_of_row _ _ i _ _ hb
  have hp := put10_facts (.string f.nm) (.int .i64 f.ls) (.int .i64 f.ms) (.int .i64 f.lb) (.int .i64 f.mb) (.int .i64 f.ky) f.ck f.tg f.ev f.sh hb
  have hfm := hg.now.form
  obtain ⟨nm, ls, ms, lb, mb, ky, ck, tg, ev, sh⟩ := f
  dsimp only at hfm
  rcases hfm with ⟨a, b, c, d, p, q, r, s, rfl, rfl, rfl, rfl⟩ | ⟨a, b, c, p, q, r, rfl, rfl, rfl, rfl⟩
  · go_wp2_with fail
    refine bodyPost_ret (by simp [results, Tryz.results69, go_sem, k0, k1, k2, k3, k4, k5, k6, k7, k8, k9]; try rfl) rfl ?_
    refine ⟨⟨Fm.cells ⟨nm, ls, ms, lb, mb, ky, .func (Fn.func a) #[] p, .func (Fn.func b) #[] q, .func (Fn.func c) #[] r, .func (Fn.func d) #[] s⟩, rfl, Or.inl ⟨rfl, _, rfl, ?_⟩⟩, hp.2.2.1 _ (((New.refl w).alloc _).trans hn) (Nat.le_refl _)⟩
    refine (hg.kept (Nat.le_of_eq hp.2.2.2.symm) fun j hj _ => hp.2.1 j ?_).le (by simp)
    simp at hj; omega
  · go_wp2_with fail
    refine bodyPost_ret (by simp [results, Tryz.results69, go_sem, k0, k1, k2, k3, k4, k5, k6, k7, k8, k9]; try rfl) rfl ?_
    refine ⟨⟨Fm.cells ⟨nm, ls, ms, lb, mb, ky, .func (Fn.func a) #[] p, .func (Fn.func b) #[] q, .func (Fn.func c) #[] r, .nilFunc⟩, rfl, Or.inl ⟨rfl, _, rfl, ?_⟩⟩, hp.2.2.1 _ (((New.refl w).alloc _).trans hn) (Nat.le_refl _)⟩
    refine (hg.kept (Nat.le_of_eq hp.2.2.2.symm) fun j hj _ => hp.2.1 j ?_).le (by simp)
    simp at hj; omega
set_option maxHeartbeats 1600000 in
theorem fam_of3 (w : World) : Calls Tryz.prog 69 #[.int .i64 3] w fun e w' => (∃ cs, e = .returned (.tuple #[.agg cs, .bool true]) ∧ FamV w.heap.size w' 3 cs) ∧ New w w' := by
  go_enter Tryz.func69, Tryz.ntmps69
  go_wp2_with fail
  refine (of_sum3 _).mono ?_
  rintro e w' ⟨⟨f, rfl, hg⟩, hn⟩
  have hb := (hn.block _ (lt_of_block (heap_alloc_new w _))).trans (heap_alloc_new w _)
  have k0 := cell_of_row _ _ 0 _ _ _ hb
  have k1 := cell_of_row _ _ 1 _ _ _ hb
  have k2 := cell_of_row _ _ 2 _ _ _ hb
  have k3 := cell_of_row _ _ 3 _ _ _ hb
  have k4 := cell_of_row _ _ 4 _ _ _ hb
  have k5 := cell_of_row _ _ 5 _ _ _ hb
  have k6 := cell_of_row _ _ 6 _ _ _ hb
  have k7 := cell_of_row _ _ 7 _ _ _ hb
  have k8 := cell_of_row _ _ 8 _ _ _ hb
  have k9 := cell_of_row _ _ 9 _ _ _ hb
  have kf := fun i => frozen_of_row _ _ i _ _ hb
  have hp := put10_facts (.string f.nm) (.int .i64 f.ls) (.int .i64 f.ms) (.int .i64 f.lb) (.int .i64 f.mb) (.int .i64 f.ky) f.ck f.tg f.ev f.sh hb
  have hfm := hg.now.form
  obtain ⟨nm, ls, ms, lb, mb, ky, ck, tg, ev, sh⟩ := f
  dsimp only at hfm
  rcases hfm with ⟨a, b, c, d, p, q, r, s, rfl, rfl, rfl, rfl⟩ | ⟨a, b, c, p, q, r, rfl, rfl, rfl, rfl⟩
  · go_wp2_with fail
    refine bodyPost_ret (by simp [results, Tryz.results69, go_sem, k0, k1, k2, k3, k4, k5, k6, k7, k8, k9]; try rfl) rfl ?_
    refine ⟨⟨Fm.cells ⟨nm, ls, ms, lb, mb, ky, .func (Fn.func a) #[] p, .func (Fn.func b) #[] q, .func (Fn.func c) #[] r, .func (Fn.func d) #[] s⟩, rfl, Or.inl ⟨rfl, _, rfl, ?_⟩⟩, hp.2.2.1 _ (((New.refl w).alloc _).trans hn) (Nat.le_refl _)⟩
    refine (hg.kept (Nat.le_of_eq hp.2.2.2.symm) fun j hj _ => hp.2.1 j ?_).le (by simp)
    simp at hj; omega
  · go_wp2_with fail
    refine bodyPost_ret (by simp [results, Tryz.results69, go_sem, k0, k1, k2, k3, k4, k5, k6, k7, k8, k9]; try rfl) rfl ?_
    refine ⟨⟨Fm.cells ⟨nm, ls, ms, lb, mb, ky, .func (Fn.func a) #[] p, .func (Fn.func b) #[] q, .func (Fn.func c) #[] r, .nilFunc⟩, rfl, Or.inl ⟨rfl, _, rfl, ?_⟩⟩, hp.2.2.1 _ (((New.refl w).alloc _).trans hn) (Nat.le_refl _)⟩
    refine (hg.kept (Nat.le_of_eq hp.2.2.2.symm) fun j hj _ => hp.2.1 j ?_).le (by simp)
    simp at hj; omega
set_option maxHeartbeats 1600000 in
theorem fam_of4 (w : World) : Calls Tryz.prog 69 #[.int .i64 4] w fun e w' => (∃ cs, e = .returned (.tuple #[.agg cs, .bool true]) ∧ FamV w.heap.size w' 4 cs) ∧ New w w' := by
  go_enter Tryz.func69, Tryz.ntmps69
  go_wp2_with fail
  refine (of_sum4 _).mono ?_
  rintro e w' ⟨⟨f, rfl, hg⟩, hn⟩
  have hb := (hn.block _ (lt_of_block (heap_alloc_new w _))).trans (heap_alloc_new w _)
  have k0 := cell_of_row _ _ 0 _ _ _ hb
  have k1 := cell_of_row _ _ 1 _ _ _ hb
  have k2 := cell_of_row _ _ 2 _ _ _ hb
  have k3 := cell_of_row _ _ 3 _ _ _ hb
  have k4 := cell_of_row _ _ 4 _ _ _ hb
  have k5 := cell_of_row _ _ 5 _ _ _ hb
  have k6 := cell_of_row _ _ 6 _ _ _ hb
  have k7 := cell_of_row _ _ 7 _ _ _ hb
  have k8 := cell_of_row _ _ 8 _ _ _ hb
  have k9 := cell_of_row _ _ 9 _ _ _ hb
  have kf := fun i => frozen_of_row _ _ i _ _ hb
  have hp := put10_facts (.string f.nm) (.int .i64 f.ls) (.int .i64 f.ms) (.int .i64 f.lb) (.int .i64 f.mb) (.int .i64 f.ky) f.ck f.tg f.ev f.sh hb
  have hfm := hg.now.form
  obtain ⟨nm, ls, ms, lb, mb, ky, ck, tg, ev, sh⟩ := f
  dsimp only at hfm
  rcases hfm with ⟨a, b, c, d, p, q, r, s, rfl, rfl, rfl, rfl⟩ | ⟨a, b, c, p, q, r, rfl, rfl, rfl, rfl⟩
  · go_wp2_with fail
    refine bodyPost_ret (by simp [results, Tryz.results69, go_sem, k0, k1, k2, k3, k4, k5, k6, k7, k8, k9]; try rfl) rfl ?_
    refine ⟨⟨Fm.cells ⟨nm, ls, ms, lb, mb, ky, .func (Fn.func a) #[] p, .func (Fn.func b) #[] q, .func (Fn.func c) #[] r, .func (Fn.func d) #[] s⟩, rfl, Or.inl ⟨rfl, _, rfl, ?_⟩⟩, hp.2.2.1 _ (((New.refl w).alloc _).trans hn) (Nat.le_refl _)⟩
    refine (hg.kept (Nat.le_of_eq hp.2.2.2.symm) fun j hj _ => hp.2.1 j ?_).le (by simp)
    simp at hj; omega
  · go_wp2_with fail
    refine bodyPost_ret (by simp [results, Tryz.results69, go_sem, k0, k1, k2, k3, k4, k5, k6, k7, k8, k9]; try rfl) rfl ?_
    refine ⟨⟨Fm.cells ⟨nm, ls, ms, lb, mb, ky, .func (Fn.func a) #[] p, .func (Fn.func b) #[] q, .func (Fn.func c) #[] r, .nilFunc⟩, rfl, Or.inl ⟨rfl, _, rfl, ?_⟩⟩, hp.2.2.1 _ (((New.refl w).alloc _).trans hn) (Nat.le_refl _)⟩
    refine (hg.kept (Nat.le_of_eq hp.2.2.2.symm) fun j hj _ => hp.2.1 j ?_).le (by simp)
    simp at hj; omega
set_option maxHeartbeats 1600000 in
theorem fam_of5 (w : World) : Calls Tryz.prog 69 #[.int .i64 5] w fun e w' => (∃ cs, e = .returned (.tuple #[.agg cs, .bool true]) ∧ FamV w.heap.size w' 5 cs) ∧ New w w' := by
  go_enter Tryz.func69, Tryz.ntmps69
  go_wp2_with fail
  refine (of_tab5 _).mono ?_
  rintro e w' ⟨⟨f, rfl, hg⟩, hn⟩
  have hb := (hn.block _ (lt_of_block (heap_alloc_new w _))).trans (heap_alloc_new w _)
  have k0 := cell_of_row _ _ 0 _ _ _ hb
  have k1 := cell_of_row _ _ 1 _ _ _ hb
  have k2 := cell_of_row _ _ 2 _ _ _ hb
  have k3 := cell_of_row _ _ 3 _ _ _ hb
  have k4 := cell_of_row _ _ 4 _ _ _ hb
  have k5 := cell_of_row _ _ 5 _ _ _ hb
  have k6 := cell_of_row _ _ 6 _ _ _ hb
  have k7 := cell_of_row _ _ 7 _ _ _ hb
  have k8 := cell_of_row _ _ 8 _ _ _ hb
  have k9 := cell_of_row _ _ 9 _ _ _ hb
  have kf := fun i => frozen_of_row _ _ i _ _ hb
  have hp := put10_facts (.string f.nm) (.int .i64 f.ls) (.int .i64 f.ms) (.int .i64 f.lb) (.int .i64 f.mb) (.int .i64 f.ky) f.ck f.tg f.ev f.sh hb
  have hfm := hg.now.form
  obtain ⟨nm, ls, ms, lb, mb, ky, ck, tg, ev, sh⟩ := f
  dsimp only at hfm
  rcases hfm with ⟨a, b, c, d, p, q, r, s, rfl, rfl, rfl, rfl⟩ | ⟨a, b, c, p, q, r, rfl, rfl, rfl, rfl⟩
  · go_wp2_with fail
    refine bodyPost_ret (by simp [results, Tryz.results69, go_sem, k0, k1, k2, k3, k4, k5, k6, k7, k8, k9]; try rfl) rfl ?_
    refine ⟨⟨Fm.cells ⟨nm, ls, ms, lb, mb, ky, .func (Fn.func a) #[] p, .func (Fn.func b) #[] q, .func (Fn.func c) #[] r, .func (Fn.func d) #[] s⟩, rfl, Or.inl ⟨rfl, _, rfl, ?_⟩⟩, hp.2.2.1 _ (((New.refl w).alloc _).trans hn) (Nat.le_refl _)⟩
    refine (hg.kept (Nat.le_of_eq hp.2.2.2.symm) fun j hj _ => hp.2.1 j ?_).le (by simp)
    simp at hj; omega
  · go_wp2_with fail
    refine bodyPost_ret (by simp [results, Tryz.results69, go_sem, k0, k1, k2, k3, k4, k5, k6, k7, k8, k9]; try rfl) rfl ?_
    refine ⟨⟨Fm.cells ⟨nm, ls, ms, lb, mb, ky, .func (Fn.func a) #[] p, .func (Fn.func b) #[] q, .func (Fn.func c) #[] r, .nilFunc⟩, rfl, Or.inl ⟨rfl, _, rfl, ?_⟩⟩, hp.2.2.1 _ (((New.refl w).alloc _).trans hn) (Nat.le_refl _)⟩
    refine (hg.kept (Nat.le_of_eq hp.2.2.2.symm) fun j hj _ => hp.2.1 j ?_).le (by simp)
    simp at hj; omega
set_option maxHeartbeats 1600000 in
theorem fam_of6 (w : World) : Calls Tryz.prog 69 #[.int .i64 6] w fun e w' => (∃ cs, e = .returned (.tuple #[.agg cs, .bool true]) ∧ FamV w.heap.size w' 6 cs) ∧ New w w' := by
  go_enter Tryz.func69, Tryz.ntmps69
  go_wp2_with fail
  refine (of_tab6 _).mono ?_
  rintro e w' ⟨⟨f, rfl, hg⟩, hn⟩
  have hb := (hn.block _ (lt_of_block (heap_alloc_new w _))).trans (heap_alloc_new w _)
  have k0 := cell_of_row _ _ 0 _ _ _ hb
  have k1 := cell_of_row _ _ 1 _ _ _ hb
  have k2 := cell_of_row _ _ 2 _ _ _ hb
  have k3 := cell_of_row _ _ 3 _ _ _ hb
  have k4 := cell_of_row _ _ 4 _ _ _ hb
  have k5 := cell_of_row _ _ 5 _ _ _ hb
  have k6 := cell_of_row _ _ 6 _ _ _ hb
  have k7 := cell_of_row _ _ 7 _ _ _ hb
  have k8 := cell_of_row _ _ 8 _ _ _ hb
  have k9 := cell_of_row _ _ 9 _ _ _ hb
  have kf := fun i => frozen_of_row _ _ i _ _ hb
  have hp := put10_facts (.string f.nm) (.int .i64 f.ls) (.int .i64 f.ms) (.int .i64 f.lb) (.int .i64 f.mb) (.int .i64 f.ky) f.ck f.tg f.ev f.sh hb
  have hfm := hg.now.form
  obtain ⟨nm, ls, ms, lb, mb, ky, ck, tg, ev, sh⟩ := f
  dsimp only at hfm
  rcases hfm with ⟨a, b, c, d, p, q, r, s, rfl, rfl, rfl, rfl⟩ | ⟨a, b, c, p, q, r, rfl, rfl, rfl, rfl⟩
  · go_wp2_with fail
    refine bodyPost_ret (by simp [results, Tryz.results69, go_sem, k0, k1, k2, k3, k4, k5, k6, k7, k8, k9]; try rfl) rfl ?_
    refine ⟨⟨Fm.cells ⟨nm, ls, ms, lb, mb, ky, .func (Fn.func a) #[] p, .func (Fn.func b) #[] q, .func (Fn.func c) #[] r, .func (Fn.func d) #[] s⟩, rfl, Or.inl ⟨rfl, _, rfl, ?_⟩⟩, hp.2.2.1 _ (((New.refl w).alloc _).trans hn) (Nat.le_refl _)⟩
    refine (hg.kept (Nat.le_of_eq hp.2.2.2.symm) fun j hj _ => hp.2.1 j ?_).le (by simp)
    simp at hj; omega
  · go_wp2_with fail
    refine bodyPost_ret (by simp [results, Tryz.results69, go_sem, k0, k1, k2, k3, k4, k5, k6, k7, k8, k9]; try rfl) rfl ?_
    refine ⟨⟨Fm.cells ⟨nm, ls, ms, lb, mb, ky, .func (Fn.func a) #[] p, .func (Fn.func b) #[] q, .func (Fn.func c) #[] r, .nilFunc⟩, rfl, Or.inl ⟨rfl, _, rfl, ?_⟩⟩, hp.2.2.1 _ (((New.refl w).alloc _).trans hn) (Nat.le_refl _)⟩
    refine (hg.kept (Nat.le_of_eq hp.2.2.2.symm) fun j hj _ => hp.2.1 j ?_).le (by simp)
    simp at hj; omega
set_option maxHeartbeats 1600000 in
theorem fam_of7 (w : World) : Calls Tryz.prog 69 #[.int .i64 7] w fun e w' => (∃ cs, e = .returned (.tuple #[.agg cs, .bool true]) ∧ FamV w.heap.size w' 7 cs) ∧ New w w' := by
  go_enter Tryz.func69, Tryz.ntmps69
  go_wp2_with fail
  refine (of_tab7 _).mono ?_
  rintro e w' ⟨⟨f, rfl, hg⟩, hn⟩
  have hb := (hn.block _ (lt_of_block (heap_alloc_new w _))).trans (heap_alloc_new w _)
  have k0 := cell_of_row _ _ 0 _ _ _ hb
  have k1 := cell_of_row _ _ 1 _ _ _ hb
  have k2 := cell_of_row _ _ 2 _ _ _ hb
  have k3 := cell_of_row _ _ 3 _ _ _ hb
  have k4 := cell_of_row _ _ 4 _ _ _ hb
  have k5 := cell_of_row _ _ 5 _ _ _ hb
  have k6 := cell_of_row _ _ 6 _ _ _ hb
  have k7 := cell_of_row _ _ 7 _ _ _ hb
  have k8 := cell_of_row _ _ 8 _ _ _ hb
  have k9 := cell_of_row _ _ 9 _ _ _ hb
  have kf := fun i => frozen_of_row _ _ i _ _ hb
  have hp := put10_facts (.string f.nm) (.int .i64 f.ls) (.int .i64 f.ms) (.int .i64 f.lb) (.int .i64 f.mb) (.int .i64 f.ky) f.ck f.tg f.ev f.sh hb
  have hfm := hg.now.form
  obtain ⟨nm, ls, ms, lb, mb, ky, ck, tg, ev, sh⟩ := f
  dsimp only at hfm
  rcases hfm with ⟨a, b, c, d, p, q, r, s, rfl, rfl, rfl, rfl⟩ | ⟨a, b, c, p, q, r, rfl, rfl, rfl, rfl⟩
  · go_wp2_with fail
    refine bodyPost_ret (by simp [results, Tryz.results69, go_sem, k0, k1, k2, k3, k4, k5, k6, k7, k8, k9]; try rfl) rfl ?_
    refine ⟨⟨Fm.cells ⟨nm, ls, ms, lb, mb, ky, .func (Fn.func a) #[] p, .func (Fn.func b) #[] q, .func (Fn.func c) #[] r, .func (Fn.func d) #[] s⟩, rfl, Or.inl ⟨rfl, _, rfl, ?_⟩⟩, hp.2.2.1 _ (((New.refl w).alloc _).trans hn) (Nat.le_refl _)⟩
    refine (hg.kept (Nat.le_of_eq hp.2.2.2.symm) fun j hj _ => hp.2.1 j ?_).le (by simp)
    simp at hj; omega
  · go_wp2_with fail
    refine bodyPost_ret (by simp [results, Tryz.results69, go_sem, k0, k1, k2, k3, k4, k5, k6, k7, k8, k9]; try rfl) rfl ?_
    refine ⟨⟨Fm.cells ⟨nm, ls, ms, lb, mb, ky, .func (Fn.func a) #[] p, .func (Fn.func b) #[] q, .func (Fn.func c) #[] r, .nilFunc⟩, rfl, Or.inl ⟨rfl, _, rfl, ?_⟩⟩, hp.2.2.1 _ (((New.refl w).alloc _).trans hn) (Nat.le_refl _)⟩
    refine (hg.kept (Nat.le_of_eq hp.2.2.2.symm) fun j hj _ => hp.2.1 j ?_).le (by simp)
    simp at hj; omega
set_option maxHeartbeats 1600000 in
theorem fam_of8 (w : World) : Calls Tryz.prog 69 #[.int .i64 8] w fun e w' => (∃ cs, e = .returned (.tuple #[.agg cs, .bool true]) ∧ FamV w.heap.size w' 8 cs) ∧ New w w' := by
  go_enter Tryz.func69, Tryz.ntmps69
  go_wp2_with fail
  refine (of_str _).mono ?_
  rintro e w' ⟨⟨f, rfl, hg⟩, hn⟩
  have hb := (hn.block _ (lt_of_block (heap_alloc_new w _))).trans (heap_alloc_new w _)
  have k0 := cell_of_row _ _ 0 _ _ _ hb
  have k1 := cell_of_row _ _ 1 _ _ _ hb
  have k2 := cell_of_row _ _ 2 _ _ _ hb
  have k3 := cell_of_row _ _ 3 _ _ _ hb
  have k4 := cell_of_row _ _ 4 _ _ _ hb
  have k5 := cell_of_row _ _ 5 _ _ _ hb
  have k6 := cell_of_row _ _ 6 _ _ _ hb
  have k7 := cell_of_row _ _ 7 _ _ _ hb
  have k8 := cell_of_row _ _ 8 _ _ _ hb
  have k9 := cell_of_row _ _ 9 _ _ _ hb
  have kf := fun i => frozen_of_row _ _ i _ _ hb
  have hp := put10_facts (.string f.nm) (.int .i64 f.ls) (.int .i64 f.ms) (.int .i64 f.lb) (.int .i64 f.mb) (.int .i64 f.ky) f.ck f.tg f.ev f.sh hb
  have hfm := hg.now.form
  obtain ⟨nm, ls, ms, lb, mb, ky, ck, tg, ev, sh⟩ := f
  dsimp only at hfm
  rcases hfm with ⟨a, b, c, d, p, q, r, s, rfl, rfl, rfl, rfl⟩ | ⟨a, b, c, p, q, r, rfl, rfl, rfl, rfl⟩
  · go_wp2_with fail
    refine bodyPost_ret (by simp [results, Tryz.results69, go_sem, k0, k1, k2, k3, k4, k5, k6, k7, k8, k9]; try rfl) rfl ?_
    refine ⟨⟨Fm.cells ⟨nm, ls, ms, lb, mb, ky, .func (Fn.func a) #[] p, .func (Fn.func b) #[] q, .func (Fn.func c) #[] r, .func (Fn.func d) #[] s⟩, rfl, Or.inl ⟨rfl, _, rfl, ?_⟩⟩, hp.2.2.1 _ (((New.refl w).alloc _).trans hn) (Nat.le_refl _)⟩
    refine (hg.kept (Nat.le_of_eq hp.2.2.2.symm) fun j hj _ => hp.2.1 j ?_).le (by simp)
    simp at hj; omega
  · go_wp2_with fail
    refine bodyPost_ret (by simp [results, Tryz.results69, go_sem, k0, k1, k2, k3, k4, k5, k6, k7, k8, k9]; try rfl) rfl ?_
    refine ⟨⟨Fm.cells ⟨nm, ls, ms, lb, mb, ky, .func (Fn.func a) #[] p, .func (Fn.func b) #[] q, .func (Fn.func c) #[] r, .nilFunc⟩, rfl, Or.inl ⟨rfl, _, rfl, ?_⟩⟩, hp.2.2.1 _ (((New.refl w).alloc _).trans hn) (Nat.le_refl _)⟩
    refine (hg.kept (Nat.le_of_eq hp.2.2.2.symm) fun j hj _ => hp.2.1 j ?_).le (by simp)
    simp at hj; omega
theorem fam_of0 (k : Int) (h : okF k = false) (w : World) : Calls Tryz.prog 69 #[.int .i64 k] w fun e w' => (∃ cs, e = .returned (.tuple #[.agg cs, .bool false]) ∧ FamV w.heap.size w' k cs) ∧ New w w' := by
  have hk : k < 1 ∨ 8 < k := by unfold okF at h; simp at h; omega
  have h1 : ¬ k = 1 := by omega
  have h2 : ¬ k = 2 := by omega
  have h3 : ¬ k = 3 := by omega
  have h4 : ¬ k = 4 := by omega
  have h5 : ¬ k = 5 := by omega
  have h6 : ¬ k = 6 := by omega
  have h7 : ¬ k = 7 := by omega
  have h8 : ¬ k = 8 := by omega
  go_enter Tryz.func69, Tryz.ntmps69
  go_wp2_with fail
  go_returns
  exact ⟨⟨_, rfl, Or.inr ⟨h, rfl⟩⟩, (New.refl w).alloc _⟩
theorem fam_of (k : Int) (w : World) : Calls Tryz.prog 69 #[.int .i64 k] w fun e w' => (∃ cs, e = .returned (.tuple #[.agg cs, .bool (okF k)]) ∧ FamV w.heap.size w' k cs) ∧ New w w' := by
  by_cases h : 1 ≤ k ∧ k ≤ 8
  · have h8 : k = 1 ∨ k = 2 ∨ k = 3 ∨ k = 4 ∨ k = 5 ∨ k = 6 ∨ k = 7 ∨ k = 8 := by omega
    rcases h8 with rfl | rfl | rfl | rfl | rfl | rfl | rfl | rfl
    · exact fam_of1 w
    · exact fam_of2 w
    · exact fam_of3 w
    · exact fam_of4 w
    · exact fam_of5 w
    · exact fam_of6 w
    · exact fam_of7 w
    · exact fam_of8 w
  · rw [okF_no h]; exact fam_of0 k (okF_no h) w
theorem FamV.shape {n : Nat} {w : World} {k : Int} {cs : Array Value} (h : FamV n w k cs) :
    (∃ a b c d p q r s, cs = #[.string (nmF k), .int .i64 (lsF k), .int .i64 (msF k), .int .i64 (lbF k), .int .i64 (mbF k), .int .i64 (kyF k), .func (Fn.func a) #[] p, .func (Fn.func b) #[] q, .func (Fn.func c) #[] r, .func (Fn.func d) #[] s]) ∨
    (∃ a b c p q r, cs = #[.string (nmF k), .int .i64 (lsF k), .int .i64 (msF k), .int .i64 (lbF k), .int .i64 (mbF k), .int .i64 (kyF k), .func (Fn.func a) #[] p, .func (Fn.func b) #[] q, .func (Fn.func c) #[] r, .nilFunc]) ∨
    cs = #[.string (nmF k), .int .i64 (lsF k), .int .i64 (msF k), .int .i64 (lbF k), .int .i64 (mbF k), .int .i64 (kyF k), .nilFunc, .nilFunc, .nilFunc, .nilFunc] := by
  rcases h with ⟨hk, g, rfl, hg⟩ | ⟨hk, rfl⟩
  · obtain ⟨h1, h2, h3, h4, h5, h6, _⟩ := hg.now.has
    rcases hg.now.form with ⟨a, b, c, d, p, q, r, s, e1, e2, e3, e4⟩ | ⟨a, b, c, p, q, r, e1, e2, e3, e4⟩
    · exact .inl ⟨a, b, c, d, p, q, r, s, by rw [← h1, ← h2, ← h3, ← h4, ← h5, ← h6, ← e1, ← e2, ← e3, ← e4]⟩
    · exact .inr (.inl ⟨a, b, c, p, q, r, by rw [← h1, ← h2, ← h3, ← h4, ← h5, ← h6, ← e1, ← e2, ← e3, ← e4]⟩)
  · have hk' : k < 1 ∨ 8 < k := by unfold okF at hk; simp at hk; omega
    refine .inr (.inr ?_)
    have e1 : nmF k = ⟨#[]⟩ := by unfold nmF; repeat (rw [if_neg (by omega)])
    have e2 : lsF k = 0 := by unfold lsF; repeat (rw [if_neg (by omega)])
    have e3 : msF k = 0 := by unfold msF; rw [if_neg (by omega)]; exact e2
    have e4 : lbF k = 0 := by unfold lbF; repeat (rw [if_neg (by omega)])
    have e5 : mbF k = 0 := by unfold mbF; repeat (rw [if_neg (by omega)])
    have e6 : kyF k = 0 := by unfold kyF; repeat (rw [if_neg (by omega)])
    rw [e1, e2, e3, e4, e5, e6]
set_option maxHeartbeats 1600000 in
theorem rleast_27 (k : Int) (w : World) : Calls Tryz.prog 39 #[.int .i64 k] w fun e w' => e = .returned (.int .i64 (lsF k)) ∧ New w w' := by
  by_cases h1 : k < 1
  · have e : lsF k = 0 := by unfold lsF; repeat (rw [if_neg (by omega)])
    rw [e]
    go_enter Tryz.func39, Tryz.ntmps39
    go_wp2
    go_ret
    exact ⟨rfl, New.refl _⟩
  by_cases h8 : 8 < k
  · have e : lsF k = 0 := by unfold lsF; repeat (rw [if_neg (by omega)])
    rw [e]
    go_enter Tryz.func39, Tryz.ntmps39
    go_wp2
    go_ret
    exact ⟨rfl, New.refl _⟩
  rcases (show k = 1 ∨ k = 2 ∨ k = 3 ∨ k = 4 ∨ k = 5 ∨ k = 6 ∨ k = 7 ∨ k = 8 by omega) with rfl | rfl | rfl | rfl | rfl | rfl | rfl | rfl
  all_goals
    clear h1 h8
    go_enter Tryz.func39, Tryz.ntmps39
    go_wp2
    go_ret
    exact ⟨rfl, (New.refl _).alloc _⟩
theorem rmost_27 (k : Int) (w : World) : Calls Tryz.prog 38 #[.int .i64 k] w fun e w' => e = .returned (.int .i64 (msF k)) ∧ New w w' := by
  by_cases h : k = 1
  · subst h
    go_enter Tryz.func38, Tryz.ntmps38
    go_wp2
    go_ret
    exact ⟨rfl, New.refl _⟩
  · have e : Hid (msF k = lsF k) := Lib.hid (by unfold msF; rw [if_neg h])
    have HL := Lib.hid (fun w => rleast_27 k w)
    go_enter Tryz.func38, Tryz.ntmps38
    go_wp2_with fail
    refine (HL.out _).mono ?_
    rintro e w9 ⟨rfl, hn⟩
    go_wp2
    go_ret
    exact ⟨by rw [e.out]; rfl, hn⟩
end Go.Proofs.YthkmcnlciefnfaaGreat
