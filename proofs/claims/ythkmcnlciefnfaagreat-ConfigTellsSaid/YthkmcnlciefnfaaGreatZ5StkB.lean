import Derived.Test.YthkmcnlciefnfaaGreatZ5StkA
/- Layer 35: the hash of a kind; what is wrong with a kind and a key. -/
namespace Go.Proofs.YthkmcnlciefnfaaGreat
open Go Go.RowKit Go.Bv
set_option linter.unusedVariables false
set_option maxRecDepth 100000
def okS (k : Int) : Bool := decide (1 ≤ k ∧ k ≤ 8)
/-- the value of a kind, if it is one -/
def KdV (n : Nat) (w : World) (k : Int) (cs : Array Value) : Prop := (okS k = true ∧ ∃ f : Kd, cs = f.cells ∧ OwnK n w k f) ∨ (okS k = false ∧ cs = kzc)
theorem okS_no {k : Int} (h : ¬ (1 ≤ k ∧ k ≤ 8)) : okS k = false := by unfold okS; simpa using h
set_option maxHeartbeats 1600000 in
theorem kind_of1 (w : World) : Calls Tryz.prog 68 #[.int .i64 1] w fun e w' => (∃ cs, e = .returned (.tuple #[.agg cs, .bool true]) ∧ KdV w.heap.size w' 1 cs) ∧ New w w' := by
  have HC := Lib.hid (fun w => of_s1 w)
  go_enter Tryz.func68, Tryz.ntmps68
  go_wp2_with fail
  refine (HC.out _).mono ?_
  rintro e w' ⟨⟨f, rfl, hg⟩, hn⟩
  have hb := (hn.block _ (lt_of_block (heap_alloc_new w _))).trans (heap_alloc_new w _)
  have k0 := cell_of_row _ _ 0 _ _ _ hb
  have k1 := cell_of_row _ _ 1 _ _ _ hb
  have k2 := cell_of_row _ _ 2 _ _ _ hb
  have k3 := cell_of_row _ _ 3 _ _ _ hb
  have k4 := cell_of_row _ _ 4 _ _ _ hb
  have k5 := cell_of_row _ _ 5 _ _ _ hb
  have k6 := cell_of_row _ _ 6 _ _ _ hb
  have kf := fun i => frozen_of_row _ _ i _ _ hb
  have hp := put7_facts (.string f.nm) (.int .i64 f.sz) (.int .i64 f.bl) (.int .u64 f.hi) (.int .u64 f.lo) f.on f.nw hb
  have hfm := hg.now.form
  obtain ⟨nm, sz, bl, hi, lo, on, mk⟩ := f
  dsimp only at hfm
  obtain ⟨a, p, b, q, rfl, rfl⟩ := hfm
  clear HC
  go_wp2_with fail
  refine bodyPost_ret (by simp [results, Tryz.results68, go_sem, k0, k1, k2, k3, k4, k5, k6]; try rfl) rfl ?_
  refine ⟨⟨Kd.cells ⟨nm, sz, bl, hi, lo, .func (Fn.func a) #[] p, .func (Fn.func b) #[] q⟩, rfl, Or.inl ⟨rfl, _, rfl, ?_⟩⟩, hp.2.2.1 _ (((New.refl w).alloc _).trans hn) (Nat.le_refl _)⟩
  refine (hg.kept (Nat.le_of_eq hp.2.2.2.symm) fun j hj _ => hp.2.1 j ?_).le (by simp)
  simp at hj; omega
set_option maxHeartbeats 1600000 in
theorem kind_of2 (w : World) : Calls Tryz.prog 68 #[.int .i64 2] w fun e w' => (∃ cs, e = .returned (.tuple #[.agg cs, .bool true]) ∧ KdV w.heap.size w' 2 cs) ∧ New w w' := by
  have HC := Lib.hid (fun w => of_s2 w)
  go_enter Tryz.func68, Tryz.ntmps68
  go_wp2_with fail
  refine (HC.out _).mono ?_
  rintro e w' ⟨⟨f, rfl, hg⟩, hn⟩
  have hb := (hn.block _ (lt_of_block (heap_alloc_new w _))).trans (heap_alloc_new w _)
  have k0 := cell_of_row _ _ 0 _ _ _ hb
  have k1 := cell_of_row _ _ 1 _ _ _ hb
  have k2 := cell_of_row _ _ 2 _ _ _ hb
  have k3 := cell_of_row _ _ 3 _ _ _ hb
  have k4 := cell_of_row _ _ 4 _ _ _ hb
  have k5 := cell_of_row _ _ 5 _ _ _ hb
  have k6 := cell_of_row _ _ 6 _ _ _ hb
  have kf := fun i => frozen_of_row _ _ i _ _ hb
  have hp := put7_facts (.string f.nm) (.int .i64 f.sz) (.int .i64 f.bl) (.int .u64 f.hi) (.int .u64 f.lo) f.on f.nw hb
  have hfm := hg.now.form
  obtain ⟨nm, sz, bl, hi, lo, on, mk⟩ := f
  dsimp only at hfm
  obtain ⟨a, p, b, q, rfl, rfl⟩ := hfm
  clear HC
  go_wp2_with fail
  refine bodyPost_ret (by simp [results, Tryz.results68, go_sem, k0, k1, k2, k3, k4, k5, k6]; try rfl) rfl ?_
  refine ⟨⟨Kd.cells ⟨nm, sz, bl, hi, lo, .func (Fn.func a) #[] p, .func (Fn.func b) #[] q⟩, rfl, Or.inl ⟨rfl, _, rfl, ?_⟩⟩, hp.2.2.1 _ (((New.refl w).alloc _).trans hn) (Nat.le_refl _)⟩
  refine (hg.kept (Nat.le_of_eq hp.2.2.2.symm) fun j hj _ => hp.2.1 j ?_).le (by simp)
  simp at hj; omega
set_option maxHeartbeats 1600000 in
theorem kind_of3 (w : World) : Calls Tryz.prog 68 #[.int .i64 3] w fun e w' => (∃ cs, e = .returned (.tuple #[.agg cs, .bool true]) ∧ KdV w.heap.size w' 3 cs) ∧ New w w' := by
  have HC := Lib.hid (fun w => of_s3 w)
  go_enter Tryz.func68, Tryz.ntmps68
  go_wp2_with fail
  refine (HC.out _).mono ?_
  rintro e w' ⟨⟨f, rfl, hg⟩, hn⟩
  have hb := (hn.block _ (lt_of_block (heap_alloc_new w _))).trans (heap_alloc_new w _)
  have k0 := cell_of_row _ _ 0 _ _ _ hb
  have k1 := cell_of_row _ _ 1 _ _ _ hb
  have k2 := cell_of_row _ _ 2 _ _ _ hb
  have k3 := cell_of_row _ _ 3 _ _ _ hb
  have k4 := cell_of_row _ _ 4 _ _ _ hb
  have k5 := cell_of_row _ _ 5 _ _ _ hb
  have k6 := cell_of_row _ _ 6 _ _ _ hb
  have kf := fun i => frozen_of_row _ _ i _ _ hb
  have hp := put7_facts (.string f.nm) (.int .i64 f.sz) (.int .i64 f.bl) (.int .u64 f.hi) (.int .u64 f.lo) f.on f.nw hb
  have hfm := hg.now.form
  obtain ⟨nm, sz, bl, hi, lo, on, mk⟩ := f
  dsimp only at hfm
  obtain ⟨a, p, b, q, rfl, rfl⟩ := hfm
  clear HC
  go_wp2_with fail
  refine bodyPost_ret (by simp [results, Tryz.results68, go_sem, k0, k1, k2, k3, k4, k5, k6]; try rfl) rfl ?_
  refine ⟨⟨Kd.cells ⟨nm, sz, bl, hi, lo, .func (Fn.func a) #[] p, .func (Fn.func b) #[] q⟩, rfl, Or.inl ⟨rfl, _, rfl, ?_⟩⟩, hp.2.2.1 _ (((New.refl w).alloc _).trans hn) (Nat.le_refl _)⟩
  refine (hg.kept (Nat.le_of_eq hp.2.2.2.symm) fun j hj _ => hp.2.1 j ?_).le (by simp)
  simp at hj; omega
set_option maxHeartbeats 1600000 in
theorem kind_of4 (w : World) : Calls Tryz.prog 68 #[.int .i64 4] w fun e w' => (∃ cs, e = .returned (.tuple #[.agg cs, .bool true]) ∧ KdV w.heap.size w' 4 cs) ∧ New w w' := by
  have HC := Lib.hid (fun w => of_s4 w)
  go_enter Tryz.func68, Tryz.ntmps68
  go_wp2_with fail
  refine (HC.out _).mono ?_
  rintro e w' ⟨⟨f, rfl, hg⟩, hn⟩
  have hb := (hn.block _ (lt_of_block (heap_alloc_new w _))).trans (heap_alloc_new w _)
  have k0 := cell_of_row _ _ 0 _ _ _ hb
  have k1 := cell_of_row _ _ 1 _ _ _ hb
  have k2 := cell_of_row _ _ 2 _ _ _ hb
  have k3 := cell_of_row _ _ 3 _ _ _ hb
  have k4 := cell_of_row _ _ 4 _ _ _ hb
  have k5 := cell_of_row _ _ 5 _ _ _ hb
  have k6 := cell_of_row _ _ 6 _ _ _ hb
  have kf := fun i => frozen_of_row _ _ i _ _ hb
  have hp := put7_facts (.string f.nm) (.int .i64 f.sz) (.int .i64 f.bl) (.int .u64 f.hi) (.int .u64 f.lo) f.on f.nw hb
  have hfm := hg.now.form
  obtain ⟨nm, sz, bl, hi, lo, on, mk⟩ := f
  dsimp only at hfm
  obtain ⟨a, p, b, q, rfl, rfl⟩ := hfm
  clear HC
  go_wp2_with fail
  refine bodyPost_ret (by simp [results, Tryz.results68, go_sem, k0, k1, k2, k3, k4, k5, k6]; try rfl) rfl ?_
  refine ⟨⟨Kd.cells ⟨nm, sz, bl, hi, lo, .func (Fn.func a) #[] p, .func (Fn.func b) #[] q⟩, rfl, Or.inl ⟨rfl, _, rfl, ?_⟩⟩, hp.2.2.1 _ (((New.refl w).alloc _).trans hn) (Nat.le_refl _)⟩
  refine (hg.kept (Nat.le_of_eq hp.2.2.2.symm) fun j hj _ => hp.2.1 j ?_).le (by simp)
  simp at hj; omega
set_option maxHeartbeats 1600000 in
theorem kind_of5 (w : World) : Calls Tryz.prog 68 #[.int .i64 5] w fun e w' => (∃ cs, e = .returned (.tuple #[.agg cs, .bool true]) ∧ KdV w.heap.size w' 5 cs) ∧ New w w' := by
  have HC := Lib.hid (fun w => of_s5 w)
  go_enter Tryz.func68, Tryz.ntmps68
  go_wp2_with fail
  refine (HC.out _).mono ?_
  rintro e w' ⟨⟨f, rfl, hg⟩, hn⟩
  have hb := (hn.block _ (lt_of_block (heap_alloc_new w _))).trans (heap_alloc_new w _)
  have k0 := cell_of_row _ _ 0 _ _ _ hb
  have k1 := cell_of_row _ _ 1 _ _ _ hb
  have k2 := cell_of_row _ _ 2 _ _ _ hb
  have k3 := cell_of_row _ _ 3 _ _ _ hb
  have k4 := cell_of_row _ _ 4 _ _ _ hb
  have k5 := cell_of_row _ _ 5 _ _ _ hb
  have k6 := cell_of_row _ _ 6 _ _ _ hb
  have kf := fun i => frozen_of_row _ _ i _ _ hb
  have hp := put7_facts (.string f.nm) (.int .i64 f.sz) (.int .i64 f.bl) (.int .u64 f.hi) (.int .u64 f.lo) f.on f.nw hb
  have hfm := hg.now.form
  obtain ⟨nm, sz, bl, hi, lo, on, mk⟩ := f
  dsimp only at hfm
  obtain ⟨a, p, b, q, rfl, rfl⟩ := hfm
  clear HC
  go_wp2_with fail
  refine bodyPost_ret (by simp [results, Tryz.results68, go_sem, k0, k1, k2, k3, k4, k5, k6]; try rfl) rfl ?_
  refine ⟨⟨Kd.cells ⟨nm, sz, bl, hi, lo, .func (Fn.func a) #[] p, .func (Fn.func b) #[] q⟩, rfl, Or.inl ⟨rfl, _, rfl, ?_⟩⟩, hp.2.2.1 _ (((New.refl w).alloc _).trans hn) (Nat.le_refl _)⟩
  refine (hg.kept (Nat.le_of_eq hp.2.2.2.symm) fun j hj _ => hp.2.1 j ?_).le (by simp)
  simp at hj; omega
set_option maxHeartbeats 1600000 in
theorem kind_of6 (w : World) : Calls Tryz.prog 68 #[.int .i64 6] w fun e w' => (∃ cs, e = .returned (.tuple #[.agg cs, .bool true]) ∧ KdV w.heap.size w' 6 cs) ∧ New w w' := by
  have HC := Lib.hid (fun w => of_s_sip 6 (by omega) w)
  rw [show nmS 6 = ⟨#[115, 105, 112, 50, 52]⟩ from rfl, show szS 6 = 8 from rfl] at HC
  go_enter Tryz.func68, Tryz.ntmps68
  go_wp2_with fail
  refine (HC.out _).mono ?_
  rintro e w' ⟨⟨f, rfl, hg⟩, hn⟩
  have hb := (hn.block _ (lt_of_block (heap_alloc_new w _))).trans (heap_alloc_new w _)
  have k0 := cell_of_row _ _ 0 _ _ _ hb
  have k1 := cell_of_row _ _ 1 _ _ _ hb
  have k2 := cell_of_row _ _ 2 _ _ _ hb
  have k3 := cell_of_row _ _ 3 _ _ _ hb
  have k4 := cell_of_row _ _ 4 _ _ _ hb
  have k5 := cell_of_row _ _ 5 _ _ _ hb
  have k6 := cell_of_row _ _ 6 _ _ _ hb
  have kf := fun i => frozen_of_row _ _ i _ _ hb
  have hp := put7_facts (.string f.nm) (.int .i64 f.sz) (.int .i64 f.bl) (.int .u64 f.hi) (.int .u64 f.lo) f.on f.nw hb
  have hfm := hg.now.form
  obtain ⟨nm, sz, bl, hi, lo, on, mk⟩ := f
  dsimp only at hfm
  obtain ⟨a, p, b, q, rfl, rfl⟩ := hfm
  clear HC
  go_wp2_with fail
  refine bodyPost_ret (by simp [results, Tryz.results68, go_sem, k0, k1, k2, k3, k4, k5, k6]; try rfl) rfl ?_
  refine ⟨⟨Kd.cells ⟨nm, sz, bl, hi, lo, .func (Fn.func a) #[] p, .func (Fn.func b) #[] q⟩, rfl, Or.inl ⟨rfl, _, rfl, ?_⟩⟩, hp.2.2.1 _ (((New.refl w).alloc _).trans hn) (Nat.le_refl _)⟩
  refine (hg.kept (Nat.le_of_eq hp.2.2.2.symm) fun j hj _ => hp.2.1 j ?_).le (by simp)
  simp at hj; omega
set_option maxHeartbeats 1600000 in
theorem kind_of7 (w : World) : Calls Tryz.prog 68 #[.int .i64 7] w fun e w' => (∃ cs, e = .returned (.tuple #[.agg cs, .bool true]) ∧ KdV w.heap.size w' 7 cs) ∧ New w w' := by
  have HC := Lib.hid (fun w => of_s_sip 7 (by omega) w)
  rw [show nmS 7 = ⟨#[115, 105, 112, 49, 51]⟩ from rfl, show szS 7 = 8 from rfl] at HC
  go_enter Tryz.func68, Tryz.ntmps68
  go_wp2_with fail
  refine (HC.out _).mono ?_
  rintro e w' ⟨⟨f, rfl, hg⟩, hn⟩
  have hb := (hn.block _ (lt_of_block (heap_alloc_new w _))).trans (heap_alloc_new w _)
  have k0 := cell_of_row _ _ 0 _ _ _ hb
  have k1 := cell_of_row _ _ 1 _ _ _ hb
  have k2 := cell_of_row _ _ 2 _ _ _ hb
  have k3 := cell_of_row _ _ 3 _ _ _ hb
  have k4 := cell_of_row _ _ 4 _ _ _ hb
  have k5 := cell_of_row _ _ 5 _ _ _ hb
  have k6 := cell_of_row _ _ 6 _ _ _ hb
  have kf := fun i => frozen_of_row _ _ i _ _ hb
  have hp := put7_facts (.string f.nm) (.int .i64 f.sz) (.int .i64 f.bl) (.int .u64 f.hi) (.int .u64 f.lo) f.on f.nw hb
  have hfm := hg.now.form
  obtain ⟨nm, sz, bl, hi, lo, on, mk⟩ := f
  dsimp only at hfm
  obtain ⟨a, p, b, q, rfl, rfl⟩ := hfm
  clear HC
  go_wp2_with fail
  refine bodyPost_ret (by simp [results, Tryz.results68, go_sem, k0, k1, k2, k3, k4, k5, k6]; try rfl) rfl ?_
  refine ⟨⟨Kd.cells ⟨nm, sz, bl, hi, lo, .func (Fn.func a) #[] p, .func (Fn.func b) #[] q⟩, rfl, Or.inl ⟨rfl, _, rfl, ?_⟩⟩, hp.2.2.1 _ (((New.refl w).alloc _).trans hn) (Nat.le_refl _)⟩
  refine (hg.kept (Nat.le_of_eq hp.2.2.2.symm) fun j hj _ => hp.2.1 j ?_).le (by simp)
  simp at hj; omega
set_option maxHeartbeats 1600000 in
theorem kind_of8 (w : World) : Calls Tryz.prog 68 #[.int .i64 8] w fun e w' => (∃ cs, e = .returned (.tuple #[.agg cs, .bool true]) ∧ KdV w.heap.size w' 8 cs) ∧ New w w' := by
  have HC := Lib.hid (fun w => of_s_sip 8 (by omega) w)
  rw [show nmS 8 = ⟨#[115, 105, 112, 49, 50, 56]⟩ from rfl, show szS 8 = 16 from rfl] at HC
  go_enter Tryz.func68, Tryz.ntmps68
  go_wp2_with fail
  refine (HC.out _).mono ?_
  rintro e w' ⟨⟨f, rfl, hg⟩, hn⟩
  have hb := (hn.block _ (lt_of_block (heap_alloc_new w _))).trans (heap_alloc_new w _)
  have k0 := cell_of_row _ _ 0 _ _ _ hb
  have k1 := cell_of_row _ _ 1 _ _ _ hb
  have k2 := cell_of_row _ _ 2 _ _ _ hb
  have k3 := cell_of_row _ _ 3 _ _ _ hb
  have k4 := cell_of_row _ _ 4 _ _ _ hb
  have k5 := cell_of_row _ _ 5 _ _ _ hb
  have k6 := cell_of_row _ _ 6 _ _ _ hb
  have kf := fun i => frozen_of_row _ _ i _ _ hb
  have hp := put7_facts (.string f.nm) (.int .i64 f.sz) (.int .i64 f.bl) (.int .u64 f.hi) (.int .u64 f.lo) f.on f.nw hb
  have hfm := hg.now.form
  obtain ⟨nm, sz, bl, hi, lo, on, mk⟩ := f
  dsimp only at hfm
  obtain ⟨a, p, b, q, rfl, rfl⟩ := hfm
  clear HC
  go_wp2_with fail
  refine bodyPost_ret (by simp [results, Tryz.results68, go_sem, k0, k1, k2, k3, k4, k5, k6]; try rfl) rfl ?_
  refine ⟨⟨Kd.cells ⟨nm, sz, bl, hi, lo, .func (Fn.func a) #[] p, .func (Fn.func b) #[] q⟩, rfl, Or.inl ⟨rfl, _, rfl, ?_⟩⟩, hp.2.2.1 _ (((New.refl w).alloc _).trans hn) (Nat.le_refl _)⟩
  refine (hg.kept (Nat.le_of_eq hp.2.2.2.symm) fun j hj _ => hp.2.1 j ?_).le (by simp)
  simp at hj; omega
theorem kind_of0 (k : Int) (h : okS k = false) (w : World) : Calls Tryz.prog 68 #[.int .i64 k] w fun e w' => (∃ cs, e = .returned (.tuple #[.agg cs, .bool false]) ∧ KdV w.heap.size w' k cs) ∧ New w w' := by
  have hk : k < 1 ∨ 8 < k := by unfold okS at h; simp at h; omega
  have h1 : ¬ k = 1 := by omega
  have h2 : ¬ k = 2 := by omega
  have h3 : ¬ k = 3 := by omega
  have h4 : ¬ k = 4 := by omega
  have h5 : ¬ k = 5 := by omega
  have h6 : ¬ k = 6 := by omega
  have h7 : ¬ k = 7 := by omega
  have h8 : ¬ k = 8 := by omega
  go_enter Tryz.func68, Tryz.ntmps68
  go_wp2_with fail
  go_returns
  exact ⟨⟨_, rfl, Or.inr ⟨h, rfl⟩⟩, (New.refl w).alloc _⟩
theorem kind_of (k : Int) (w : World) : Calls Tryz.prog 68 #[.int .i64 k] w fun e w' => (∃ cs, e = .returned (.tuple #[.agg cs, .bool (okS k)]) ∧ KdV w.heap.size w' k cs) ∧ New w w' := by
  by_cases h : 1 ≤ k ∧ k ≤ 8
  · have h8 : k = 1 ∨ k = 2 ∨ k = 3 ∨ k = 4 ∨ k = 5 ∨ k = 6 ∨ k = 7 ∨ k = 8 := by omega
    rcases h8 with rfl | rfl | rfl | rfl | rfl | rfl | rfl | rfl
    · exact kind_of1 w
    · exact kind_of2 w
    · exact kind_of3 w
    · exact kind_of4 w
    · exact kind_of5 w
    · exact kind_of6 w
    · exact kind_of7 w
    · exact kind_of8 w
  · rw [okS_no h]; exact kind_of0 k (okS_no h) w
theorem KdV.got {n : Nat} {w : World} {k : Int} {cs : Array Value} (h : KdV n w k cs) (hk : okS k = true) : ∃ f : Kd, cs = f.cells ∧ OwnK n w k f := by
  rcases h with ⟨_, f, rfl, hf⟩ | ⟨h, _⟩
  · exact ⟨f, rfl, hf⟩
  · rw [h] at hk; cases hk
theorem KdV.none {n : Nat} {w : World} {k : Int} {cs : Array Value} (h : KdV n w k cs) (hk : okS k = false) : cs = kzc := by
  rcases h with ⟨h, _⟩ | ⟨_, h⟩
  · rw [h] at hk; cases hk
  · exact h
/-- what is wrong with a kind and a key -/
def stE (k : Int) (h l : BitVec 64) : Int := if okS k = false then 6 else if hiS k < W64 h ∨ loS k < W64 l then 13 else 0
theorem two_blocksK (w : World) (A B : Obj) : ((w.alloc A).alloc B).heap[w.heap.size]? = some A ∧ ((w.alloc A).alloc B).heap[w.heap.size + 1]? = some B ∧ New w ((w.alloc A).alloc B) := by
  have e1 : (w.alloc A).heap.size = w.heap.size + 1 := by simp
  refine ⟨?_, ?_, ((New.refl w).alloc _).alloc _⟩
  · rw [((New.refl (w.alloc A)).alloc B).block _ (by rw [e1]; omega)]; exact heap_alloc_new _ _
  · rw [← e1]; exact heap_alloc_new _ _
set_option maxHeartbeats 1600000 in
theorem kfor_0 (k : Int) (h l : BitVec 64) (hk : okS k = false) (w : World) : Calls Tryz.prog 51 #[.int .i64 k, .agg #[.int .u64 (W64 h), .int .u64 (W64 l)]] w fun e w' => e = .returned (.tuple #[.agg kzc, .int .i64 6]) ∧ New w w' := by
  obtain ⟨hb1, hb2, hN⟩ := two_blocksK w (.cells #[.int .u64 (W64 h), .int .u64 (W64 l)] 24) (.cells #[.string ⟨#[]⟩, .int .i64 0, .int .i64 0, .int .u64 0, .int .u64 0, .nilFunc, .nilFunc] 96)
  generalize hW : (w.alloc (.cells #[.int .u64 (W64 h), .int .u64 (W64 l)] 24)).alloc (.cells #[.string ⟨#[]⟩, .int .i64 0, .int .i64 0, .int .u64 0, .int .u64 0, .nilFunc, .nilFunc] 96) = w0 at *
  have HB1 := Lib.hid hb1
  have HB2 := Lib.hid hb2
  have HN := Lib.hid hN
  have HK := Lib.hid (fun w => kind_of k w)
  clear hb1 hb2 hN
  rw [hk] at HK
  go_enter Tryz.func51, Tryz.ntmps51
  go_wp2_with fail
  refine (HK.out _).mono ?_
  rintro e w1 ⟨⟨cs, rfl, hv⟩, hn⟩
  obtain rfl := hv.none hk
  have hz := ((hn.alloc (.cells #[.string ⟨#[]⟩, .int .i64 0, .int .i64 0, .int .u64 0, .int .u64 0, .nilFunc, .nilFunc] 96)).block _ (lt_of_block HB2.out)).trans HB2.out
  have r0 := cell_of_row _ _ 0 _ _ _ hz
  have r1 := cell_of_row _ _ 1 _ _ _ hz
  have r2 := cell_of_row _ _ 2 _ _ _ hz
  have r3 := cell_of_row _ _ 3 _ _ _ hz
  have r4 := cell_of_row _ _ 4 _ _ _ hz
  have r5 := cell_of_row _ _ 5 _ _ _ hz
  have r6 := cell_of_row _ _ 6 _ _ _ hz
  have rf := fun i => frozen_of_row _ _ i _ _ hz
  have hp := put7_facts (.string ⟨#[]⟩) (.int .i64 0) (.int .i64 0) (.int .u64 0) (.int .u64 0) .nilFunc .nilFunc hz
  have HN1 := Lib.hid (HN.out.trans (hn.alloc (.cells #[.string ⟨#[]⟩, .int .i64 0, .int .i64 0, .int .u64 0, .int .u64 0, .nilFunc, .nilFunc] 96)))
  clear HK hv hn
  go_wp2_with fail
  refine bodyPost_ret (by simp [results, Tryz.results51, go_sem, r0, r1, r2, r3, r4, r5, r6]; try rfl) rfl ?_
  exact ⟨rfl, hp.2.2.1 _ HN1.out (Nat.le_succ _)⟩
set_option maxHeartbeats 3200000 in
theorem kfor_1 (k : Int) (h l : BitVec 64) (hk : okS k = true) (h1 : decide (hiS k < W64 h) = true) (w : World) : Calls Tryz.prog 51 #[.int .i64 k, .agg #[.int .u64 (W64 h), .int .u64 (W64 l)]] w fun e w' => e = .returned (.tuple #[.agg kzc, .int .i64 13]) ∧ New w w' := by
  obtain ⟨hb1, hb2, hN⟩ := two_blocksK w (.cells #[.int .u64 (W64 h), .int .u64 (W64 l)] 24) (.cells #[.string ⟨#[]⟩, .int .i64 0, .int .i64 0, .int .u64 0, .int .u64 0, .nilFunc, .nilFunc] 96)
  generalize hW : (w.alloc (.cells #[.int .u64 (W64 h), .int .u64 (W64 l)] 24)).alloc (.cells #[.string ⟨#[]⟩, .int .i64 0, .int .i64 0, .int .u64 0, .int .u64 0, .nilFunc, .nilFunc] 96) = w0 at *
  have HB1 := Lib.hid hb1
  have HB2 := Lib.hid hb2
  have HN := Lib.hid hN
  have HK := Lib.hid (fun w => kind_of k w)
  clear hb1 hb2 hN
  have b0 := cell_of_row _ _ 0 _ _ _ HB1.out
  have b1 := cell_of_row _ _ 1 _ _ _ HB1.out
  rw [hk] at HK
  go_enter Tryz.func51, Tryz.ntmps51
  go_wp2_with fail
  refine (HK.out _).mono ?_
  rintro e w1 ⟨⟨cs, rfl, hv⟩, hn⟩
  obtain ⟨f, rfl, hg⟩ := hv.got hk
  obtain ⟨e1, e2, e3, e4, e5, _⟩ := hg.now.has
  have hfm := hg.now.form
  obtain ⟨nm, sz, bl, hi, lo, on, mk⟩ := f
  dsimp only at hfm e1 e2 e3 e4 e5
  obtain ⟨a, p, b, q, rfl, rfl⟩ := hfm
  subst e1 e2 e3 e4 e5
  have hnk := hn.alloc (.cells #[.string (nmS k), .int .i64 (szS k), .int .i64 (blS k), .int .u64 (hiS k), .int .u64 (loS k), .func (Fn.func a) #[] p, .func (Fn.func b) #[] q] 96)
  have hz := (hnk.block _ (lt_of_block HB2.out)).trans HB2.out
  have hy := (hnk.block _ (lt_of_block HB1.out)).trans HB1.out
  have y0 := cell_of_row _ _ 0 _ _ _ hy
  have y1 := cell_of_row _ _ 1 _ _ _ hy
  have r0 := cell_of_row _ _ 0 _ _ _ hz
  have r1 := cell_of_row _ _ 1 _ _ _ hz
  have r2 := cell_of_row _ _ 2 _ _ _ hz
  have r3 := cell_of_row _ _ 3 _ _ _ hz
  have r4 := cell_of_row _ _ 4 _ _ _ hz
  have r5 := cell_of_row _ _ 5 _ _ _ hz
  have r6 := cell_of_row _ _ 6 _ _ _ hz
  have rf := fun i => frozen_of_row _ _ i _ _ hz
  have HN1 := Lib.hid (HN.out.trans hnk)
  have HG := Lib.hid hg
  have HLE : Hid (w.heap.size + 2 ≤ w1.heap.size) := Lib.hid (by have h1 := hn.le; have h2 : w0.heap.size = w.heap.size + 2 := (by rw [← hW]; simp); omega)
  clear HK hv hn hnk hg b0 b1
  go_wp2_with fail
  have hp := put7_facts (.string ⟨#[]⟩) (.int .i64 0) (.int .i64 0) (.int .u64 0) (.int .u64 0) .nilFunc .nilFunc hz
  refine bodyPost_ret (by simp [results, Tryz.results51, go_sem, r0, r1, r2, r3, r4, r5, r6]; try rfl) rfl ?_
  exact ⟨rfl, hp.2.2.1 _ HN1.out (Nat.le_succ _)⟩
set_option maxHeartbeats 3200000 in
theorem kfor_2 (k : Int) (h l : BitVec 64) (hk : okS k = true) (h1 : decide (hiS k < W64 h) = false) (h2 : decide (loS k < W64 l) = true) (w : World) : Calls Tryz.prog 51 #[.int .i64 k, .agg #[.int .u64 (W64 h), .int .u64 (W64 l)]] w fun e w' => e = .returned (.tuple #[.agg kzc, .int .i64 13]) ∧ New w w' := by
  obtain ⟨hb1, hb2, hN⟩ := two_blocksK w (.cells #[.int .u64 (W64 h), .int .u64 (W64 l)] 24) (.cells #[.string ⟨#[]⟩, .int .i64 0, .int .i64 0, .int .u64 0, .int .u64 0, .nilFunc, .nilFunc] 96)
  generalize hW : (w.alloc (.cells #[.int .u64 (W64 h), .int .u64 (W64 l)] 24)).alloc (.cells #[.string ⟨#[]⟩, .int .i64 0, .int .i64 0, .int .u64 0, .int .u64 0, .nilFunc, .nilFunc] 96) = w0 at *
  have HB1 := Lib.hid hb1
  have HB2 := Lib.hid hb2
  have HN := Lib.hid hN
  have HK := Lib.hid (fun w => kind_of k w)
  clear hb1 hb2 hN
  have b0 := cell_of_row _ _ 0 _ _ _ HB1.out
  have b1 := cell_of_row _ _ 1 _ _ _ HB1.out
  rw [hk] at HK
  go_enter Tryz.func51, Tryz.ntmps51
  go_wp2_with fail
  refine (HK.out _).mono ?_
  rintro e w1 ⟨⟨cs, rfl, hv⟩, hn⟩
  obtain ⟨f, rfl, hg⟩ := hv.got hk
  obtain ⟨e1, e2, e3, e4, e5, _⟩ := hg.now.has
  have hfm := hg.now.form
  obtain ⟨nm, sz, bl, hi, lo, on, mk⟩ := f
  dsimp only at hfm e1 e2 e3 e4 e5
  obtain ⟨a, p, b, q, rfl, rfl⟩ := hfm
  subst e1 e2 e3 e4 e5
  have hnk := hn.alloc (.cells #[.string (nmS k), .int .i64 (szS k), .int .i64 (blS k), .int .u64 (hiS k), .int .u64 (loS k), .func (Fn.func a) #[] p, .func (Fn.func b) #[] q] 96)
  have hz := (hnk.block _ (lt_of_block HB2.out)).trans HB2.out
  have hy := (hnk.block _ (lt_of_block HB1.out)).trans HB1.out
  have y0 := cell_of_row _ _ 0 _ _ _ hy
  have y1 := cell_of_row _ _ 1 _ _ _ hy
  have r0 := cell_of_row _ _ 0 _ _ _ hz
  have r1 := cell_of_row _ _ 1 _ _ _ hz
  have r2 := cell_of_row _ _ 2 _ _ _ hz
  have r3 := cell_of_row _ _ 3 _ _ _ hz
  have r4 := cell_of_row _ _ 4 _ _ _ hz
  have r5 := cell_of_row _ _ 5 _ _ _ hz
  have r6 := cell_of_row _ _ 6 _ _ _ hz
  have rf := fun i => frozen_of_row _ _ i _ _ hz
  have HN1 := Lib.hid (HN.out.trans hnk)
  have HG := Lib.hid hg
  have HLE : Hid (w.heap.size + 2 ≤ w1.heap.size) := Lib.hid (by have h1 := hn.le; have h2 : w0.heap.size = w.heap.size + 2 := (by rw [← hW]; simp); omega)
  clear HK hv hn hnk hg b0 b1
  go_wp2_with fail
  have hp := put7_facts (.string ⟨#[]⟩) (.int .i64 0) (.int .i64 0) (.int .u64 0) (.int .u64 0) .nilFunc .nilFunc hz
  refine bodyPost_ret (by simp [results, Tryz.results51, go_sem, r0, r1, r2, r3, r4, r5, r6]; try rfl) rfl ?_
  exact ⟨rfl, hp.2.2.1 _ HN1.out (Nat.le_succ _)⟩
set_option maxHeartbeats 3200000 in
theorem kfor_3 (k : Int) (h l : BitVec 64) (hk : okS k = true) (h1 : decide (hiS k < W64 h) = false) (h2 : decide (loS k < W64 l) = false) (w : World) : Calls Tryz.prog 51 #[.int .i64 k, .agg #[.int .u64 (W64 h), .int .u64 (W64 l)]] w fun e w' => (∃ f : Kd, e = .returned (.tuple #[.agg f.cells, .int .i64 0]) ∧ OwnK w.heap.size w' k f) ∧ New w w' := by
  obtain ⟨hb1, hb2, hN⟩ := two_blocksK w (.cells #[.int .u64 (W64 h), .int .u64 (W64 l)] 24) (.cells #[.string ⟨#[]⟩, .int .i64 0, .int .i64 0, .int .u64 0, .int .u64 0, .nilFunc, .nilFunc] 96)
  generalize hW : (w.alloc (.cells #[.int .u64 (W64 h), .int .u64 (W64 l)] 24)).alloc (.cells #[.string ⟨#[]⟩, .int .i64 0, .int .i64 0, .int .u64 0, .int .u64 0, .nilFunc, .nilFunc] 96) = w0 at *
  have HB1 := Lib.hid hb1
  have HB2 := Lib.hid hb2
  have HN := Lib.hid hN
  have HK := Lib.hid (fun w => kind_of k w)
  clear hb1 hb2 hN
  have b0 := cell_of_row _ _ 0 _ _ _ HB1.out
  have b1 := cell_of_row _ _ 1 _ _ _ HB1.out
  rw [hk] at HK
  go_enter Tryz.func51, Tryz.ntmps51
  go_wp2_with fail
  refine (HK.out _).mono ?_
  rintro e w1 ⟨⟨cs, rfl, hv⟩, hn⟩
  obtain ⟨f, rfl, hg⟩ := hv.got hk
  obtain ⟨e1, e2, e3, e4, e5, _⟩ := hg.now.has
  have hfm := hg.now.form
  obtain ⟨nm, sz, bl, hi, lo, on, mk⟩ := f
  dsimp only at hfm e1 e2 e3 e4 e5
  obtain ⟨a, p, b, q, rfl, rfl⟩ := hfm
  subst e1 e2 e3 e4 e5
  have hnk := hn.alloc (.cells #[.string (nmS k), .int .i64 (szS k), .int .i64 (blS k), .int .u64 (hiS k), .int .u64 (loS k), .func (Fn.func a) #[] p, .func (Fn.func b) #[] q] 96)
  have hz := (hnk.block _ (lt_of_block HB2.out)).trans HB2.out
  have hy := (hnk.block _ (lt_of_block HB1.out)).trans HB1.out
  have y0 := cell_of_row _ _ 0 _ _ _ hy
  have y1 := cell_of_row _ _ 1 _ _ _ hy
  have r0 := cell_of_row _ _ 0 _ _ _ hz
  have r1 := cell_of_row _ _ 1 _ _ _ hz
  have r2 := cell_of_row _ _ 2 _ _ _ hz
  have r3 := cell_of_row _ _ 3 _ _ _ hz
  have r4 := cell_of_row _ _ 4 _ _ _ hz
  have r5 := cell_of_row _ _ 5 _ _ _ hz
  have r6 := cell_of_row _ _ 6 _ _ _ hz
  have rf := fun i => frozen_of_row _ _ i _ _ hz
  have HN1 := Lib.hid (HN.out.trans hnk)
  have HG := Lib.hid hg
  have HLE : Hid (w.heap.size + 2 ≤ w1.heap.size) := Lib.hid (by have h1 := hn.le; have h2 : w0.heap.size = w.heap.size + 2 := (by rw [← hW]; simp); omega)
  clear HK hv hn hnk hg b0 b1
  go_wp2_with fail
  have hp := put7_facts (.string (nmS k)) (.int .i64 (szS k)) (.int .i64 (blS k)) (.int .u64 (hiS k)) (.int .u64 (loS k)) (.func (Fn.func a) #[] p) (.func (Fn.func b) #[] q) hz
  refine bodyPost_ret (by simp [results, Tryz.results51, go_sem, r0, r1, r2, r3, r4, r5, r6]; try rfl) rfl ?_
  refine ⟨⟨⟨nmS k, szS k, blS k, hiS k, loS k, .func (Fn.func a) #[] p, .func (Fn.func b) #[] q⟩, rfl, ?_⟩, hp.2.2.1 _ HN1.out (Nat.le_succ _)⟩
  have hg2 := (HG.out.stay ((New.refl w1).alloc (.cells #[.string (nmS k), .int .i64 (szS k), .int .i64 (blS k), .int .u64 (hiS k), .int .u64 (loS k), .func (Fn.func a) #[] p, .func (Fn.func b) #[] q] 96)))
  have hs0 : w0.heap.size = w.heap.size + 2 := by rw [← hW]; simp
  exact (hg2.kept (Nat.le_of_eq hp.2.2.2.symm) fun j hj _ => hp.2.1 j (by omega)).le (by omega)
theorem kfor_err (k : Int) (h l : BitVec 64) (he : stE k h l ≠ 0) (w : World) : Calls Tryz.prog 51 #[.int .i64 k, .agg #[.int .u64 (W64 h), .int .u64 (W64 l)]] w fun e w' => e = .returned (.tuple #[.agg kzc, .int .i64 (stE k h l)]) ∧ New w w' := by
  unfold stE at *
  cases hk : okS k with
  | false => exact kfor_0 k h l hk w
  | true =>
    rw [hk] at he
    rw [if_neg (by decide)] at he ⊢
    by_cases h1 : hiS k < W64 h
    · rw [if_pos (.inl h1)]; exact kfor_1 k h l hk (decide_eq_true h1) w
    · by_cases h2 : loS k < W64 l
      · rw [if_pos (.inr h2)]; exact kfor_2 k h l hk (decide_eq_false h1) (decide_eq_true h2) w
      · rw [if_neg (by omega)] at he; exact absurd rfl he
theorem kfor_fine (k : Int) (h l : BitVec 64) (he : stE k h l = 0) (w : World) : Calls Tryz.prog 51 #[.int .i64 k, .agg #[.int .u64 (W64 h), .int .u64 (W64 l)]] w fun e w' => (∃ f : Kd, e = .returned (.tuple #[.agg f.cells, .int .i64 0]) ∧ OwnK w.heap.size w' k f) ∧ New w w' := by
  unfold stE at he
  cases hk : okS k with
  | false => rw [hk, if_pos rfl] at he; exact absurd he (by decide)
  | true =>
    rw [hk, if_neg (by decide)] at he
    by_cases h1 : hiS k < W64 h
    · rw [if_pos (.inl h1)] at he; exact absurd he (by decide)
    · by_cases h2 : loS k < W64 l
      · rw [if_pos (.inr h2)] at he; exact absurd he (by decide)
      · exact kfor_3 k h l hk (decide_eq_false h1) (decide_eq_false h2) w
theorem scheck_35 (k : Int) (h l : BitVec 64) (w : World) : Calls Tryz.prog 44 #[.int .i64 k, .agg #[.int .u64 (W64 h), .int .u64 (W64 l)]] w fun e w' => e = .returned (.int .i64 (stE k h l)) ∧ New w w' := by
  generalize hW : w.alloc (.cells #[.int .u64 (W64 h), .int .u64 (W64 l)] 24) = w0
  have HB : Hid (w0.heap[w.heap.size]? = some (.cells #[.int .u64 (W64 h), .int .u64 (W64 l)] 24 (0, 0))) := Lib.hid (by rw [← hW]; exact heap_alloc_new w _)
  have HN : Hid (New w w0) := Lib.hid (by rw [← hW]; exact (New.refl w).alloc _)
  have b0 := cell_of_row _ _ 0 _ _ _ HB.out
  have b1 := cell_of_row _ _ 1 _ _ _ HB.out
  by_cases he : stE k h l = 0
  · have HK := Lib.hid (fun w => kfor_fine k h l he w)
    rw [he]
    clear he
    go_enter Tryz.func44, Tryz.ntmps44
    go_wp2_with fail
    refine (HK.out _).mono ?_
    rintro e w1 ⟨⟨f, rfl, hg⟩, hn⟩
    have HN1 := Lib.hid (HN.out.trans hn)
    have hfm := hg.now.form
    obtain ⟨nm, sz, bl, hi, lo, on, mk⟩ := f
    dsimp only at hfm
    obtain ⟨a, p, b, q, rfl, rfl⟩ := hfm
    clear HK hg hn b0 b1
    go_wp2
    go_ret
    exact ⟨rfl, HN1.out.alloc _⟩
  · have HK := Lib.hid (fun w => kfor_err k h l he w)
    generalize stE k h l = E at *
    clear he
    go_enter Tryz.func44, Tryz.ntmps44
    go_wp2_with fail
    refine (HK.out _).mono ?_
    rintro e w1 ⟨rfl, hn⟩
    have HN1 := Lib.hid (HN.out.trans hn)
    clear HK hn b0 b1
    go_wp2
    go_ret
    exact ⟨rfl, HN1.out.alloc _⟩
end Go.Proofs.YthkmcnlciefnfaaGreat
