/- All generators, by their kinds: generatorOf; Size, Name, Cost. -/
import Derived.Test.YtfaobdmoifnglaaGreatGsA
namespace Go.Proofs.YtfaobdmoifnglaaGreat
open Go.RowKit Go.Bv
set_option linter.unusedVariables false
set_option maxHeartbeats 800000 in
theorem gen_of1 (w : World) : Calls Tryz.prog 30 #[.int .i64 1] w fun e w' => (∃ cs, e = .returned (.tuple #[.agg cs, .bool true]) ∧ GenV w.heap.size w' 1 cs) ∧ New w w' := by
  go_enter Tryz.func30, Tryz.ntmps30
  go_wp2_with fail
  refine (of_split _).mono ?_
  rintro e w' ⟨⟨g, rfl, hg⟩, hn⟩
  have hb := (hn.block _ (lt_of_block (heap_alloc_new w _))).trans (heap_alloc_new w _)
  have k0 := cell_of_row _ _ 0 _ _ _ hb
  have k1 := cell_of_row _ _ 1 _ _ _ hb
  have k2 := cell_of_row _ _ 2 _ _ _ hb
  have k3 := cell_of_row _ _ 3 _ _ _ hb
  have k4 := cell_of_row _ _ 4 _ _ _ hb
  have k5 := cell_of_row _ _ 5 _ _ _ hb
  have k6 := cell_of_row _ _ 6 _ _ _ hb
  have k7 := cell_of_row _ _ 7 _ _ _ hb
  have kf := fun i => frozen_of_row _ _ i _ _ hb
  go_wp2_with fail
  have hp := put8_facts (.string g.nm) (.int .i64 g.sz) (.int .i64 g.cs) (.func (Fn.func g.rf) #[] #[]) (.func (Fn.func g.sd.1) #[] g.sd.2) (.func (Fn.func g.st.1) #[] g.st.2) (.func (Fn.func g.nx.1) #[] g.nx.2) (.func (Fn.func g.jp.1) #[] g.jp.2) hb
  refine bodyPost_ret (by simp [results, Tryz.results30, go_sem, k0, k1, k2, k3, k4, k5, k6, k7]; try rfl) rfl ?_
  refine ⟨⟨g.cells, rfl, Or.inl ⟨rfl, g, rfl, ?_⟩⟩, hp.2.2.1 _ (((New.refl w).alloc _).trans hn) (Nat.le_refl _)⟩
  refine (hg.kept (Nat.le_of_eq hp.2.2.2.symm) fun j hj _ => hp.2.1 j ?_).le (by simp)
  simp at hj; omega
set_option maxHeartbeats 800000 in
theorem gen_of2 (w : World) : Calls Tryz.prog 30 #[.int .i64 2] w fun e w' => (∃ cs, e = .returned (.tuple #[.agg cs, .bool true]) ∧ GenV w.heap.size w' 2 cs) ∧ New w w' := by
  go_enter Tryz.func30, Tryz.ntmps30
  go_wp2_with fail
  refine (of_xoshiro _ (by simp) _).mono ?_
  rintro e w' ⟨⟨g, rfl, hg⟩, hn⟩
  have hb := (hn.block _ (lt_of_block (heap_alloc_new w _))).trans (heap_alloc_new w _)
  have k0 := cell_of_row _ _ 0 _ _ _ hb
  have k1 := cell_of_row _ _ 1 _ _ _ hb
  have k2 := cell_of_row _ _ 2 _ _ _ hb
  have k3 := cell_of_row _ _ 3 _ _ _ hb
  have k4 := cell_of_row _ _ 4 _ _ _ hb
  have k5 := cell_of_row _ _ 5 _ _ _ hb
  have k6 := cell_of_row _ _ 6 _ _ _ hb
  have k7 := cell_of_row _ _ 7 _ _ _ hb
  have kf := fun i => frozen_of_row _ _ i _ _ hb
  go_wp2_with fail
  have hp := put8_facts (.string g.nm) (.int .i64 g.sz) (.int .i64 g.cs) (.func (Fn.func g.rf) #[] #[]) (.func (Fn.func g.sd.1) #[] g.sd.2) (.func (Fn.func g.st.1) #[] g.st.2) (.func (Fn.func g.nx.1) #[] g.nx.2) (.func (Fn.func g.jp.1) #[] g.jp.2) hb
  refine bodyPost_ret (by simp [results, Tryz.results30, go_sem, k0, k1, k2, k3, k4, k5, k6, k7]; try rfl) rfl ?_
  refine ⟨⟨g.cells, rfl, Or.inl ⟨rfl, g, rfl, ?_⟩⟩, hp.2.2.1 _ (((New.refl w).alloc _).trans hn) (Nat.le_refl _)⟩
  refine (hg.kept (Nat.le_of_eq hp.2.2.2.symm) fun j hj _ => hp.2.1 j ?_).le (by simp)
  simp at hj; omega
set_option maxHeartbeats 800000 in
theorem gen_of3 (w : World) : Calls Tryz.prog 30 #[.int .i64 3] w fun e w' => (∃ cs, e = .returned (.tuple #[.agg cs, .bool true]) ∧ GenV w.heap.size w' 3 cs) ∧ New w w' := by
  go_enter Tryz.func30, Tryz.ntmps30
  go_wp2_with fail
  refine (of_xoshiro _ (by simp) _).mono ?_
  rintro e w' ⟨⟨g, rfl, hg⟩, hn⟩
  have hb := (hn.block _ (lt_of_block (heap_alloc_new w _))).trans (heap_alloc_new w _)
  have k0 := cell_of_row _ _ 0 _ _ _ hb
  have k1 := cell_of_row _ _ 1 _ _ _ hb
  have k2 := cell_of_row _ _ 2 _ _ _ hb
  have k3 := cell_of_row _ _ 3 _ _ _ hb
  have k4 := cell_of_row _ _ 4 _ _ _ hb
  have k5 := cell_of_row _ _ 5 _ _ _ hb
  have k6 := cell_of_row _ _ 6 _ _ _ hb
  have k7 := cell_of_row _ _ 7 _ _ _ hb
  have kf := fun i => frozen_of_row _ _ i _ _ hb
  go_wp2_with fail
  have hp := put8_facts (.string g.nm) (.int .i64 g.sz) (.int .i64 g.cs) (.func (Fn.func g.rf) #[] #[]) (.func (Fn.func g.sd.1) #[] g.sd.2) (.func (Fn.func g.st.1) #[] g.st.2) (.func (Fn.func g.nx.1) #[] g.nx.2) (.func (Fn.func g.jp.1) #[] g.jp.2) hb
  refine bodyPost_ret (by simp [results, Tryz.results30, go_sem, k0, k1, k2, k3, k4, k5, k6, k7]; try rfl) rfl ?_
  refine ⟨⟨g.cells, rfl, Or.inl ⟨rfl, g, rfl, ?_⟩⟩, hp.2.2.1 _ (((New.refl w).alloc _).trans hn) (Nat.le_refl _)⟩
  refine (hg.kept (Nat.le_of_eq hp.2.2.2.symm) fun j hj _ => hp.2.1 j ?_).le (by simp)
  simp at hj; omega
set_option maxHeartbeats 800000 in
theorem gen_of4 (w : World) : Calls Tryz.prog 30 #[.int .i64 4] w fun e w' => (∃ cs, e = .returned (.tuple #[.agg cs, .bool true]) ∧ GenV w.heap.size w' 4 cs) ∧ New w w' := by
  go_enter Tryz.func30, Tryz.ntmps30
  go_wp2_with fail
  refine (of_xoshiro _ (by simp) _).mono ?_
  rintro e w' ⟨⟨g, rfl, hg⟩, hn⟩
  have hb := (hn.block _ (lt_of_block (heap_alloc_new w _))).trans (heap_alloc_new w _)
  have k0 := cell_of_row _ _ 0 _ _ _ hb
  have k1 := cell_of_row _ _ 1 _ _ _ hb
  have k2 := cell_of_row _ _ 2 _ _ _ hb
  have k3 := cell_of_row _ _ 3 _ _ _ hb
  have k4 := cell_of_row _ _ 4 _ _ _ hb
  have k5 := cell_of_row _ _ 5 _ _ _ hb
  have k6 := cell_of_row _ _ 6 _ _ _ hb
  have k7 := cell_of_row _ _ 7 _ _ _ hb
  have kf := fun i => frozen_of_row _ _ i _ _ hb
  go_wp2_with fail
  have hp := put8_facts (.string g.nm) (.int .i64 g.sz) (.int .i64 g.cs) (.func (Fn.func g.rf) #[] #[]) (.func (Fn.func g.sd.1) #[] g.sd.2) (.func (Fn.func g.st.1) #[] g.st.2) (.func (Fn.func g.nx.1) #[] g.nx.2) (.func (Fn.func g.jp.1) #[] g.jp.2) hb
  refine bodyPost_ret (by simp [results, Tryz.results30, go_sem, k0, k1, k2, k3, k4, k5, k6, k7]; try rfl) rfl ?_
  refine ⟨⟨g.cells, rfl, Or.inl ⟨rfl, g, rfl, ?_⟩⟩, hp.2.2.1 _ (((New.refl w).alloc _).trans hn) (Nat.le_refl _)⟩
  refine (hg.kept (Nat.le_of_eq hp.2.2.2.symm) fun j hj _ => hp.2.1 j ?_).le (by simp)
  simp at hj; omega
set_option maxHeartbeats 800000 in
theorem gen_of5 (w : World) : Calls Tryz.prog 30 #[.int .i64 5] w fun e w' => (∃ cs, e = .returned (.tuple #[.agg cs, .bool true]) ∧ GenV w.heap.size w' 5 cs) ∧ New w w' := by
  go_enter Tryz.func30, Tryz.ntmps30
  go_wp2_with fail
  refine (of_xoroshiro _ (by simp) _).mono ?_
  rintro e w' ⟨⟨g, rfl, hg⟩, hn⟩
  have hb := (hn.block _ (lt_of_block (heap_alloc_new w _))).trans (heap_alloc_new w _)
  have k0 := cell_of_row _ _ 0 _ _ _ hb
  have k1 := cell_of_row _ _ 1 _ _ _ hb
  have k2 := cell_of_row _ _ 2 _ _ _ hb
  have k3 := cell_of_row _ _ 3 _ _ _ hb
  have k4 := cell_of_row _ _ 4 _ _ _ hb
  have k5 := cell_of_row _ _ 5 _ _ _ hb
  have k6 := cell_of_row _ _ 6 _ _ _ hb
  have k7 := cell_of_row _ _ 7 _ _ _ hb
  have kf := fun i => frozen_of_row _ _ i _ _ hb
  go_wp2_with fail
  have hp := put8_facts (.string g.nm) (.int .i64 g.sz) (.int .i64 g.cs) (.func (Fn.func g.rf) #[] #[]) (.func (Fn.func g.sd.1) #[] g.sd.2) (.func (Fn.func g.st.1) #[] g.st.2) (.func (Fn.func g.nx.1) #[] g.nx.2) (.func (Fn.func g.jp.1) #[] g.jp.2) hb
  refine bodyPost_ret (by simp [results, Tryz.results30, go_sem, k0, k1, k2, k3, k4, k5, k6, k7]; try rfl) rfl ?_
  refine ⟨⟨g.cells, rfl, Or.inl ⟨rfl, g, rfl, ?_⟩⟩, hp.2.2.1 _ (((New.refl w).alloc _).trans hn) (Nat.le_refl _)⟩
  refine (hg.kept (Nat.le_of_eq hp.2.2.2.symm) fun j hj _ => hp.2.1 j ?_).le (by simp)
  simp at hj; omega
set_option maxHeartbeats 800000 in
theorem gen_of6 (w : World) : Calls Tryz.prog 30 #[.int .i64 6] w fun e w' => (∃ cs, e = .returned (.tuple #[.agg cs, .bool true]) ∧ GenV w.heap.size w' 6 cs) ∧ New w w' := by
  go_enter Tryz.func30, Tryz.ntmps30
  go_wp2_with fail
  refine (of_xoroshiro _ (by simp) _).mono ?_
  rintro e w' ⟨⟨g, rfl, hg⟩, hn⟩
  have hb := (hn.block _ (lt_of_block (heap_alloc_new w _))).trans (heap_alloc_new w _)
  have k0 := cell_of_row _ _ 0 _ _ _ hb
  have k1 := cell_of_row _ _ 1 _ _ _ hb
  have k2 := cell_of_row _ _ 2 _ _ _ hb
  have k3 := cell_of_row _ _ 3 _ _ _ hb
  have k4 := cell_of_row _ _ 4 _ _ _ hb
  have k5 := cell_of_row _ _ 5 _ _ _ hb
  have k6 := cell_of_row _ _ 6 _ _ _ hb
  have k7 := cell_of_row _ _ 7 _ _ _ hb
  have kf := fun i => frozen_of_row _ _ i _ _ hb
  go_wp2_with fail
  have hp := put8_facts (.string g.nm) (.int .i64 g.sz) (.int .i64 g.cs) (.func (Fn.func g.rf) #[] #[]) (.func (Fn.func g.sd.1) #[] g.sd.2) (.func (Fn.func g.st.1) #[] g.st.2) (.func (Fn.func g.nx.1) #[] g.nx.2) (.func (Fn.func g.jp.1) #[] g.jp.2) hb
  refine bodyPost_ret (by simp [results, Tryz.results30, go_sem, k0, k1, k2, k3, k4, k5, k6, k7]; try rfl) rfl ?_
  refine ⟨⟨g.cells, rfl, Or.inl ⟨rfl, g, rfl, ?_⟩⟩, hp.2.2.1 _ (((New.refl w).alloc _).trans hn) (Nat.le_refl _)⟩
  refine (hg.kept (Nat.le_of_eq hp.2.2.2.symm) fun j hj _ => hp.2.1 j ?_).le (by simp)
  simp at hj; omega
set_option maxHeartbeats 800000 in
theorem gen_of7 (w : World) : Calls Tryz.prog 30 #[.int .i64 7] w fun e w' => (∃ cs, e = .returned (.tuple #[.agg cs, .bool true]) ∧ GenV w.heap.size w' 7 cs) ∧ New w w' := by
  go_enter Tryz.func30, Tryz.ntmps30
  go_wp2_with fail
  refine (of_pcg32 _).mono ?_
  rintro e w' ⟨⟨g, rfl, hg⟩, hn⟩
  have hb := (hn.block _ (lt_of_block (heap_alloc_new w _))).trans (heap_alloc_new w _)
  have k0 := cell_of_row _ _ 0 _ _ _ hb
  have k1 := cell_of_row _ _ 1 _ _ _ hb
  have k2 := cell_of_row _ _ 2 _ _ _ hb
  have k3 := cell_of_row _ _ 3 _ _ _ hb
  have k4 := cell_of_row _ _ 4 _ _ _ hb
  have k5 := cell_of_row _ _ 5 _ _ _ hb
  have k6 := cell_of_row _ _ 6 _ _ _ hb
  have k7 := cell_of_row _ _ 7 _ _ _ hb
  have kf := fun i => frozen_of_row _ _ i _ _ hb
  go_wp2_with fail
  have hp := put8_facts (.string g.nm) (.int .i64 g.sz) (.int .i64 g.cs) (.func (Fn.func g.rf) #[] #[]) (.func (Fn.func g.sd.1) #[] g.sd.2) (.func (Fn.func g.st.1) #[] g.st.2) (.func (Fn.func g.nx.1) #[] g.nx.2) (.func (Fn.func g.jp.1) #[] g.jp.2) hb
  refine bodyPost_ret (by simp [results, Tryz.results30, go_sem, k0, k1, k2, k3, k4, k5, k6, k7]; try rfl) rfl ?_
  refine ⟨⟨g.cells, rfl, Or.inl ⟨rfl, g, rfl, ?_⟩⟩, hp.2.2.1 _ (((New.refl w).alloc _).trans hn) (Nat.le_refl _)⟩
  refine (hg.kept (Nat.le_of_eq hp.2.2.2.symm) fun j hj _ => hp.2.1 j ?_).le (by simp)
  simp at hj; omega
set_option maxHeartbeats 800000 in
theorem gen_of8 (w : World) : Calls Tryz.prog 30 #[.int .i64 8] w fun e w' => (∃ cs, e = .returned (.tuple #[.agg cs, .bool true]) ∧ GenV w.heap.size w' 8 cs) ∧ New w w' := by
  go_enter Tryz.func30, Tryz.ntmps30
  go_wp2_with fail
  refine (of_pcg64 _).mono ?_
  rintro e w' ⟨⟨g, rfl, hg⟩, hn⟩
  have hb := (hn.block _ (lt_of_block (heap_alloc_new w _))).trans (heap_alloc_new w _)
  have k0 := cell_of_row _ _ 0 _ _ _ hb
  have k1 := cell_of_row _ _ 1 _ _ _ hb
  have k2 := cell_of_row _ _ 2 _ _ _ hb
  have k3 := cell_of_row _ _ 3 _ _ _ hb
  have k4 := cell_of_row _ _ 4 _ _ _ hb
  have k5 := cell_of_row _ _ 5 _ _ _ hb
  have k6 := cell_of_row _ _ 6 _ _ _ hb
  have k7 := cell_of_row _ _ 7 _ _ _ hb
  have kf := fun i => frozen_of_row _ _ i _ _ hb
  go_wp2_with fail
  have hp := put8_facts (.string g.nm) (.int .i64 g.sz) (.int .i64 g.cs) (.func (Fn.func g.rf) #[] #[]) (.func (Fn.func g.sd.1) #[] g.sd.2) (.func (Fn.func g.st.1) #[] g.st.2) (.func (Fn.func g.nx.1) #[] g.nx.2) (.func (Fn.func g.jp.1) #[] g.jp.2) hb
  refine bodyPost_ret (by simp [results, Tryz.results30, go_sem, k0, k1, k2, k3, k4, k5, k6, k7]; try rfl) rfl ?_
  refine ⟨⟨g.cells, rfl, Or.inl ⟨rfl, g, rfl, ?_⟩⟩, hp.2.2.1 _ (((New.refl w).alloc _).trans hn) (Nat.le_refl _)⟩
  refine (hg.kept (Nat.le_of_eq hp.2.2.2.symm) fun j hj _ => hp.2.1 j ?_).le (by simp)
  simp at hj; omega
set_option maxHeartbeats 800000 in
theorem gen_of0 (k : Int) (h : okK k = false) (w : World) : Calls Tryz.prog 30 #[.int .i64 k] w fun e w' => (∃ cs, e = .returned (.tuple #[.agg cs, .bool false]) ∧ GenV w.heap.size w' k cs) ∧ New w w' := by
  have hk : k < 1 ∨ 8 < k := by unfold okK at h; simp at h; omega
  have h1 : ¬ k = 1 := by omega
  have h2 : ¬ k = 2 := by omega
  have h3 : ¬ k = 3 := by omega
  have h4 : ¬ k = 4 := by omega
  have h5 : ¬ k = 5 := by omega
  have h6 : ¬ k = 6 := by omega
  have h7 : ¬ k = 7 := by omega
  have h8 : ¬ k = 8 := by omega
  go_enter Tryz.func30, Tryz.ntmps30
  go_wp2_with fail
  go_returns
  exact ⟨⟨_, rfl, Or.inr ⟨h, rfl⟩⟩, (New.refl w).alloc _⟩
theorem gen_of (k : Int) (w : World) : Calls Tryz.prog 30 #[.int .i64 k] w fun e w' => (∃ cs, e = .returned (.tuple #[.agg cs, .bool (okK k)]) ∧ GenV w.heap.size w' k cs) ∧ New w w' := by
  by_cases h : 1 ≤ k ∧ k ≤ 8
  · have h8 : k = 1 ∨ k = 2 ∨ k = 3 ∨ k = 4 ∨ k = 5 ∨ k = 6 ∨ k = 7 ∨ k = 8 := by omega
    rcases h8 with rfl | rfl | rfl | rfl | rfl | rfl | rfl | rfl
    · exact gen_of1 w
    · exact gen_of2 w
    · exact gen_of3 w
    · exact gen_of4 w
    · exact gen_of5 w
    · exact gen_of6 w
    · exact gen_of7 w
    · exact gen_of8 w
  · rw [okK_no h]; exact gen_of0 k (okK_no h) w
theorem GenV.shape {n : Nat} {w : World} {k : Int} {cs : Array Value} (h : GenV n w k cs) : ∃ v3 v4 v5 v6 v7 : Value, cs = #[.string (nmK k), .int .i64 (szK k), .int .i64 (csK k), v3, v4, v5, v6, v7] ∧ (v3.oneCell' = true ∧ v4.oneCell' = true ∧ v5.oneCell' = true ∧ v6.oneCell' = true ∧ v7.oneCell' = true) := by
  rcases h with ⟨hk, g, rfl, hg⟩ | ⟨hk, rfl⟩
  · obtain ⟨h1, h2, h3, _⟩ := hg.now.has
    refine ⟨_, _, _, _, _, by rw [← h1, ← h2, ← h3], rfl, rfl, rfl, rfl, rfl⟩
  · have hk' : k < 1 ∨ 8 < k := by unfold okK at hk; simp at hk; omega
    refine ⟨.nilFunc, .nilFunc, .nilFunc, .nilFunc, .nilFunc, ?_, rfl, rfl, rfl, rfl, rfl⟩
    have e1 : nmK k = ⟨#[]⟩ := by unfold nmK; repeat (rw [if_neg (by omega)])
    have e2 : szK k = 0 := by unfold szK; repeat (rw [if_neg (by omega)])
    have e3 : csK k = 0 := by unfold csK; repeat (rw [if_neg (by omega)])
    rw [e1, e2, e3]
set_option maxHeartbeats 800000 in
theorem size_any (k : Int) (w : World) : Calls Tryz.prog 10 #[.int .i64 k] w fun e w' => e = .returned (.int .i64 (szK k)) ∧ New w w' := by
  go_enter Tryz.func10, Tryz.ntmps10
  go_wp2_with fail
  refine (gen_of k _).mono ?_
  rintro e w' ⟨⟨cs, rfl, hv⟩, hn⟩
  rcases hv with ⟨hk, g, rfl, hg⟩ | ⟨hk, rfl⟩
  · have hs := hg.now.has.2.1
    go_wp2_with fail
    go_ret
    exact ⟨rfl, hn.alloc _⟩
  · have e2 : szK k = 0 := by unfold okK at hk; simp at hk; unfold szK; repeat (rw [if_neg (by omega)])
    go_wp2_with fail
    go_ret
    exact ⟨by rw [e2]; rfl, hn.alloc _⟩
set_option maxHeartbeats 800000 in
theorem cost_any (k : Int) (w : World) : Calls Tryz.prog 14 #[.int .i64 k] w fun e w' => e = .returned (.int .i64 (csK k)) ∧ New w w' := by
  go_enter Tryz.func14, Tryz.ntmps14
  go_wp2_with fail
  refine (gen_of k _).mono ?_
  rintro e w' ⟨⟨cs, rfl, hv⟩, hn⟩
  rcases hv with ⟨hk, g, rfl, hg⟩ | ⟨hk, rfl⟩
  · have hs := hg.now.has.2.2.1
    go_wp2_with fail
    go_ret
    exact ⟨rfl, hn.alloc _⟩
  · have e2 : csK k = 0 := by unfold okK at hk; simp at hk; unfold csK; repeat (rw [if_neg (by omega)])
    go_wp2_with fail
    go_ret
    exact ⟨by rw [e2]; rfl, hn.alloc _⟩
set_option maxHeartbeats 800000 in
theorem name_any (k : Int) (w : World) : Calls Tryz.prog 12 #[.int .i64 k] w fun e w' => e = .returned (.string (nmK k)) ∧ New w w' := by
  go_enter Tryz.func12, Tryz.ntmps12
  go_wp2_with fail
  refine (gen_of k _).mono ?_
  rintro e w' ⟨⟨cs, rfl, hv⟩, hn⟩
  rcases hv with ⟨hk, g, rfl, hg⟩ | ⟨hk, rfl⟩
  · have hs := hg.now.has.1
    go_wp2_with fail
    go_ret
    exact ⟨rfl, hn.alloc _⟩
  · have e2 : nmK k = ⟨#[]⟩ := by unfold okK at hk; simp at hk; unfold nmK; repeat (rw [if_neg (by omega)])
    go_wp2_with fail
    go_ret
    exact ⟨by rw [e2]; rfl, hn.alloc _⟩
end Go.Proofs.YtfaobdmoifnglaaGreat
