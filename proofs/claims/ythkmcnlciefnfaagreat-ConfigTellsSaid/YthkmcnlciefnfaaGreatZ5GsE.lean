import Derived.Test.YthkmcnlciefnfaaGreatZ5GsC
/- All generators, by their kinds: generatorIn. · All generators, by their kinds: generatorIn, joined. -/
namespace Go.Proofs.YthkmcnlciefnfaaGreat
open Go.RowKit Go.Bv
set_option linter.unusedVariables false
abbrev stc (k : Int) (q : W4) : Array Value := #[.int .i64 k, .int .u64 (W64 q.a), .int .u64 (W64 q.b), .int .u64 (W64 q.c), .int .u64 (W64 q.d)]
/-- the functions are Go's: a call enters them -/
def Ent (f : Nat) : Prop := ∀ (args : Array Value) (w : World), (callFunc f args).run Tryz.prog w = .ok (.enter f args) w
theorem IsGen.ent {w : World} {k : Int} {g : Gn} (h : IsGen w k g) : Ent g.rf ∧ Ent g.sd.1 ∧ Ent g.st.1 ∧ Ent g.nx.1 ∧ Ent g.jp.1 := by
  cases h <;> exact ⟨fun _ _ => by kernel_rfl, fun _ _ => by kernel_rfl, fun _ _ => by kernel_rfl, fun _ _ => by kernel_rfl, fun _ _ => by kernel_rfl⟩
theorem GenV.got {n : Nat} {w : World} {k : Int} {cs : Array Value} (h : GenV n w k cs) (hk : okK k = true) : ∃ g : Gn, cs = g.cells ∧ Own n w k g := by
  rcases h with h | ⟨h, _⟩
  · exact h.2
  · rw [hk] at h; cases h
theorem two_blocksG (w : World) (A B : Obj) : ((w.alloc A).alloc B).heap[w.heap.size]? = some A ∧ ((w.alloc A).alloc B).heap[w.heap.size + 1]? = some B ∧ New w ((w.alloc A).alloc B) := by
  have e1 : (w.alloc A).heap.size = w.heap.size + 1 := by simp
  refine ⟨?_, ?_, ((New.refl w).alloc _).alloc _⟩
  · rw [((New.refl (w.alloc A)).alloc B).block _ (by rw [e1]; omega)]; exact heap_alloc_new _ _
  · rw [← e1]; exact heap_alloc_new _ _
set_option maxHeartbeats 2000000 in
theorem gin_f11 (k : Int) (q : W4) (hk : okK k = true) (hs : szK k = 1) (f1 : (q.b != 0#64) = true) (w : World) : Calls Tryz.prog 50 #[.agg (stc k q)] w fun e w' => e = .returned (.tuple #[.agg gzc, .int .i64 5]) ∧ New w w' := by
  have hz := two_blocksG w (.cells (stc k q) 38) (.cells gzc 87)
  have HZ := Lib.hid hz
  clear hz
  go_enter Tryz.func50, Tryz.ntmps50
  go_wp2_with fail
  refine (gen_of k _).mono ?_
  rintro e w' ⟨⟨cs, rfl, hv⟩, hn⟩
  obtain ⟨g, rfl, hg⟩ := hv.got hk
  rw [hk]
  have hsz : g.sz = 1 := hg.now.has.2.1.trans hs
  have HG := Lib.hid hg
  obtain ⟨nm, sz, csn, rf, sd, st, nx, jp⟩ := g
  simp at hsz
  subst hsz
  go_wp2_with fail
  generalize hw5 : World.alloc w' _ = w5
  have n5 : New w' w5 := by rw [← hw5]; exact (New.refl w').alloc _
  have hd : w5.heap[w'.heap.size]? = some (.cells #[.string nm, .int .i64 1, .int .i64 csn, .func (Fn.func rf) #[] #[], .func (Fn.func sd.1) #[] sd.2, .func (Fn.func st.1) #[] st.2, .func (Fn.func nx.1) #[] nx.2, .func (Fn.func jp.1) #[] jp.2] 87 (0, 0)) := by rw [← hw5]; exact heap_alloc_new _ _
  have hb := ((hn.trans n5).block _ (lt_of_block HZ.out.1)).trans HZ.out.1
  have hc := ((hn.trans n5).block _ (lt_of_block HZ.out.2.1)).trans HZ.out.2.1
  have k0 := cell_of_row _ _ 0 _ _ _ hb
  have k1 := cell_of_row _ _ 1 _ _ _ hb
  have k2 := cell_of_row _ _ 2 _ _ _ hb
  have k3 := cell_of_row _ _ 3 _ _ _ hb
  have k4 := cell_of_row _ _ 4 _ _ _ hb
  have c0 := cell_of_row _ _ 0 _ _ _ hc
  have c1 := cell_of_row _ _ 1 _ _ _ hc
  have c2 := cell_of_row _ _ 2 _ _ _ hc
  have c3 := cell_of_row _ _ 3 _ _ _ hc
  have c4 := cell_of_row _ _ 4 _ _ _ hc
  have c5 := cell_of_row _ _ 5 _ _ _ hc
  have c6 := cell_of_row _ _ 6 _ _ _ hc
  have c7 := cell_of_row _ _ 7 _ _ _ hc
  have cf := fun i => frozen_of_row _ _ i _ _ hc
  have d3 := cell_of_row _ _ 3 _ _ _ hd
  have HN := Lib.hid (HZ.out.2.2.trans (hn.trans n5))
  have HC := Lib.hid hc
  clear hb hc hd hn n5 hw5 hg
  go_rounds 4
  have hp := put8_facts (.string ⟨#[]⟩) (.int .i64 0) (.int .i64 0) .nilFunc .nilFunc .nilFunc .nilFunc .nilFunc HC.out
  refine bodyPost_ret (by simp [results, Tryz.results50, go_sem, c0, c1, c2, c3, c4, c5, c6, c7]; try rfl) rfl ?_
  exact ⟨rfl, hp.2.2.1 _ HN.out (by omega)⟩
set_option maxHeartbeats 2000000 in
theorem gin_f12 (k : Int) (q : W4) (hk : okK k = true) (hs : szK k = 1) (f1 : (q.b != 0#64) = false) (f2 : (q.c != 0#64) = true) (w : World) : Calls Tryz.prog 50 #[.agg (stc k q)] w fun e w' => e = .returned (.tuple #[.agg gzc, .int .i64 5]) ∧ New w w' := by
  have hz := two_blocksG w (.cells (stc k q) 38) (.cells gzc 87)
  have HZ := Lib.hid hz
  clear hz
  go_enter Tryz.func50, Tryz.ntmps50
  go_wp2_with fail
  refine (gen_of k _).mono ?_
  rintro e w' ⟨⟨cs, rfl, hv⟩, hn⟩
  obtain ⟨g, rfl, hg⟩ := hv.got hk
  rw [hk]
  have hsz : g.sz = 1 := hg.now.has.2.1.trans hs
  have HG := Lib.hid hg
  obtain ⟨nm, sz, csn, rf, sd, st, nx, jp⟩ := g
  simp at hsz
  subst hsz
  go_wp2_with fail
  generalize hw5 : World.alloc w' _ = w5
  have n5 : New w' w5 := by rw [← hw5]; exact (New.refl w').alloc _
  have hd : w5.heap[w'.heap.size]? = some (.cells #[.string nm, .int .i64 1, .int .i64 csn, .func (Fn.func rf) #[] #[], .func (Fn.func sd.1) #[] sd.2, .func (Fn.func st.1) #[] st.2, .func (Fn.func nx.1) #[] nx.2, .func (Fn.func jp.1) #[] jp.2] 87 (0, 0)) := by rw [← hw5]; exact heap_alloc_new _ _
  have hb := ((hn.trans n5).block _ (lt_of_block HZ.out.1)).trans HZ.out.1
  have hc := ((hn.trans n5).block _ (lt_of_block HZ.out.2.1)).trans HZ.out.2.1
  have k0 := cell_of_row _ _ 0 _ _ _ hb
  have k1 := cell_of_row _ _ 1 _ _ _ hb
  have k2 := cell_of_row _ _ 2 _ _ _ hb
  have k3 := cell_of_row _ _ 3 _ _ _ hb
  have k4 := cell_of_row _ _ 4 _ _ _ hb
  have c0 := cell_of_row _ _ 0 _ _ _ hc
  have c1 := cell_of_row _ _ 1 _ _ _ hc
  have c2 := cell_of_row _ _ 2 _ _ _ hc
  have c3 := cell_of_row _ _ 3 _ _ _ hc
  have c4 := cell_of_row _ _ 4 _ _ _ hc
  have c5 := cell_of_row _ _ 5 _ _ _ hc
  have c6 := cell_of_row _ _ 6 _ _ _ hc
  have c7 := cell_of_row _ _ 7 _ _ _ hc
  have cf := fun i => frozen_of_row _ _ i _ _ hc
  have d3 := cell_of_row _ _ 3 _ _ _ hd
  have HN := Lib.hid (HZ.out.2.2.trans (hn.trans n5))
  have HC := Lib.hid hc
  clear hb hc hd hn n5 hw5 hg
  go_rounds 4
  have hp := put8_facts (.string ⟨#[]⟩) (.int .i64 0) (.int .i64 0) .nilFunc .nilFunc .nilFunc .nilFunc .nilFunc HC.out
  refine bodyPost_ret (by simp [results, Tryz.results50, go_sem, c0, c1, c2, c3, c4, c5, c6, c7]; try rfl) rfl ?_
  exact ⟨rfl, hp.2.2.1 _ HN.out (by omega)⟩
set_option maxHeartbeats 2000000 in
theorem gin_f13 (k : Int) (q : W4) (hk : okK k = true) (hs : szK k = 1) (f1 : (q.b != 0#64) = false) (f2 : (q.c != 0#64) = false) (f3 : (q.d != 0#64) = true) (w : World) : Calls Tryz.prog 50 #[.agg (stc k q)] w fun e w' => e = .returned (.tuple #[.agg gzc, .int .i64 5]) ∧ New w w' := by
  have hz := two_blocksG w (.cells (stc k q) 38) (.cells gzc 87)
  have HZ := Lib.hid hz
  clear hz
  go_enter Tryz.func50, Tryz.ntmps50
  go_wp2_with fail
  refine (gen_of k _).mono ?_
  rintro e w' ⟨⟨cs, rfl, hv⟩, hn⟩
  obtain ⟨g, rfl, hg⟩ := hv.got hk
  rw [hk]
  have hsz : g.sz = 1 := hg.now.has.2.1.trans hs
  have HG := Lib.hid hg
  obtain ⟨nm, sz, csn, rf, sd, st, nx, jp⟩ := g
  simp at hsz
  subst hsz
  go_wp2_with fail
  generalize hw5 : World.alloc w' _ = w5
  have n5 : New w' w5 := by rw [← hw5]; exact (New.refl w').alloc _
  have hd : w5.heap[w'.heap.size]? = some (.cells #[.string nm, .int .i64 1, .int .i64 csn, .func (Fn.func rf) #[] #[], .func (Fn.func sd.1) #[] sd.2, .func (Fn.func st.1) #[] st.2, .func (Fn.func nx.1) #[] nx.2, .func (Fn.func jp.1) #[] jp.2] 87 (0, 0)) := by rw [← hw5]; exact heap_alloc_new _ _
  have hb := ((hn.trans n5).block _ (lt_of_block HZ.out.1)).trans HZ.out.1
  have hc := ((hn.trans n5).block _ (lt_of_block HZ.out.2.1)).trans HZ.out.2.1
  have k0 := cell_of_row _ _ 0 _ _ _ hb
  have k1 := cell_of_row _ _ 1 _ _ _ hb
  have k2 := cell_of_row _ _ 2 _ _ _ hb
  have k3 := cell_of_row _ _ 3 _ _ _ hb
  have k4 := cell_of_row _ _ 4 _ _ _ hb
  have c0 := cell_of_row _ _ 0 _ _ _ hc
  have c1 := cell_of_row _ _ 1 _ _ _ hc
  have c2 := cell_of_row _ _ 2 _ _ _ hc
  have c3 := cell_of_row _ _ 3 _ _ _ hc
  have c4 := cell_of_row _ _ 4 _ _ _ hc
  have c5 := cell_of_row _ _ 5 _ _ _ hc
  have c6 := cell_of_row _ _ 6 _ _ _ hc
  have c7 := cell_of_row _ _ 7 _ _ _ hc
  have cf := fun i => frozen_of_row _ _ i _ _ hc
  have d3 := cell_of_row _ _ 3 _ _ _ hd
  have HN := Lib.hid (HZ.out.2.2.trans (hn.trans n5))
  have HC := Lib.hid hc
  clear hb hc hd hn n5 hw5 hg
  go_rounds 4
  have hp := put8_facts (.string ⟨#[]⟩) (.int .i64 0) (.int .i64 0) .nilFunc .nilFunc .nilFunc .nilFunc .nilFunc HC.out
  refine bodyPost_ret (by simp [results, Tryz.results50, go_sem, c0, c1, c2, c3, c4, c5, c6, c7]; try rfl) rfl ?_
  exact ⟨rfl, hp.2.2.1 _ HN.out (by omega)⟩
set_option maxHeartbeats 2000000 in
theorem gin_f22 (k : Int) (q : W4) (hk : okK k = true) (hs : szK k = 2) (f2 : (q.c != 0#64) = true) (w : World) : Calls Tryz.prog 50 #[.agg (stc k q)] w fun e w' => e = .returned (.tuple #[.agg gzc, .int .i64 5]) ∧ New w w' := by
  have hz := two_blocksG w (.cells (stc k q) 38) (.cells gzc 87)
  have HZ := Lib.hid hz
  clear hz
  go_enter Tryz.func50, Tryz.ntmps50
  go_wp2_with fail
  refine (gen_of k _).mono ?_
  rintro e w' ⟨⟨cs, rfl, hv⟩, hn⟩
  obtain ⟨g, rfl, hg⟩ := hv.got hk
  rw [hk]
  have hsz : g.sz = 2 := hg.now.has.2.1.trans hs
  have HG := Lib.hid hg
  obtain ⟨nm, sz, csn, rf, sd, st, nx, jp⟩ := g
  simp at hsz
  subst hsz
  go_wp2_with fail
  generalize hw5 : World.alloc w' _ = w5
  have n5 : New w' w5 := by rw [← hw5]; exact (New.refl w').alloc _
  have hd : w5.heap[w'.heap.size]? = some (.cells #[.string nm, .int .i64 2, .int .i64 csn, .func (Fn.func rf) #[] #[], .func (Fn.func sd.1) #[] sd.2, .func (Fn.func st.1) #[] st.2, .func (Fn.func nx.1) #[] nx.2, .func (Fn.func jp.1) #[] jp.2] 87 (0, 0)) := by rw [← hw5]; exact heap_alloc_new _ _
  have hb := ((hn.trans n5).block _ (lt_of_block HZ.out.1)).trans HZ.out.1
  have hc := ((hn.trans n5).block _ (lt_of_block HZ.out.2.1)).trans HZ.out.2.1
  have k0 := cell_of_row _ _ 0 _ _ _ hb
  have k1 := cell_of_row _ _ 1 _ _ _ hb
  have k2 := cell_of_row _ _ 2 _ _ _ hb
  have k3 := cell_of_row _ _ 3 _ _ _ hb
  have k4 := cell_of_row _ _ 4 _ _ _ hb
  have c0 := cell_of_row _ _ 0 _ _ _ hc
  have c1 := cell_of_row _ _ 1 _ _ _ hc
  have c2 := cell_of_row _ _ 2 _ _ _ hc
  have c3 := cell_of_row _ _ 3 _ _ _ hc
  have c4 := cell_of_row _ _ 4 _ _ _ hc
  have c5 := cell_of_row _ _ 5 _ _ _ hc
  have c6 := cell_of_row _ _ 6 _ _ _ hc
  have c7 := cell_of_row _ _ 7 _ _ _ hc
  have cf := fun i => frozen_of_row _ _ i _ _ hc
  have d3 := cell_of_row _ _ 3 _ _ _ hd
  have HN := Lib.hid (HZ.out.2.2.trans (hn.trans n5))
  have HC := Lib.hid hc
  clear hb hc hd hn n5 hw5 hg
  go_rounds 4
  have hp := put8_facts (.string ⟨#[]⟩) (.int .i64 0) (.int .i64 0) .nilFunc .nilFunc .nilFunc .nilFunc .nilFunc HC.out
  refine bodyPost_ret (by simp [results, Tryz.results50, go_sem, c0, c1, c2, c3, c4, c5, c6, c7]; try rfl) rfl ?_
  exact ⟨rfl, hp.2.2.1 _ HN.out (by omega)⟩
set_option maxHeartbeats 2000000 in
theorem gin_f23 (k : Int) (q : W4) (hk : okK k = true) (hs : szK k = 2) (f2 : (q.c != 0#64) = false) (f3 : (q.d != 0#64) = true) (w : World) : Calls Tryz.prog 50 #[.agg (stc k q)] w fun e w' => e = .returned (.tuple #[.agg gzc, .int .i64 5]) ∧ New w w' := by
  have hz := two_blocksG w (.cells (stc k q) 38) (.cells gzc 87)
  have HZ := Lib.hid hz
  clear hz
  go_enter Tryz.func50, Tryz.ntmps50
  go_wp2_with fail
  refine (gen_of k _).mono ?_
  rintro e w' ⟨⟨cs, rfl, hv⟩, hn⟩
  obtain ⟨g, rfl, hg⟩ := hv.got hk
  rw [hk]
  have hsz : g.sz = 2 := hg.now.has.2.1.trans hs
  have HG := Lib.hid hg
  obtain ⟨nm, sz, csn, rf, sd, st, nx, jp⟩ := g
  simp at hsz
  subst hsz
  go_wp2_with fail
  generalize hw5 : World.alloc w' _ = w5
  have n5 : New w' w5 := by rw [← hw5]; exact (New.refl w').alloc _
  have hd : w5.heap[w'.heap.size]? = some (.cells #[.string nm, .int .i64 2, .int .i64 csn, .func (Fn.func rf) #[] #[], .func (Fn.func sd.1) #[] sd.2, .func (Fn.func st.1) #[] st.2, .func (Fn.func nx.1) #[] nx.2, .func (Fn.func jp.1) #[] jp.2] 87 (0, 0)) := by rw [← hw5]; exact heap_alloc_new _ _
  have hb := ((hn.trans n5).block _ (lt_of_block HZ.out.1)).trans HZ.out.1
  have hc := ((hn.trans n5).block _ (lt_of_block HZ.out.2.1)).trans HZ.out.2.1
  have k0 := cell_of_row _ _ 0 _ _ _ hb
  have k1 := cell_of_row _ _ 1 _ _ _ hb
  have k2 := cell_of_row _ _ 2 _ _ _ hb
  have k3 := cell_of_row _ _ 3 _ _ _ hb
  have k4 := cell_of_row _ _ 4 _ _ _ hb
  have c0 := cell_of_row _ _ 0 _ _ _ hc
  have c1 := cell_of_row _ _ 1 _ _ _ hc
  have c2 := cell_of_row _ _ 2 _ _ _ hc
  have c3 := cell_of_row _ _ 3 _ _ _ hc
  have c4 := cell_of_row _ _ 4 _ _ _ hc
  have c5 := cell_of_row _ _ 5 _ _ _ hc
  have c6 := cell_of_row _ _ 6 _ _ _ hc
  have c7 := cell_of_row _ _ 7 _ _ _ hc
  have cf := fun i => frozen_of_row _ _ i _ _ hc
  have d3 := cell_of_row _ _ 3 _ _ _ hd
  have HN := Lib.hid (HZ.out.2.2.trans (hn.trans n5))
  have HC := Lib.hid hc
  clear hb hc hd hn n5 hw5 hg
  go_rounds 4
  have hp := put8_facts (.string ⟨#[]⟩) (.int .i64 0) (.int .i64 0) .nilFunc .nilFunc .nilFunc .nilFunc .nilFunc HC.out
  refine bodyPost_ret (by simp [results, Tryz.results50, go_sem, c0, c1, c2, c3, c4, c5, c6, c7]; try rfl) rfl ?_
  exact ⟨rfl, hp.2.2.1 _ HN.out (by omega)⟩
end Go.Proofs.YthkmcnlciefnfaaGreat
namespace Go.Proofs.YthkmcnlciefnfaaGreat
open Go.RowKit Go.Bv
set_option linter.unusedVariables false
set_option maxRecDepth 100000 in
set_option maxHeartbeats 2000000 in
theorem gin_b1 (k : Int) (q : W4) (hk : okK k = true) (hs : szK k = 1) (f1 : (q.b != 0#64) = false) (f2 : (q.c != 0#64) = false) (f3 : (q.d != 0#64) = false) (hb : badK k q = true) (w : World) : Calls Tryz.prog 50 #[.agg (stc k q)] w fun e w' => e = .returned (.tuple #[.agg gzc, .int .i64 13]) ∧ New w w' := by
  have hz := two_blocksG w (.cells (stc k q) 38) (.cells gzc 87)
  have HZ := Lib.hid hz
  clear hz
  go_enter Tryz.func50, Tryz.ntmps50
  go_wp2_with fail
  refine (gen_of k _).mono ?_
  rintro e w' ⟨⟨cs, rfl, hv⟩, hn⟩
  obtain ⟨g, rfl, hg⟩ := hv.got hk
  rw [hk]
  have hsz : g.sz = 1 := hg.now.has.2.1.trans hs
  have HG := Lib.hid hg
  obtain ⟨nm, sz, csn, rf, sd, st, nx, jp⟩ := g
  simp at hsz
  subst hsz
  go_wp2_with fail
  generalize hw5 : World.alloc w' _ = w5
  have n5 : New w' w5 := by rw [← hw5]; exact (New.refl w').alloc _
  have hd : w5.heap[w'.heap.size]? = some (.cells #[.string nm, .int .i64 1, .int .i64 csn, .func (Fn.func rf) #[] #[], .func (Fn.func sd.1) #[] sd.2, .func (Fn.func st.1) #[] st.2, .func (Fn.func nx.1) #[] nx.2, .func (Fn.func jp.1) #[] jp.2] 87 (0, 0)) := by rw [← hw5]; exact heap_alloc_new _ _
  have hbx := ((hn.trans n5).block _ (lt_of_block HZ.out.1)).trans HZ.out.1
  have hc := ((hn.trans n5).block _ (lt_of_block HZ.out.2.1)).trans HZ.out.2.1
  have k0 := cell_of_row _ _ 0 _ _ _ hbx
  have k1 := cell_of_row _ _ 1 _ _ _ hbx
  have k2 := cell_of_row _ _ 2 _ _ _ hbx
  have k3 := cell_of_row _ _ 3 _ _ _ hbx
  have k4 := cell_of_row _ _ 4 _ _ _ hbx
  have c0 := cell_of_row _ _ 0 _ _ _ hc
  have c1 := cell_of_row _ _ 1 _ _ _ hc
  have c2 := cell_of_row _ _ 2 _ _ _ hc
  have c3 := cell_of_row _ _ 3 _ _ _ hc
  have c4 := cell_of_row _ _ 4 _ _ _ hc
  have c5 := cell_of_row _ _ 5 _ _ _ hc
  have c6 := cell_of_row _ _ 6 _ _ _ hc
  have c7 := cell_of_row _ _ 7 _ _ _ hc
  have cf := fun i => frozen_of_row _ _ i _ _ hc
  have d3 := cell_of_row _ _ 3 _ _ _ hd
  have HN := Lib.hid (HZ.out.2.2.trans (hn.trans n5))
  have HC := Lib.hid hc
  have HO := Lib.hid (hg.stay n5)
  have hent : ∀ (args : Array Value) (w : World), (callFunc rf args).run Tryz.prog w = .ok (.enter rf args) w := hg.now.ent.1
  have HD := Lib.hid hd
  clear hd hbx hc hn n5 hw5 hg
  go_rounds 4
  refine (bad_any HO.out.now q _).mono ?_
  rintro e w6 ⟨rfl, n6⟩
  rw [hb]
  clear k0 k1 k2 k3 k4 c0 c1 c2 c3 c4 c5 c6 c7 cf d3
  have hc := (n6.block _ (lt_of_block HC.out)).trans HC.out
  have c0 := cell_of_row _ _ 0 _ _ _ hc
  have c1 := cell_of_row _ _ 1 _ _ _ hc
  have c2 := cell_of_row _ _ 2 _ _ _ hc
  have c3 := cell_of_row _ _ 3 _ _ _ hc
  have c4 := cell_of_row _ _ 4 _ _ _ hc
  have c5 := cell_of_row _ _ 5 _ _ _ hc
  have c6 := cell_of_row _ _ 6 _ _ _ hc
  have c7 := cell_of_row _ _ 7 _ _ _ hc
  have cf := fun i => frozen_of_row _ _ i _ _ hc
  go_wp2_with fail
  have hp := put8_facts (.string ⟨#[]⟩) (.int .i64 0) (.int .i64 0) .nilFunc .nilFunc .nilFunc .nilFunc .nilFunc hc
  refine bodyPost_ret (by simp [results, Tryz.results50, go_sem, c0, c1, c2, c3, c4, c5, c6, c7]; try rfl) rfl ?_
  exact ⟨rfl, hp.2.2.1 _ (HN.out.trans n6) (by omega)⟩
set_option maxRecDepth 100000 in
set_option maxHeartbeats 2000000 in
theorem gin_g1 (k : Int) (q : W4) (hk : okK k = true) (hs : szK k = 1) (f1 : (q.b != 0#64) = false) (f2 : (q.c != 0#64) = false) (f3 : (q.d != 0#64) = false) (hb : badK k q = false) (w : World) : Calls Tryz.prog 50 #[.agg (stc k q)] w fun e w' => (∃ g : Gn, e = .returned (.tuple #[.agg g.cells, .int .i64 0]) ∧ Own w.heap.size w' k g) ∧ New w w' := by
  have hz := two_blocksG w (.cells (stc k q) 38) (.cells gzc 87)
  have HZ := Lib.hid hz
  clear hz
  go_enter Tryz.func50, Tryz.ntmps50
  go_wp2_with fail
  refine (gen_of k _).mono ?_
  rintro e w' ⟨⟨cs, rfl, hv⟩, hn⟩
  obtain ⟨g, rfl, hg⟩ := hv.got hk
  rw [hk]
  have hsz : g.sz = 1 := hg.now.has.2.1.trans hs
  have HG := Lib.hid hg
  obtain ⟨nm, sz, csn, rf, sd, st, nx, jp⟩ := g
  simp at hsz
  subst hsz
  go_wp2_with fail
  generalize hw5 : World.alloc w' _ = w5
  have n5 : New w' w5 := by rw [← hw5]; exact (New.refl w').alloc _
  have hd : w5.heap[w'.heap.size]? = some (.cells #[.string nm, .int .i64 1, .int .i64 csn, .func (Fn.func rf) #[] #[], .func (Fn.func sd.1) #[] sd.2, .func (Fn.func st.1) #[] st.2, .func (Fn.func nx.1) #[] nx.2, .func (Fn.func jp.1) #[] jp.2] 87 (0, 0)) := by rw [← hw5]; exact heap_alloc_new _ _
  have hbx := ((hn.trans n5).block _ (lt_of_block HZ.out.1)).trans HZ.out.1
  have hc := ((hn.trans n5).block _ (lt_of_block HZ.out.2.1)).trans HZ.out.2.1
  have k0 := cell_of_row _ _ 0 _ _ _ hbx
  have k1 := cell_of_row _ _ 1 _ _ _ hbx
  have k2 := cell_of_row _ _ 2 _ _ _ hbx
  have k3 := cell_of_row _ _ 3 _ _ _ hbx
  have k4 := cell_of_row _ _ 4 _ _ _ hbx
  have c0 := cell_of_row _ _ 0 _ _ _ hc
  have c1 := cell_of_row _ _ 1 _ _ _ hc
  have c2 := cell_of_row _ _ 2 _ _ _ hc
  have c3 := cell_of_row _ _ 3 _ _ _ hc
  have c4 := cell_of_row _ _ 4 _ _ _ hc
  have c5 := cell_of_row _ _ 5 _ _ _ hc
  have c6 := cell_of_row _ _ 6 _ _ _ hc
  have c7 := cell_of_row _ _ 7 _ _ _ hc
  have cf := fun i => frozen_of_row _ _ i _ _ hc
  have d3 := cell_of_row _ _ 3 _ _ _ hd
  have HN := Lib.hid (HZ.out.2.2.trans (hn.trans n5))
  have HC := Lib.hid hc
  have HO := Lib.hid (hg.stay n5)
  have hent : ∀ (args : Array Value) (w : World), (callFunc rf args).run Tryz.prog w = .ok (.enter rf args) w := hg.now.ent.1
  have HD := Lib.hid hd
  clear hd hbx hc hn n5 hw5 hg
  go_rounds 4
  refine (bad_any HO.out.now q _).mono ?_
  rintro e w6 ⟨rfl, n6⟩
  rw [hb]
  clear k0 k1 k2 k3 k4 c0 c1 c2 c3 c4 c5 c6 c7 cf d3
  have hc := (n6.block _ (lt_of_block HC.out)).trans HC.out
  have c0 := cell_of_row _ _ 0 _ _ _ hc
  have c1 := cell_of_row _ _ 1 _ _ _ hc
  have c2 := cell_of_row _ _ 2 _ _ _ hc
  have c3 := cell_of_row _ _ 3 _ _ _ hc
  have c4 := cell_of_row _ _ 4 _ _ _ hc
  have c5 := cell_of_row _ _ 5 _ _ _ hc
  have c6 := cell_of_row _ _ 6 _ _ _ hc
  have c7 := cell_of_row _ _ 7 _ _ _ hc
  have cf := fun i => frozen_of_row _ _ i _ _ hc
  have d0 := cell_of_row _ _ 0 _ _ _ ((n6.block _ (lt_of_block HD.out)).trans HD.out)
  have d1 := cell_of_row _ _ 1 _ _ _ ((n6.block _ (lt_of_block HD.out)).trans HD.out)
  have d2 := cell_of_row _ _ 2 _ _ _ ((n6.block _ (lt_of_block HD.out)).trans HD.out)
  have d3 := cell_of_row _ _ 3 _ _ _ ((n6.block _ (lt_of_block HD.out)).trans HD.out)
  have d4 := cell_of_row _ _ 4 _ _ _ ((n6.block _ (lt_of_block HD.out)).trans HD.out)
  have d5 := cell_of_row _ _ 5 _ _ _ ((n6.block _ (lt_of_block HD.out)).trans HD.out)
  have d6 := cell_of_row _ _ 6 _ _ _ ((n6.block _ (lt_of_block HD.out)).trans HD.out)
  have d7 := cell_of_row _ _ 7 _ _ _ ((n6.block _ (lt_of_block HD.out)).trans HD.out)
  go_wp2_with fail
  have hp := put8_facts (.string nm) (.int .i64 1) (.int .i64 csn) (.func (Fn.func rf) #[] #[]) (.func (Fn.func sd.1) #[] sd.2) (.func (Fn.func st.1) #[] st.2) (.func (Fn.func nx.1) #[] nx.2) (.func (Fn.func jp.1) #[] jp.2) hc
  refine bodyPost_ret (by simp [results, Tryz.results50, go_sem, c0, c1, c2, c3, c4, c5, c6, c7]; try rfl) rfl ?_
  refine ⟨⟨⟨nm, 1, csn, rf, sd, st, nx, jp⟩, rfl, ?_⟩, hp.2.2.1 _ (HN.out.trans n6) (by omega)⟩
  refine ((HO.out.stay n6).kept (Nat.le_of_eq hp.2.2.2.symm) fun j hj _ => hp.2.1 j ?_).le (by simp; omega)
  simp at hj; omega
set_option maxRecDepth 100000 in
set_option maxHeartbeats 2000000 in
theorem gin_b2 (k : Int) (q : W4) (hk : okK k = true) (hs : szK k = 2) (f2 : (q.c != 0#64) = false) (f3 : (q.d != 0#64) = false) (hb : badK k q = true) (w : World) : Calls Tryz.prog 50 #[.agg (stc k q)] w fun e w' => e = .returned (.tuple #[.agg gzc, .int .i64 13]) ∧ New w w' := by
  have hz := two_blocksG w (.cells (stc k q) 38) (.cells gzc 87)
  have HZ := Lib.hid hz
  clear hz
  go_enter Tryz.func50, Tryz.ntmps50
  go_wp2_with fail
  refine (gen_of k _).mono ?_
  rintro e w' ⟨⟨cs, rfl, hv⟩, hn⟩
  obtain ⟨g, rfl, hg⟩ := hv.got hk
  rw [hk]
  have hsz : g.sz = 2 := hg.now.has.2.1.trans hs
  have HG := Lib.hid hg
  obtain ⟨nm, sz, csn, rf, sd, st, nx, jp⟩ := g
  simp at hsz
  subst hsz
  go_wp2_with fail
  generalize hw5 : World.alloc w' _ = w5
  have n5 : New w' w5 := by rw [← hw5]; exact (New.refl w').alloc _
  have hd : w5.heap[w'.heap.size]? = some (.cells #[.string nm, .int .i64 2, .int .i64 csn, .func (Fn.func rf) #[] #[], .func (Fn.func sd.1) #[] sd.2, .func (Fn.func st.1) #[] st.2, .func (Fn.func nx.1) #[] nx.2, .func (Fn.func jp.1) #[] jp.2] 87 (0, 0)) := by rw [← hw5]; exact heap_alloc_new _ _
  have hbx := ((hn.trans n5).block _ (lt_of_block HZ.out.1)).trans HZ.out.1
  have hc := ((hn.trans n5).block _ (lt_of_block HZ.out.2.1)).trans HZ.out.2.1
  have k0 := cell_of_row _ _ 0 _ _ _ hbx
  have k1 := cell_of_row _ _ 1 _ _ _ hbx
  have k2 := cell_of_row _ _ 2 _ _ _ hbx
  have k3 := cell_of_row _ _ 3 _ _ _ hbx
  have k4 := cell_of_row _ _ 4 _ _ _ hbx
  have c0 := cell_of_row _ _ 0 _ _ _ hc
  have c1 := cell_of_row _ _ 1 _ _ _ hc
  have c2 := cell_of_row _ _ 2 _ _ _ hc
  have c3 := cell_of_row _ _ 3 _ _ _ hc
  have c4 := cell_of_row _ _ 4 _ _ _ hc
  have c5 := cell_of_row _ _ 5 _ _ _ hc
  have c6 := cell_of_row _ _ 6 _ _ _ hc
  have c7 := cell_of_row _ _ 7 _ _ _ hc
  have cf := fun i => frozen_of_row _ _ i _ _ hc
  have d3 := cell_of_row _ _ 3 _ _ _ hd
  have HN := Lib.hid (HZ.out.2.2.trans (hn.trans n5))
  have HC := Lib.hid hc
  have HO := Lib.hid (hg.stay n5)
  have hent : ∀ (args : Array Value) (w : World), (callFunc rf args).run Tryz.prog w = .ok (.enter rf args) w := hg.now.ent.1
  have HD := Lib.hid hd
  clear hd hbx hc hn n5 hw5 hg
  go_rounds 4
  refine (bad_any HO.out.now q _).mono ?_
  rintro e w6 ⟨rfl, n6⟩
  rw [hb]
  clear k0 k1 k2 k3 k4 c0 c1 c2 c3 c4 c5 c6 c7 cf d3
  have hc := (n6.block _ (lt_of_block HC.out)).trans HC.out
  have c0 := cell_of_row _ _ 0 _ _ _ hc
  have c1 := cell_of_row _ _ 1 _ _ _ hc
  have c2 := cell_of_row _ _ 2 _ _ _ hc
  have c3 := cell_of_row _ _ 3 _ _ _ hc
  have c4 := cell_of_row _ _ 4 _ _ _ hc
  have c5 := cell_of_row _ _ 5 _ _ _ hc
  have c6 := cell_of_row _ _ 6 _ _ _ hc
  have c7 := cell_of_row _ _ 7 _ _ _ hc
  have cf := fun i => frozen_of_row _ _ i _ _ hc
  go_wp2_with fail
  have hp := put8_facts (.string ⟨#[]⟩) (.int .i64 0) (.int .i64 0) .nilFunc .nilFunc .nilFunc .nilFunc .nilFunc hc
  refine bodyPost_ret (by simp [results, Tryz.results50, go_sem, c0, c1, c2, c3, c4, c5, c6, c7]; try rfl) rfl ?_
  exact ⟨rfl, hp.2.2.1 _ (HN.out.trans n6) (by omega)⟩
set_option maxRecDepth 100000 in
set_option maxHeartbeats 2000000 in
theorem gin_g2 (k : Int) (q : W4) (hk : okK k = true) (hs : szK k = 2) (f2 : (q.c != 0#64) = false) (f3 : (q.d != 0#64) = false) (hb : badK k q = false) (w : World) : Calls Tryz.prog 50 #[.agg (stc k q)] w fun e w' => (∃ g : Gn, e = .returned (.tuple #[.agg g.cells, .int .i64 0]) ∧ Own w.heap.size w' k g) ∧ New w w' := by
  have hz := two_blocksG w (.cells (stc k q) 38) (.cells gzc 87)
  have HZ := Lib.hid hz
  clear hz
  go_enter Tryz.func50, Tryz.ntmps50
  go_wp2_with fail
  refine (gen_of k _).mono ?_
  rintro e w' ⟨⟨cs, rfl, hv⟩, hn⟩
  obtain ⟨g, rfl, hg⟩ := hv.got hk
  rw [hk]
  have hsz : g.sz = 2 := hg.now.has.2.1.trans hs
  have HG := Lib.hid hg
  obtain ⟨nm, sz, csn, rf, sd, st, nx, jp⟩ := g
  simp at hsz
  subst hsz
  go_wp2_with fail
  generalize hw5 : World.alloc w' _ = w5
  have n5 : New w' w5 := by rw [← hw5]; exact (New.refl w').alloc _
  have hd : w5.heap[w'.heap.size]? = some (.cells #[.string nm, .int .i64 2, .int .i64 csn, .func (Fn.func rf) #[] #[], .func (Fn.func sd.1) #[] sd.2, .func (Fn.func st.1) #[] st.2, .func (Fn.func nx.1) #[] nx.2, .func (Fn.func jp.1) #[] jp.2] 87 (0, 0)) := by rw [← hw5]; exact heap_alloc_new _ _
  have hbx := ((hn.trans n5).block _ (lt_of_block HZ.out.1)).trans HZ.out.1
  have hc := ((hn.trans n5).block _ (lt_of_block HZ.out.2.1)).trans HZ.out.2.1
  have k0 := cell_of_row _ _ 0 _ _ _ hbx
  have k1 := cell_of_row _ _ 1 _ _ _ hbx
  have k2 := cell_of_row _ _ 2 _ _ _ hbx
  have k3 := cell_of_row _ _ 3 _ _ _ hbx
  have k4 := cell_of_row _ _ 4 _ _ _ hbx
  have c0 := cell_of_row _ _ 0 _ _ _ hc
  have c1 := cell_of_row _ _ 1 _ _ _ hc
  have c2 := cell_of_row _ _ 2 _ _ _ hc
  have c3 := cell_of_row _ _ 3 _ _ _ hc
  have c4 := cell_of_row _ _ 4 _ _ _ hc
  have c5 := cell_of_row _ _ 5 _ _ _ hc
  have c6 := cell_of_row _ _ 6 _ _ _ hc
  have c7 := cell_of_row _ _ 7 _ _ _ hc
  have cf := fun i => frozen_of_row _ _ i _ _ hc
  have d3 := cell_of_row _ _ 3 _ _ _ hd
  have HN := Lib.hid (HZ.out.2.2.trans (hn.trans n5))
  have HC := Lib.hid hc
  have HO := Lib.hid (hg.stay n5)
  have hent : ∀ (args : Array Value) (w : World), (callFunc rf args).run Tryz.prog w = .ok (.enter rf args) w := hg.now.ent.1
  have HD := Lib.hid hd
  clear hd hbx hc hn n5 hw5 hg
  go_rounds 4
  refine (bad_any HO.out.now q _).mono ?_
  rintro e w6 ⟨rfl, n6⟩
  rw [hb]
  clear k0 k1 k2 k3 k4 c0 c1 c2 c3 c4 c5 c6 c7 cf d3
  have hc := (n6.block _ (lt_of_block HC.out)).trans HC.out
  have c0 := cell_of_row _ _ 0 _ _ _ hc
  have c1 := cell_of_row _ _ 1 _ _ _ hc
  have c2 := cell_of_row _ _ 2 _ _ _ hc
  have c3 := cell_of_row _ _ 3 _ _ _ hc
  have c4 := cell_of_row _ _ 4 _ _ _ hc
  have c5 := cell_of_row _ _ 5 _ _ _ hc
  have c6 := cell_of_row _ _ 6 _ _ _ hc
  have c7 := cell_of_row _ _ 7 _ _ _ hc
  have cf := fun i => frozen_of_row _ _ i _ _ hc
  have d0 := cell_of_row _ _ 0 _ _ _ ((n6.block _ (lt_of_block HD.out)).trans HD.out)
  have d1 := cell_of_row _ _ 1 _ _ _ ((n6.block _ (lt_of_block HD.out)).trans HD.out)
  have d2 := cell_of_row _ _ 2 _ _ _ ((n6.block _ (lt_of_block HD.out)).trans HD.out)
  have d3 := cell_of_row _ _ 3 _ _ _ ((n6.block _ (lt_of_block HD.out)).trans HD.out)
  have d4 := cell_of_row _ _ 4 _ _ _ ((n6.block _ (lt_of_block HD.out)).trans HD.out)
  have d5 := cell_of_row _ _ 5 _ _ _ ((n6.block _ (lt_of_block HD.out)).trans HD.out)
  have d6 := cell_of_row _ _ 6 _ _ _ ((n6.block _ (lt_of_block HD.out)).trans HD.out)
  have d7 := cell_of_row _ _ 7 _ _ _ ((n6.block _ (lt_of_block HD.out)).trans HD.out)
  go_wp2_with fail
  have hp := put8_facts (.string nm) (.int .i64 2) (.int .i64 csn) (.func (Fn.func rf) #[] #[]) (.func (Fn.func sd.1) #[] sd.2) (.func (Fn.func st.1) #[] st.2) (.func (Fn.func nx.1) #[] nx.2) (.func (Fn.func jp.1) #[] jp.2) hc
  refine bodyPost_ret (by simp [results, Tryz.results50, go_sem, c0, c1, c2, c3, c4, c5, c6, c7]; try rfl) rfl ?_
  refine ⟨⟨⟨nm, 2, csn, rf, sd, st, nx, jp⟩, rfl, ?_⟩, hp.2.2.1 _ (HN.out.trans n6) (by omega)⟩
  refine ((HO.out.stay n6).kept (Nat.le_of_eq hp.2.2.2.symm) fun j hj _ => hp.2.1 j ?_).le (by simp; omega)
  simp at hj; omega
set_option maxRecDepth 100000 in
set_option maxHeartbeats 2000000 in
theorem gin_b4 (k : Int) (q : W4) (hk : okK k = true) (hs : szK k = 4) (hb : badK k q = true) (w : World) : Calls Tryz.prog 50 #[.agg (stc k q)] w fun e w' => e = .returned (.tuple #[.agg gzc, .int .i64 13]) ∧ New w w' := by
  have hz := two_blocksG w (.cells (stc k q) 38) (.cells gzc 87)
  have HZ := Lib.hid hz
  clear hz
  go_enter Tryz.func50, Tryz.ntmps50
  go_wp2_with fail
  refine (gen_of k _).mono ?_
  rintro e w' ⟨⟨cs, rfl, hv⟩, hn⟩
  obtain ⟨g, rfl, hg⟩ := hv.got hk
  rw [hk]
  have hsz : g.sz = 4 := hg.now.has.2.1.trans hs
  have HG := Lib.hid hg
  obtain ⟨nm, sz, csn, rf, sd, st, nx, jp⟩ := g
  simp at hsz
  subst hsz
  go_wp2_with fail
  generalize hw5 : World.alloc w' _ = w5
  have n5 : New w' w5 := by rw [← hw5]; exact (New.refl w').alloc _
  have hd : w5.heap[w'.heap.size]? = some (.cells #[.string nm, .int .i64 4, .int .i64 csn, .func (Fn.func rf) #[] #[], .func (Fn.func sd.1) #[] sd.2, .func (Fn.func st.1) #[] st.2, .func (Fn.func nx.1) #[] nx.2, .func (Fn.func jp.1) #[] jp.2] 87 (0, 0)) := by rw [← hw5]; exact heap_alloc_new _ _
  have hbx := ((hn.trans n5).block _ (lt_of_block HZ.out.1)).trans HZ.out.1
  have hc := ((hn.trans n5).block _ (lt_of_block HZ.out.2.1)).trans HZ.out.2.1
  have k0 := cell_of_row _ _ 0 _ _ _ hbx
  have k1 := cell_of_row _ _ 1 _ _ _ hbx
  have k2 := cell_of_row _ _ 2 _ _ _ hbx
  have k3 := cell_of_row _ _ 3 _ _ _ hbx
  have k4 := cell_of_row _ _ 4 _ _ _ hbx
  have c0 := cell_of_row _ _ 0 _ _ _ hc
  have c1 := cell_of_row _ _ 1 _ _ _ hc
  have c2 := cell_of_row _ _ 2 _ _ _ hc
  have c3 := cell_of_row _ _ 3 _ _ _ hc
  have c4 := cell_of_row _ _ 4 _ _ _ hc
  have c5 := cell_of_row _ _ 5 _ _ _ hc
  have c6 := cell_of_row _ _ 6 _ _ _ hc
  have c7 := cell_of_row _ _ 7 _ _ _ hc
  have cf := fun i => frozen_of_row _ _ i _ _ hc
  have d3 := cell_of_row _ _ 3 _ _ _ hd
  have HN := Lib.hid (HZ.out.2.2.trans (hn.trans n5))
  have HC := Lib.hid hc
  have HO := Lib.hid (hg.stay n5)
  have hent : ∀ (args : Array Value) (w : World), (callFunc rf args).run Tryz.prog w = .ok (.enter rf args) w := hg.now.ent.1
  have HD := Lib.hid hd
  clear hd hbx hc hn n5 hw5 hg
  go_rounds 4
  refine (bad_any HO.out.now q _).mono ?_
  rintro e w6 ⟨rfl, n6⟩
  rw [hb]
  clear k0 k1 k2 k3 k4 c0 c1 c2 c3 c4 c5 c6 c7 cf d3
  have hc := (n6.block _ (lt_of_block HC.out)).trans HC.out
  have c0 := cell_of_row _ _ 0 _ _ _ hc
  have c1 := cell_of_row _ _ 1 _ _ _ hc
  have c2 := cell_of_row _ _ 2 _ _ _ hc
  have c3 := cell_of_row _ _ 3 _ _ _ hc
  have c4 := cell_of_row _ _ 4 _ _ _ hc
  have c5 := cell_of_row _ _ 5 _ _ _ hc
  have c6 := cell_of_row _ _ 6 _ _ _ hc
  have c7 := cell_of_row _ _ 7 _ _ _ hc
  have cf := fun i => frozen_of_row _ _ i _ _ hc
  go_wp2_with fail
  have hp := put8_facts (.string ⟨#[]⟩) (.int .i64 0) (.int .i64 0) .nilFunc .nilFunc .nilFunc .nilFunc .nilFunc hc
  refine bodyPost_ret (by simp [results, Tryz.results50, go_sem, c0, c1, c2, c3, c4, c5, c6, c7]; try rfl) rfl ?_
  exact ⟨rfl, hp.2.2.1 _ (HN.out.trans n6) (by omega)⟩
set_option maxRecDepth 100000 in
set_option maxHeartbeats 2000000 in
theorem gin_g4 (k : Int) (q : W4) (hk : okK k = true) (hs : szK k = 4) (hb : badK k q = false) (w : World) : Calls Tryz.prog 50 #[.agg (stc k q)] w fun e w' => (∃ g : Gn, e = .returned (.tuple #[.agg g.cells, .int .i64 0]) ∧ Own w.heap.size w' k g) ∧ New w w' := by
  have hz := two_blocksG w (.cells (stc k q) 38) (.cells gzc 87)
  have HZ := Lib.hid hz
  clear hz
  go_enter Tryz.func50, Tryz.ntmps50
  go_wp2_with fail
  refine (gen_of k _).mono ?_
  rintro e w' ⟨⟨cs, rfl, hv⟩, hn⟩
  obtain ⟨g, rfl, hg⟩ := hv.got hk
  rw [hk]
  have hsz : g.sz = 4 := hg.now.has.2.1.trans hs
  have HG := Lib.hid hg
  obtain ⟨nm, sz, csn, rf, sd, st, nx, jp⟩ := g
  simp at hsz
  subst hsz
  go_wp2_with fail
  generalize hw5 : World.alloc w' _ = w5
  have n5 : New w' w5 := by rw [← hw5]; exact (New.refl w').alloc _
  have hd : w5.heap[w'.heap.size]? = some (.cells #[.string nm, .int .i64 4, .int .i64 csn, .func (Fn.func rf) #[] #[], .func (Fn.func sd.1) #[] sd.2, .func (Fn.func st.1) #[] st.2, .func (Fn.func nx.1) #[] nx.2, .func (Fn.func jp.1) #[] jp.2] 87 (0, 0)) := by rw [← hw5]; exact heap_alloc_new _ _
  have hbx := ((hn.trans n5).block _ (lt_of_block HZ.out.1)).trans HZ.out.1
  have hc := ((hn.trans n5).block _ (lt_of_block HZ.out.2.1)).trans HZ.out.2.1
  have k0 := cell_of_row _ _ 0 _ _ _ hbx
  have k1 := cell_of_row _ _ 1 _ _ _ hbx
  have k2 := cell_of_row _ _ 2 _ _ _ hbx
  have k3 := cell_of_row _ _ 3 _ _ _ hbx
  have k4 := cell_of_row _ _ 4 _ _ _ hbx
  have c0 := cell_of_row _ _ 0 _ _ _ hc
  have c1 := cell_of_row _ _ 1 _ _ _ hc
  have c2 := cell_of_row _ _ 2 _ _ _ hc
  have c3 := cell_of_row _ _ 3 _ _ _ hc
  have c4 := cell_of_row _ _ 4 _ _ _ hc
  have c5 := cell_of_row _ _ 5 _ _ _ hc
  have c6 := cell_of_row _ _ 6 _ _ _ hc
  have c7 := cell_of_row _ _ 7 _ _ _ hc
  have cf := fun i => frozen_of_row _ _ i _ _ hc
  have d3 := cell_of_row _ _ 3 _ _ _ hd
  have HN := Lib.hid (HZ.out.2.2.trans (hn.trans n5))
  have HC := Lib.hid hc
  have HO := Lib.hid (hg.stay n5)
  have hent : ∀ (args : Array Value) (w : World), (callFunc rf args).run Tryz.prog w = .ok (.enter rf args) w := hg.now.ent.1
  have HD := Lib.hid hd
  clear hd hbx hc hn n5 hw5 hg
  go_rounds 4
  refine (bad_any HO.out.now q _).mono ?_
  rintro e w6 ⟨rfl, n6⟩
  rw [hb]
  clear k0 k1 k2 k3 k4 c0 c1 c2 c3 c4 c5 c6 c7 cf d3
  have hc := (n6.block _ (lt_of_block HC.out)).trans HC.out
  have c0 := cell_of_row _ _ 0 _ _ _ hc
  have c1 := cell_of_row _ _ 1 _ _ _ hc
  have c2 := cell_of_row _ _ 2 _ _ _ hc
  have c3 := cell_of_row _ _ 3 _ _ _ hc
  have c4 := cell_of_row _ _ 4 _ _ _ hc
  have c5 := cell_of_row _ _ 5 _ _ _ hc
  have c6 := cell_of_row _ _ 6 _ _ _ hc
  have c7 := cell_of_row _ _ 7 _ _ _ hc
  have cf := fun i => frozen_of_row _ _ i _ _ hc
  have d0 := cell_of_row _ _ 0 _ _ _ ((n6.block _ (lt_of_block HD.out)).trans HD.out)
  have d1 := cell_of_row _ _ 1 _ _ _ ((n6.block _ (lt_of_block HD.out)).trans HD.out)
  have d2 := cell_of_row _ _ 2 _ _ _ ((n6.block _ (lt_of_block HD.out)).trans HD.out)
  have d3 := cell_of_row _ _ 3 _ _ _ ((n6.block _ (lt_of_block HD.out)).trans HD.out)
  have d4 := cell_of_row _ _ 4 _ _ _ ((n6.block _ (lt_of_block HD.out)).trans HD.out)
  have d5 := cell_of_row _ _ 5 _ _ _ ((n6.block _ (lt_of_block HD.out)).trans HD.out)
  have d6 := cell_of_row _ _ 6 _ _ _ ((n6.block _ (lt_of_block HD.out)).trans HD.out)
  have d7 := cell_of_row _ _ 7 _ _ _ ((n6.block _ (lt_of_block HD.out)).trans HD.out)
  go_wp2_with fail
  have hp := put8_facts (.string nm) (.int .i64 4) (.int .i64 csn) (.func (Fn.func rf) #[] #[]) (.func (Fn.func sd.1) #[] sd.2) (.func (Fn.func st.1) #[] st.2) (.func (Fn.func nx.1) #[] nx.2) (.func (Fn.func jp.1) #[] jp.2) hc
  refine bodyPost_ret (by simp [results, Tryz.results50, go_sem, c0, c1, c2, c3, c4, c5, c6, c7]; try rfl) rfl ?_
  refine ⟨⟨⟨nm, 4, csn, rf, sd, st, nx, jp⟩, rfl, ?_⟩, hp.2.2.1 _ (HN.out.trans n6) (by omega)⟩
  refine ((HO.out.stay n6).kept (Nat.le_of_eq hp.2.2.2.symm) fun j hj _ => hp.2.1 j ?_).le (by simp; omega)
  simp at hj; omega
set_option maxHeartbeats 2000000 in
theorem gin_0 (k : Int) (q : W4) (hk : okK k = false) (w : World) : Calls Tryz.prog 50 #[.agg (stc k q)] w fun e w' => e = .returned (.tuple #[.agg gzc, .int .i64 6]) ∧ New w w' := by
  have hz := two_blocksG w (.cells (stc k q) 38) (.cells gzc 87)
  have HZ := Lib.hid hz
  clear hz
  go_enter Tryz.func50, Tryz.ntmps50
  go_wp2_with fail
  refine (gen_of k _).mono ?_
  rintro e w' ⟨⟨cs, rfl, hv⟩, hn⟩
  have hc : cs = gzc := by
    rcases hv with ⟨h, _⟩ | ⟨_, h⟩
    · rw [hk] at h; cases h
    · exact h
  subst hc
  rw [hk]
  have n5 : New w' (w'.alloc (.cells #[.string ⟨#[]⟩, .int .i64 0, .int .i64 0, .nilFunc, .nilFunc, .nilFunc, .nilFunc, .nilFunc] 87)) := (New.refl w').alloc _
  have hc := ((hn.trans n5).block _ (lt_of_block HZ.out.2.1)).trans HZ.out.2.1
  have c0 := cell_of_row _ _ 0 _ _ _ hc
  have c1 := cell_of_row _ _ 1 _ _ _ hc
  have c2 := cell_of_row _ _ 2 _ _ _ hc
  have c3 := cell_of_row _ _ 3 _ _ _ hc
  have c4 := cell_of_row _ _ 4 _ _ _ hc
  have c5 := cell_of_row _ _ 5 _ _ _ hc
  have c6 := cell_of_row _ _ 6 _ _ _ hc
  have c7 := cell_of_row _ _ 7 _ _ _ hc
  have cf := fun i => frozen_of_row _ _ i _ _ hc
  have HN := Lib.hid (HZ.out.2.2.trans (hn.trans n5))
  have HC := Lib.hid hc
  clear hc hn hv n5
  go_wp2_with fail
  have hp := put8_facts (.string ⟨#[]⟩) (.int .i64 0) (.int .i64 0) .nilFunc .nilFunc .nilFunc .nilFunc .nilFunc HC.out
  refine bodyPost_ret (by simp [results, Tryz.results50, go_sem, c0, c1, c2, c3, c4, c5, c6, c7]; try rfl) rfl ?_
  exact ⟨rfl, hp.2.2.1 _ HN.out (by omega)⟩
/-- words beyond a kind's are 0 -/
def formK (k : Int) (q : W4) : Bool := if szK k = 4 then false else if szK k = 2 then (q.c != 0#64 || q.d != 0#64) else (q.b != 0#64 || (q.c != 0#64 || q.d != 0#64))
/-- what is wrong with a state -/
def chkK (k : Int) (q : W4) : Int := if okK k = false then 6 else if formK k q then 5 else if badK k q then 13 else 0
theorem sz_cases {k : Int} (h : okK k = true) : szK k = 1 ∨ szK k = 2 ∨ szK k = 4 := by
  unfold okK at h; simp at h
  have h8 : k = 1 ∨ k = 2 ∨ k = 3 ∨ k = 4 ∨ k = 5 ∨ k = 6 ∨ k = 7 ∨ k = 8 := by omega
  rcases h8 with rfl | rfl | rfl | rfl | rfl | rfl | rfl | rfl <;> decide
theorem gin_any (k : Int) (q : W4) (w : World) : Calls Tryz.prog 50 #[.agg (stc k q)] w fun e w' =>
    (∃ cs, e = .returned (.tuple #[.agg cs, .int .i64 (chkK k q)]) ∧ (chkK k q = 0 ∧ (∃ g : Gn, cs = g.cells ∧ Own w.heap.size w' k g) ∨ ¬ chkK k q = 0 ∧ cs = gzc)) ∧ New w w' := by
  rcases hk : okK k
  · have e : chkK k q = 6 := by unfold chkK; rw [if_pos hk]
    rw [e]
    exact (gin_0 k q hk w).mono fun _ _ ⟨h, hn⟩ => ⟨⟨_, h, Or.inr ⟨by omega, rfl⟩⟩, hn⟩
  · have e1 : chkK k q = if formK k q then 5 else if badK k q then 13 else 0 := by unfold chkK; rw [if_neg (by rw [hk]; decide)]
    rcases hf : formK k q
    · have e2 : chkK k q = if badK k q then 13 else 0 := by rw [e1, hf]; rfl
      rcases hb : badK k q
      · have e : chkK k q = 0 := by rw [e2, hb]; rfl
        rw [e]
        rcases sz_cases hk with hs | hs | hs
        · simp [formK, hs] at hf
          exact (gin_g1 k q hk hs (by simp [hf.1]) (by simp [hf.2.1]) (by simp [hf.2.2]) hb w).mono fun _ _ ⟨⟨g, h, ho⟩, hn⟩ => ⟨⟨_, h, Or.inl ⟨rfl, g, rfl, ho⟩⟩, hn⟩
        · simp [formK, hs] at hf
          exact (gin_g2 k q hk hs (by simp [hf.1]) (by simp [hf.2]) hb w).mono fun _ _ ⟨⟨g, h, ho⟩, hn⟩ => ⟨⟨_, h, Or.inl ⟨rfl, g, rfl, ho⟩⟩, hn⟩
        · exact (gin_g4 k q hk hs hb w).mono fun _ _ ⟨⟨g, h, ho⟩, hn⟩ => ⟨⟨_, h, Or.inl ⟨rfl, g, rfl, ho⟩⟩, hn⟩
      · have e : chkK k q = 13 := by rw [e2, hb]; rfl
        rw [e]
        rcases sz_cases hk with hs | hs | hs
        · simp [formK, hs] at hf
          exact (gin_b1 k q hk hs (by simp [hf.1]) (by simp [hf.2.1]) (by simp [hf.2.2]) hb w).mono fun _ _ ⟨h, hn⟩ => ⟨⟨_, h, Or.inr ⟨by omega, rfl⟩⟩, hn⟩
        · simp [formK, hs] at hf
          exact (gin_b2 k q hk hs (by simp [hf.1]) (by simp [hf.2]) hb w).mono fun _ _ ⟨h, hn⟩ => ⟨⟨_, h, Or.inr ⟨by omega, rfl⟩⟩, hn⟩
        · exact (gin_b4 k q hk hs hb w).mono fun _ _ ⟨h, hn⟩ => ⟨⟨_, h, Or.inr ⟨by omega, rfl⟩⟩, hn⟩
    · have e : chkK k q = 5 := by rw [e1, hf]; rfl
      rw [e]
      rcases sz_cases hk with hs | hs | hs
      · simp only [formK, hs] at hf
        rcases h1 : (q.b != 0#64) <;> rcases h2 : (q.c != 0#64) <;> rcases h3 : (q.d != 0#64)
        · simp [h1, h2, h3] at hf
        · exact (gin_f13 k q hk hs h1 h2 h3 w).mono fun _ _ ⟨h, hn⟩ => ⟨⟨_, h, Or.inr ⟨by omega, rfl⟩⟩, hn⟩
        all_goals first
          | exact (gin_f12 k q hk hs h1 h2 w).mono fun _ _ ⟨h, hn⟩ => ⟨⟨_, h, Or.inr ⟨by omega, rfl⟩⟩, hn⟩
          | exact (gin_f11 k q hk hs h1 w).mono fun _ _ ⟨h, hn⟩ => ⟨⟨_, h, Or.inr ⟨by omega, rfl⟩⟩, hn⟩
      · simp only [formK, hs] at hf
        rcases h2 : (q.c != 0#64) <;> rcases h3 : (q.d != 0#64)
        · simp [h2, h3] at hf
        · exact (gin_f23 k q hk hs h2 h3 w).mono fun _ _ ⟨h, hn⟩ => ⟨⟨_, h, Or.inr ⟨by omega, rfl⟩⟩, hn⟩
        all_goals exact (gin_f22 k q hk hs h2 w).mono fun _ _ ⟨h, hn⟩ => ⟨⟨_, h, Or.inr ⟨by omega, rfl⟩⟩, hn⟩
      · simp [formK, hs] at hf
end Go.Proofs.YthkmcnlciefnfaaGreat
