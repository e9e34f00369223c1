/- All generators, by their kinds: generatorIn. -/
import Derived.Test.YtfaobdmoifnglaaGreatGsB
import Derived.Test.YtfaobdmoifnglaaGreatGsC
namespace Go.Proofs.YtfaobdmoifnglaaGreat
open Go.RowKit Go.Bv
set_option linter.unusedVariables false
abbrev stc (k : Int) (q : W4) : Array Value := #[.int .i64 k, .int .u64 (W64 q.a), .int .u64 (W64 q.b), .int .u64 (W64 q.c), .int .u64 (W64 q.d)]
/-- the functions are Go's: a call enters them -/
def Ent (f : Nat) : Prop := ∀ (args : Array Value) (w : World), (callFunc f args).run Tryz.prog w = .ok (.enter f args) w
theorem IsGen.ent {w : World} {k : Int} {g : Gn} (h : IsGen w k g) : Ent g.rf ∧ Ent g.sd.1 ∧ Ent g.st.1 ∧ Ent g.nx.1 ∧ Ent g.jp.1 := by
  cases h <;> exact ⟨fun _ _ => by kernel_rfl, fun _ _ => by kernel_rfl, fun _ _ => by kernel_rfl, fun _ _ => by kernel_rfl, fun _ _ => by kernel_rfl⟩
theorem GenV.got {n : Nat} {w : World} {k : Int} {cs : Array Value} (h : GenV n w k cs) (hk : okK k = true) : ∃ g : Gn, cs = g.cells ∧ Own n w k g := by
  rcases h with h | ⟨h, _⟩
  · exact h.2
  · rw [hk] at h; cases h
theorem two_blocksG (w : World) (A B : Obj) : ((w.alloc A).alloc B).heap[w.heap.size]? = some A ∧ ((w.alloc A).alloc B).heap[w.heap.size + 1]? = some B ∧ New w ((w.alloc A).alloc B) := by
  have e1 : (w.alloc A).heap.size = w.heap.size + 1 := by simp
  refine ⟨?_, ?_, ((New.refl w).alloc _).alloc _⟩
  · rw [((New.refl (w.alloc A)).alloc B).block _ (by rw [e1]; omega)]; exact heap_alloc_new _ _
  · rw [← e1]; exact heap_alloc_new _ _
set_option maxHeartbeats 2000000 in
theorem gin_f11 (k : Int) (q : W4) (hk : okK k = true) (hs : szK k = 1) (f1 : (q.b != 0#64) = true) (w : World) : Calls Tryz.prog 29 #[.agg (stc k q)] w fun e w' => e = .returned (.tuple #[.agg gzc, .int .i64 5]) ∧ New w w' := by
  have hz := two_blocksG w (.cells (stc k q) 25) (.cells gzc 62)
  have HZ := Lib.hid hz
  clear hz
  go_enter Tryz.func29, Tryz.ntmps29
  go_wp2_with fail
  refine (gen_of k _).mono ?_
  rintro e w' ⟨⟨cs, rfl, hv⟩, hn⟩
  obtain ⟨g, rfl, hg⟩ := hv.got hk
  rw [hk]
  have hsz : g.sz = 1 := hg.now.has.2.1.trans hs
  have HG := Lib.hid hg
  obtain ⟨nm, sz, csn, rf, sd, st, nx, jp⟩ := g
  simp at hsz
  subst hsz
  go_wp2_with fail
  generalize hw5 : World.alloc w' _ = w5
  have n5 : New w' w5 := by rw [← hw5]; exact (New.refl w').alloc _
  have hd : w5.heap[w'.heap.size]? = some (.cells #[.string nm, .int .i64 1, .int .i64 csn, .func (Fn.func rf) #[] #[], .func (Fn.func sd.1) #[] sd.2, .func (Fn.func st.1) #[] st.2, .func (Fn.func nx.1) #[] nx.2, .func (Fn.func jp.1) #[] jp.2] 62 (0, 0)) := by rw [← hw5]; exact heap_alloc_new _ _
  have hb := ((hn.trans n5).block _ (lt_of_block HZ.out.1)).trans HZ.out.1
  have hc := ((hn.trans n5).block _ (lt_of_block HZ.out.2.1)).trans HZ.out.2.1
  have k0 := cell_of_row _ _ 0 _ _ _ hb
  have k1 := cell_of_row _ _ 1 _ _ _ hb
  have k2 := cell_of_row _ _ 2 _ _ _ hb
  have k3 := cell_of_row _ _ 3 _ _ _ hb
  have k4 := cell_of_row _ _ 4 _ _ _ hb
  have c0 := cell_of_row _ _ 0 _ _ _ hc
  have c1 := cell_of_row _ _ 1 _ _ _ hc
  have c2 := cell_of_row _ _ 2 _ _ _ hc
  have c3 := cell_of_row _ _ 3 _ _ _ hc
  have c4 := cell_of_row _ _ 4 _ _ _ hc
  have c5 := cell_of_row _ _ 5 _ _ _ hc
  have c6 := cell_of_row _ _ 6 _ _ _ hc
  have c7 := cell_of_row _ _ 7 _ _ _ hc
  have cf := fun i => frozen_of_row _ _ i _ _ hc
  have d3 := cell_of_row _ _ 3 _ _ _ hd
  have HN := Lib.hid (HZ.out.2.2.trans (hn.trans n5))
  have HC := Lib.hid hc
  clear hb hc hd hn n5 hw5 hg
  go_rounds 4
  have hp := put8_facts (.string ⟨#[]⟩) (.int .i64 0) (.int .i64 0) .nilFunc .nilFunc .nilFunc .nilFunc .nilFunc HC.out
  refine bodyPost_ret (by simp [results, Tryz.results29, go_sem, c0, c1, c2, c3, c4, c5, c6, c7]; try rfl) rfl ?_
  exact ⟨rfl, hp.2.2.1 _ HN.out (by omega)⟩
set_option maxHeartbeats 2000000 in
theorem gin_f12 (k : Int) (q : W4) (hk : okK k = true) (hs : szK k = 1) (f1 : (q.b != 0#64) = false) (f2 : (q.c != 0#64) = true) (w : World) : Calls Tryz.prog 29 #[.agg (stc k q)] w fun e w' => e = .returned (.tuple #[.agg gzc, .int .i64 5]) ∧ New w w' := by
  have hz := two_blocksG w (.cells (stc k q) 25) (.cells gzc 62)
  have HZ := Lib.hid hz
  clear hz
  go_enter Tryz.func29, Tryz.ntmps29
  go_wp2_with fail
  refine (gen_of k _).mono ?_
  rintro e w' ⟨⟨cs, rfl, hv⟩, hn⟩
  obtain ⟨g, rfl, hg⟩ := hv.got hk
  rw [hk]
  have hsz : g.sz = 1 := hg.now.has.2.1.trans hs
  have HG := Lib.hid hg
  obtain ⟨nm, sz, csn, rf, sd, st, nx, jp⟩ := g
  simp at hsz
  subst hsz
  go_wp2_with fail
  generalize hw5 : World.alloc w' _ = w5
  have n5 : New w' w5 := by rw [← hw5]; exact (New.refl w').alloc _
  have hd : w5.heap[w'.heap.size]? = some (.cells #[.string nm, .int .i64 1, .int .i64 csn, .func (Fn.func rf) #[] #[], .func (Fn.func sd.1) #[] sd.2, .func (Fn.func st.1) #[] st.2, .func (Fn.func nx.1) #[] nx.2, .func (Fn.func jp.1) #[] jp.2] 62 (0, 0)) := by rw [← hw5]; exact heap_alloc_new _ _
  have hb := ((hn.trans n5).block _ (lt_of_block HZ.out.1)).trans HZ.out.1
  have hc := ((hn.trans n5).block _ (lt_of_block HZ.out.2.1)).trans HZ.out.2.1
  have k0 := cell_of_row _ _ 0 _ _ _ hb
  have k1 := cell_of_row _ _ 1 _ _ _ hb
  have k2 := cell_of_row _ _ 2 _ _ _ hb
  have k3 := cell_of_row _ _ 3 _ _ _ hb
  have k4 := cell_of_row _ _ 4 _ _ _ hb
  have c0 := cell_of_row _ _ 0 _ _ _ hc
  have c1 := cell_of_row _ _ 1 _ _ _ hc
  have c2 := cell_of_row _ _ 2 _ _ _ hc
  have c3 := cell_of_row _ _ 3 _ _ _ hc
  have c4 := cell_of_row _ _ 4 _ _ _ hc
  have c5 := cell_of_row _ _ 5 _ _ _ hc
  have c6 := cell_of_row _ _ 6 _ _ _ hc
  have c7 := cell_of_row _ _ 7 _ _ _ hc
  have cf := fun i => frozen_of_row _ _ i _ _ hc
  have d3 := cell_of_row _ _ 3 _ _ _ hd
  have HN := Lib.hid (HZ.out.2.2.trans (hn.trans n5))
  have HC := Lib.hid hc
  clear hb hc hd hn n5 hw5 hg
  go_rounds 4
  have hp := put8_facts (.string ⟨#[]⟩) (.int .i64 0) (.int .i64 0) .nilFunc .nilFunc .nilFunc .nilFunc .nilFunc HC.out
  refine bodyPost_ret (by simp [results, Tryz.results29, go_sem, c0, c1, c2, c3, c4, c5, c6, c7]; try rfl) rfl ?_
  exact ⟨rfl, hp.2.2.1 _ HN.out (by omega)⟩
set_option maxHeartbeats 2000000 in
theorem gin_f13 (k : Int) (q : W4) (hk : okK k = true) (hs : szK k = 1) (f1 : (q.b != 0#64) = false) (f2 : (q.c != 0#64) = false) (f3 : (q.d != 0#64) = true) (w : World) : Calls Tryz.prog 29 #[.agg (stc k q)] w fun e w' => e = .returned (.tuple #[.agg gzc, .int .i64 5]) ∧ New w w' := by
  have hz := two_blocksG w (.cells (stc k q) 25) (.cells gzc 62)
  have HZ := Lib.hid hz
  clear hz
  go_enter Tryz.func29, Tryz.ntmps29
  go_wp2_with fail
  refine (gen_of k _).mono ?_
  rintro e w' ⟨⟨cs, rfl, hv⟩, hn⟩
  obtain ⟨g, rfl, hg⟩ := hv.got hk
  rw [hk]
  have hsz : g.sz = 1 := hg.now.has.2.1.trans hs
  have HG := Lib.hid hg
  obtain ⟨nm, sz, csn, rf, sd, st, nx, jp⟩ := g
  simp at hsz
  subst hsz
  go_wp2_with fail
  generalize hw5 : World.alloc w' _ = w5
  have n5 : New w' w5 := by rw [← hw5]; exact (New.refl w').alloc _
  have hd : w5.heap[w'.heap.size]? = some (.cells #[.string nm, .int .i64 1, .int .i64 csn, .func (Fn.func rf) #[] #[], .func (Fn.func sd.1) #[] sd.2, .func (Fn.func st.1) #[] st.2, .func (Fn.func nx.1) #[] nx.2, .func (Fn.func jp.1) #[] jp.2] 62 (0, 0)) := by rw [← hw5]; exact heap_alloc_new _ _
  have hb := ((hn.trans n5).block _ (lt_of_block HZ.out.1)).trans HZ.out.1
  have hc := ((hn.trans n5).block _ (lt_of_block HZ.out.2.1)).trans HZ.out.2.1
  have k0 := cell_of_row _ _ 0 _ _ _ hb
  have k1 := cell_of_row _ _ 1 _ _ _ hb
  have k2 := cell_of_row _ _ 2 _ _ _ hb
  have k3 := cell_of_row _ _ 3 _ _ _ hb
  have k4 := cell_of_row _ _ 4 _ _ _ hb
  have c0 := cell_of_row _ _ 0 _ _ _ hc
  have c1 := cell_of_row _ _ 1 _ _ _ hc
  have c2 := cell_of_row _ _ 2 _ _ _ hc
  have c3 := cell_of_row _ _ 3 _ _ _ hc
  have c4 := cell_of_row _ _ 4 _ _ _ hc
  have c5 := cell_of_row _ _ 5 _ _ _ hc
  have c6 := cell_of_row _ _ 6 _ _ _ hc
  have c7 := cell_of_row _ _ 7 _ _ _ hc
  have cf := fun i => frozen_of_row _ _ i _ _ hc
  have d3 := cell_of_row _ _ 3 _ _ _ hd
  have HN := Lib.hid (HZ.out.2.2.trans (hn.trans n5))
  have HC := Lib.hid hc
  clear hb hc hd hn n5 hw5 hg
  go_rounds 4
  have hp := put8_facts (.string ⟨#[]⟩) (.int .i64 0) (.int .i64 0) .nilFunc .nilFunc .nilFunc .nilFunc .nilFunc HC.out
  refine bodyPost_ret (by simp [results, Tryz.results29, go_sem, c0, c1, c2, c3, c4, c5, c6, c7]; try rfl) rfl ?_
  exact ⟨rfl, hp.2.2.1 _ HN.out (by omega)⟩
set_option maxHeartbeats 2000000 in
theorem gin_f22 (k : Int) (q : W4) (hk : okK k = true) (hs : szK k = 2) (f2 : (q.c != 0#64) = true) (w : World) : Calls Tryz.prog 29 #[.agg (stc k q)] w fun e w' => e = .returned (.tuple #[.agg gzc, .int .i64 5]) ∧ New w w' := by
  have hz := two_blocksG w (.cells (stc k q) 25) (.cells gzc 62)
  have HZ := Lib.hid hz
  clear hz
  go_enter Tryz.func29, Tryz.ntmps29
  go_wp2_with fail
  refine (gen_of k _).mono ?_
  rintro e w' ⟨⟨cs, rfl, hv⟩, hn⟩
  obtain ⟨g, rfl, hg⟩ := hv.got hk
  rw [hk]
  have hsz : g.sz = 2 := hg.now.has.2.1.trans hs
  have HG := Lib.hid hg
  obtain ⟨nm, sz, csn, rf, sd, st, nx, jp⟩ := g
  simp at hsz
  subst hsz
  go_wp2_with fail
  generalize hw5 : World.alloc w' _ = w5
  have n5 : New w' w5 := by rw [← hw5]; exact (New.refl w').alloc _
  have hd : w5.heap[w'.heap.size]? = some (.cells #[.string nm, .int .i64 2, .int .i64 csn, .func (Fn.func rf) #[] #[], .func (Fn.func sd.1) #[] sd.2, .func (Fn.func st.1) #[] st.2, .func (Fn.func nx.1) #[] nx.2, .func (Fn.func jp.1) #[] jp.2] 62 (0, 0)) := by rw [← hw5]; exact heap_alloc_new _ _
  have hb := ((hn.trans n5).block _ (lt_of_block HZ.out.1)).trans HZ.out.1
  have hc := ((hn.trans n5).block _ (lt_of_block HZ.out.2.1)).trans HZ.out.2.1
  have k0 := cell_of_row _ _ 0 _ _ _ hb
  have k1 := cell_of_row _ _ 1 _ _ _ hb
  have k2 := cell_of_row _ _ 2 _ _ _ hb
  have k3 := cell_of_row _ _ 3 _ _ _ hb
  have k4 := cell_of_row _ _ 4 _ _ _ hb
  have c0 := cell_of_row _ _ 0 _ _ _ hc
  have c1 := cell_of_row _ _ 1 _ _ _ hc
  have c2 := cell_of_row _ _ 2 _ _ _ hc
  have c3 := cell_of_row _ _ 3 _ _ _ hc
  have c4 := cell_of_row _ _ 4 _ _ _ hc
  have c5 := cell_of_row _ _ 5 _ _ _ hc
  have c6 := cell_of_row _ _ 6 _ _ _ hc
  have c7 := cell_of_row _ _ 7 _ _ _ hc
  have cf := fun i => frozen_of_row _ _ i _ _ hc
  have d3 := cell_of_row _ _ 3 _ _ _ hd
  have HN := Lib.hid (HZ.out.2.2.trans (hn.trans n5))
  have HC := Lib.hid hc
  clear hb hc hd hn n5 hw5 hg
  go_rounds 4
  have hp := put8_facts (.string ⟨#[]⟩) (.int .i64 0) (.int .i64 0) .nilFunc .nilFunc .nilFunc .nilFunc .nilFunc HC.out
  refine bodyPost_ret (by simp [results, Tryz.results29, go_sem, c0, c1, c2, c3, c4, c5, c6, c7]; try rfl) rfl ?_
  exact ⟨rfl, hp.2.2.1 _ HN.out (by omega)⟩
set_option maxHeartbeats 2000000 in
theorem gin_f23 (k : Int) (q : W4) (hk : okK k = true) (hs : szK k = 2) (f2 : (q.c != 0#64) = false) (f3 : (q.d != 0#64) = true) (w : World) : Calls Tryz.prog 29 #[.agg (stc k q)] w fun e w' => e = .returned (.tuple #[.agg gzc, .int .i64 5]) ∧ New w w' := by
  have hz := two_blocksG w (.cells (stc k q) 25) (.cells gzc 62)
  have HZ := Lib.hid hz
  clear hz
  go_enter Tryz.func29, Tryz.ntmps29
  go_wp2_with fail
  refine (gen_of k _).mono ?_
  rintro e w' ⟨⟨cs, rfl, hv⟩, hn⟩
  obtain ⟨g, rfl, hg⟩ := hv.got hk
  rw [hk]
  have hsz : g.sz = 2 := hg.now.has.2.1.trans hs
  have HG := Lib.hid hg
  obtain ⟨nm, sz, csn, rf, sd, st, nx, jp⟩ := g
  simp at hsz
  subst hsz
  go_wp2_with fail
  generalize hw5 : World.alloc w' _ = w5
  have n5 : New w' w5 := by rw [← hw5]; exact (New.refl w').alloc _
  have hd : w5.heap[w'.heap.size]? = some (.cells #[.string nm, .int .i64 2, .int .i64 csn, .func (Fn.func rf) #[] #[], .func (Fn.func sd.1) #[] sd.2, .func (Fn.func st.1) #[] st.2, .func (Fn.func nx.1) #[] nx.2, .func (Fn.func jp.1) #[] jp.2] 62 (0, 0)) := by rw [← hw5]; exact heap_alloc_new _ _
  have hb := ((hn.trans n5).block _ (lt_of_block HZ.out.1)).trans HZ.out.1
  have hc := ((hn.trans n5).block _ (lt_of_block HZ.out.2.1)).trans HZ.out.2.1
  have k0 := cell_of_row _ _ 0 _ _ _ hb
  have k1 := cell_of_row _ _ 1 _ _ _ hb
  have k2 := cell_of_row _ _ 2 _ _ _ hb
  have k3 := cell_of_row _ _ 3 _ _ _ hb
  have k4 := cell_of_row _ _ 4 _ _ _ hb
  have c0 := cell_of_row _ _ 0 _ _ _ hc
  have c1 := cell_of_row _ _ 1 _ _ _ hc
  have c2 := cell_of_row _ _ 2 _ _ _ hc
  have c3 := cell_of_row _ _ 3 _ _ _ hc
  have c4 := cell_of_row _ _ 4 _ _ _ hc
  have c5 := cell_of_row _ _ 5 _ _ _ hc
  have c6 := cell_of_row _ _ 6 _ _ _ hc
  have c7 := cell_of_row _ _ 7 _ _ _ hc
  have cf := fun i => frozen_of_row _ _ i _ _ hc
  have d3 := cell_of_row _ _ 3 _ _ _ hd
  have HN := Lib.hid (HZ.out.2.2.trans (hn.trans n5))
  have HC := Lib.hid hc
  clear hb hc hd hn n5 hw5 hg
  go_rounds 4
  have hp := put8_facts (.string ⟨#[]⟩) (.int .i64 0) (.int .i64 0) .nilFunc .nilFunc .nilFunc .nilFunc .nilFunc HC.out
  refine bodyPost_ret (by simp [results, Tryz.results29, go_sem, c0, c1, c2, c3, c4, c5, c6, c7]; try rfl) rfl ?_
  exact ⟨rfl, hp.2.2.1 _ HN.out (by omega)⟩
end Go.Proofs.YtfaobdmoifnglaaGreat
