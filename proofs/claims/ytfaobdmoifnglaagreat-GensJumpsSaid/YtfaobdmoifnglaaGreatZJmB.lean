import Derived.Test.YtfaobdmoifnglaaGreatZJmA
/- All generators: Jump of any state. -/
namespace Go.Proofs.YtfaobdmoifnglaaGreat
open Go.RowKit Go.Bv Go.G2
set_option linter.unusedVariables false
set_option maxRecDepth 100000
set_option maxHeartbeats 8000000 in
theorem jump_of (k : Int) (q q' : W4) (a0 a1 a2 a3 : BitVec 64) (hk : chkK k q = 0) (hs : JpC k q q' a0 a1 a2 a3) (w : World) : Calls Tryz.prog 25 #[.agg (stc k q), .agg (uc a0 a1 a2 a3)] w fun e w' => e = .returned (.tuple #[.agg (stc k q'), .int .i64 0]) ∧ New w w' := by
  have hz := three_blocks w (.cells (stc k q) 25) (.cells (uc a0 a1 a2 a3) 49) (.cells zst 25)
  have HZ := Lib.hid hz
  clear hz
  go_enter Tryz.func25, Tryz.ntmps25
  go_wp2_with fail
  refine (gin_any k q _).mono ?_
  rintro e w' ⟨⟨cs, rfl, hv⟩, hn⟩
  obtain ⟨g, rfl, hg⟩ : ∃ g : Gn, cs = g.cells ∧ Own (((w.alloc (.cells (stc k q) 25)).alloc (.cells (uc a0 a1 a2 a3) 49)).alloc (.cells zst 25)).heap.size w' k g := by
    rcases hv with h | h
    · exact h.2
    · exact absurd hk h.1
  rw [hk]
  have hI := hg.now
  have HO := Lib.hid hg
  have HXX := Lib.hid ((hn.block _ (lt_of_block HZ.out.1)).trans HZ.out.1)
  have HUU := Lib.hid ((hn.block _ (lt_of_block HZ.out.2.1)).trans HZ.out.2.1)
  have HYY := Lib.hid ((hn.block _ (lt_of_block HZ.out.2.2.1)).trans HZ.out.2.2.1)
  have HNN := Lib.hid (HZ.out.2.2.2.trans hn)
  clear hg hv hn HZ
  cases hI with
  | split b h =>
    have hq := heap_alloc_new w' (.cells #[.string (nmK 1), .int .i64 1, .int .i64 1, .func (Fn.func 60) #[] #[], .func (Fn.func 61) #[] #[], .func (Fn.func 62) #[] #[ptv b], .func (Fn.func 58) #[] #[], .func (Fn.func 63) #[] #[]] 62)
    have n5 : New w' (w'.alloc (.cells #[.string (nmK 1), .int .i64 1, .int .i64 1, .func (Fn.func 60) #[] #[], .func (Fn.func 61) #[] #[], .func (Fn.func 62) #[] #[ptv b], .func (Fn.func 58) #[] #[], .func (Fn.func 63) #[] #[]] 62)) := (New.refl w').alloc _
    have hx := (n5.block _ (lt_of_block HXX.out)).trans HXX.out
    have hu := (n5.block _ (lt_of_block HUU.out)).trans HUU.out
    have hy := (n5.block _ (lt_of_block HYY.out)).trans HYY.out
    have hne : w'.heap.size ≠ w.heap.size + 1 + 1 := by have := lt_of_block HYY.out; omega
    have hcon : ∀ w2, New (w'.alloc (.cells #[.string (nmK 1), .int .i64 1, .int .i64 1, .func (Fn.func 60) #[] #[], .func (Fn.func 61) #[] #[], .func (Fn.func 62) #[] #[ptv b], .func (Fn.func 58) #[] #[], .func (Fn.func 63) #[] #[]] 62)) w2 → Calls Tryz.prog 63 #[.agg q.cells, .agg (uc a0 a1 a2 a3)] w2 fun e w3 => e = .returned (.agg q'.cells) ∧ New w2 w3 := fun w2 h2 => hs w2 _ ((HO.out.stay n5).stay h2).now
    go_wp2_with fail
    generalize hw5 : World.alloc w' _ = w5 at *
    generalize hgb : w'.heap.size = gb at *
    have HQ := Lib.hid hq
    have HX := Lib.hid hx
    have HU := Lib.hid hu
    have HY := Lib.hid hy
    have HNE := Lib.hid hne
    have HCON := Lib.hid hcon
    have HN3 := Lib.hid (HNN.out.trans n5)
    clear hq hx hu hy hne hcon n5 hw5 hgb HO HXX HYY HUU HNN
    have SK : Hid (∀ w', Kb w5 (w.heap.size + 1 + 1) w' → Kb w5 (w.heap.size + 1 + 1) w' ∧ w'.cell? ⟨w.heap.size, 0, none⟩ = some (.int .i64 1) ∧ w'.cell? ⟨gb, 7, none⟩ = some (.func (Fn.func 63) #[] #[]) ∧ w'.cell? ⟨w.heap.size, 1, none⟩ = some (.int .u64 (W64 q.a)) ∧ w'.cell? ⟨w.heap.size, 2, none⟩ = some (.int .u64 (W64 q.b)) ∧ w'.cell? ⟨w.heap.size, 3, none⟩ = some (.int .u64 (W64 q.c)) ∧ w'.cell? ⟨w.heap.size, 4, none⟩ = some (.int .u64 (W64 q.d)) ∧ w'.cell? ⟨w.heap.size + 1, 0, none⟩ = some (.int .u64 (W64 a0)) ∧ w'.cell? ⟨w.heap.size + 1, 1, none⟩ = some (.int .u64 (W64 a1)) ∧ w'.cell? ⟨w.heap.size + 1, 2, none⟩ = some (.int .u64 (W64 a2)) ∧ w'.cell? ⟨w.heap.size + 1, 3, none⟩ = some (.int .u64 (W64 a3))) := Lib.hid (fun w' hn => ⟨hn, cell_of_row _ _ 0 _ _ _ (hn.block HX.out (by omega)), cell_of_row _ _ 7 _ _ _ (hn.block HQ.out (HNE.out)), cell_of_row _ _ 1 _ _ _ (hn.block HX.out (by omega)), cell_of_row _ _ 2 _ _ _ (hn.block HX.out (by omega)), cell_of_row _ _ 3 _ _ _ (hn.block HX.out (by omega)), cell_of_row _ _ 4 _ _ _ (hn.block HX.out (by omega)), cell_of_row _ _ 0 _ _ _ (hn.block HU.out (by omega)), cell_of_row _ _ 1 _ _ _ (hn.block HU.out (by omega)), cell_of_row _ _ 2 _ _ _ (hn.block HU.out (by omega)), cell_of_row _ _ 3 _ _ _ (hn.block HU.out (by omega))⟩)
    obtain ⟨_, ce0, ce1, ce2, ce3, ce4, ce5, ce6, ce7, ce8, ce9⟩ := SK.out w5 (Kb.refl _ _)
    go_region_held3 (fun w' => Kb w5 (w.heap.size + 1 + 1) w' ∧ w'.cell? ⟨w.heap.size, 0, none⟩ = some (.int .i64 1) ∧ w'.cell? ⟨gb, 7, none⟩ = some (.func (Fn.func 63) #[] #[]) ∧ w'.cell? ⟨w.heap.size, 1, none⟩ = some (.int .u64 (W64 q.a)) ∧ w'.cell? ⟨w.heap.size, 2, none⟩ = some (.int .u64 (W64 q.b)) ∧ w'.cell? ⟨w.heap.size, 3, none⟩ = some (.int .u64 (W64 q.c)) ∧ w'.cell? ⟨w.heap.size, 4, none⟩ = some (.int .u64 (W64 q.d)) ∧ w'.cell? ⟨w.heap.size + 1, 0, none⟩ = some (.int .u64 (W64 a0)) ∧ w'.cell? ⟨w.heap.size + 1, 1, none⟩ = some (.int .u64 (W64 a1)) ∧ w'.cell? ⟨w.heap.size + 1, 2, none⟩ = some (.int .u64 (W64 a2)) ∧ w'.cell? ⟨w.heap.size + 1, 3, none⟩ = some (.int .u64 (W64 a3)))
      ((refine SK.out _ ?_; repeat (first | with_reducible assumption | with_reducible exact Kb.refl _ _ | with_reducible refine Kb.drew ?_ | with_reducible refine Kb.set ?_ _ _)))
      (first
      | (go_at_call 63
         refine (HCON.out _ (by first | with_reducible exact (New.refl _).drew | with_reducible exact New.refl _ | with_reducible assumption | with_reducible exact New.drew (by with_reducible assumption))).mono ?_
         rintro e q0 ⟨rfl, hc0⟩
         have hg0 : New w5 q0 := by first | with_reducible exact (New.refl w5).drew.trans hc0 | with_reducible exact hc0
         have hw1 : Kb w5 (w.heap.size + 1 + 1) q0 := (Kb.refl _ _).new hg0
         have hz0 := (hg0.block _ (lt_of_block HY.out)).trans HY.out
         have d0 := cell_of_row _ _ 0 _ _ _ hz0
         have d1 := cell_of_row _ _ 1 _ _ _ hz0
         have d2 := cell_of_row _ _ 2 _ _ _ hz0
         have d3 := cell_of_row _ _ 3 _ _ _ hz0
         have d4 := cell_of_row _ _ 4 _ _ _ hz0
         have df := fun i => frozen_of_row _ _ i _ _ hz0
         have HG := Lib.hid (HN3.out.trans hg0)
         clear hz0
         clear hc0))
    all_goals
      go_wp2
      refine bodyPost_ret (by simp [results, Tryz.results25, go_sem, d0, d1, d2, d3, d4]; try rfl) rfl ?_
      first | exact ⟨rfl, ((((((((((HG.out).setCell (by show w.heap.size ≤ w.heap.size + 1 + 1; omega) _)).setCell (by show w.heap.size ≤ w.heap.size + 1 + 1; omega) _)).setCell (by show w.heap.size ≤ w.heap.size + 1 + 1; omega) _)).setCell (by show w.heap.size ≤ w.heap.size + 1 + 1; omega) _)).setCell (by show w.heap.size ≤ w.heap.size + 1 + 1; omega) _)⟩ | exact ⟨rfl, (((((((((((HG.out).setCell (by show w.heap.size ≤ w.heap.size + 1 + 1; omega) _)).setCell (by show w.heap.size ≤ w.heap.size + 1 + 1; omega) _)).setCell (by show w.heap.size ≤ w.heap.size + 1 + 1; omega) _)).setCell (by show w.heap.size ≤ w.heap.size + 1 + 1; omega) _)).setCell (by show w.heap.size ≤ w.heap.size + 1 + 1; omega) _)).drew⟩
  | xosh k hk2 b h =>
    have hq := heap_alloc_new w' (.cells #[.string (nmK k), .int .i64 4, .int .i64 1, .func (Fn.func 68) #[] #[], .func (Fn.func 69) #[] #[], .func (Fn.func 71) #[] #[], .func (Fn.func 72) #[] #[ptv b], .func (Fn.func 73) #[] #[]] 62)
    have n5 : New w' (w'.alloc (.cells #[.string (nmK k), .int .i64 4, .int .i64 1, .func (Fn.func 68) #[] #[], .func (Fn.func 69) #[] #[], .func (Fn.func 71) #[] #[], .func (Fn.func 72) #[] #[ptv b], .func (Fn.func 73) #[] #[]] 62)) := (New.refl w').alloc _
    have hx := (n5.block _ (lt_of_block HXX.out)).trans HXX.out
    have hu := (n5.block _ (lt_of_block HUU.out)).trans HUU.out
    have hy := (n5.block _ (lt_of_block HYY.out)).trans HYY.out
    have hne : w'.heap.size ≠ w.heap.size + 1 + 1 := by have := lt_of_block HYY.out; omega
    have hcon : ∀ w2, New (w'.alloc (.cells #[.string (nmK k), .int .i64 4, .int .i64 1, .func (Fn.func 68) #[] #[], .func (Fn.func 69) #[] #[], .func (Fn.func 71) #[] #[], .func (Fn.func 72) #[] #[ptv b], .func (Fn.func 73) #[] #[]] 62)) w2 → Calls Tryz.prog 73 #[.agg q.cells, .agg (uc a0 a1 a2 a3)] w2 fun e w3 => e = .returned (.agg q'.cells) ∧ New w2 w3 := fun w2 h2 => hs w2 _ ((HO.out.stay n5).stay h2).now
    go_wp2_with fail
    generalize hw5 : World.alloc w' _ = w5 at *
    generalize hgb : w'.heap.size = gb at *
    have HQ := Lib.hid hq
    have HX := Lib.hid hx
    have HU := Lib.hid hu
    have HY := Lib.hid hy
    have HNE := Lib.hid hne
    have HCON := Lib.hid hcon
    have HN3 := Lib.hid (HNN.out.trans n5)
    clear hq hx hu hy hne hcon n5 hw5 hgb HO HXX HYY HUU HNN
    have SK : Hid (∀ w', Kb w5 (w.heap.size + 1 + 1) w' → Kb w5 (w.heap.size + 1 + 1) w' ∧ w'.cell? ⟨w.heap.size, 0, none⟩ = some (.int .i64 k) ∧ w'.cell? ⟨gb, 7, none⟩ = some (.func (Fn.func 73) #[] #[]) ∧ w'.cell? ⟨w.heap.size, 1, none⟩ = some (.int .u64 (W64 q.a)) ∧ w'.cell? ⟨w.heap.size, 2, none⟩ = some (.int .u64 (W64 q.b)) ∧ w'.cell? ⟨w.heap.size, 3, none⟩ = some (.int .u64 (W64 q.c)) ∧ w'.cell? ⟨w.heap.size, 4, none⟩ = some (.int .u64 (W64 q.d)) ∧ w'.cell? ⟨w.heap.size + 1, 0, none⟩ = some (.int .u64 (W64 a0)) ∧ w'.cell? ⟨w.heap.size + 1, 1, none⟩ = some (.int .u64 (W64 a1)) ∧ w'.cell? ⟨w.heap.size + 1, 2, none⟩ = some (.int .u64 (W64 a2)) ∧ w'.cell? ⟨w.heap.size + 1, 3, none⟩ = some (.int .u64 (W64 a3))) := Lib.hid (fun w' hn => ⟨hn, cell_of_row _ _ 0 _ _ _ (hn.block HX.out (by omega)), cell_of_row _ _ 7 _ _ _ (hn.block HQ.out (HNE.out)), cell_of_row _ _ 1 _ _ _ (hn.block HX.out (by omega)), cell_of_row _ _ 2 _ _ _ (hn.block HX.out (by omega)), cell_of_row _ _ 3 _ _ _ (hn.block HX.out (by omega)), cell_of_row _ _ 4 _ _ _ (hn.block HX.out (by omega)), cell_of_row _ _ 0 _ _ _ (hn.block HU.out (by omega)), cell_of_row _ _ 1 _ _ _ (hn.block HU.out (by omega)), cell_of_row _ _ 2 _ _ _ (hn.block HU.out (by omega)), cell_of_row _ _ 3 _ _ _ (hn.block HU.out (by omega))⟩)
    obtain ⟨_, ce0, ce1, ce2, ce3, ce4, ce5, ce6, ce7, ce8, ce9⟩ := SK.out w5 (Kb.refl _ _)
    go_region_held3 (fun w' => Kb w5 (w.heap.size + 1 + 1) w' ∧ w'.cell? ⟨w.heap.size, 0, none⟩ = some (.int .i64 k) ∧ w'.cell? ⟨gb, 7, none⟩ = some (.func (Fn.func 73) #[] #[]) ∧ w'.cell? ⟨w.heap.size, 1, none⟩ = some (.int .u64 (W64 q.a)) ∧ w'.cell? ⟨w.heap.size, 2, none⟩ = some (.int .u64 (W64 q.b)) ∧ w'.cell? ⟨w.heap.size, 3, none⟩ = some (.int .u64 (W64 q.c)) ∧ w'.cell? ⟨w.heap.size, 4, none⟩ = some (.int .u64 (W64 q.d)) ∧ w'.cell? ⟨w.heap.size + 1, 0, none⟩ = some (.int .u64 (W64 a0)) ∧ w'.cell? ⟨w.heap.size + 1, 1, none⟩ = some (.int .u64 (W64 a1)) ∧ w'.cell? ⟨w.heap.size + 1, 2, none⟩ = some (.int .u64 (W64 a2)) ∧ w'.cell? ⟨w.heap.size + 1, 3, none⟩ = some (.int .u64 (W64 a3)))
      ((refine SK.out _ ?_; repeat (first | with_reducible assumption | with_reducible exact Kb.refl _ _ | with_reducible refine Kb.drew ?_ | with_reducible refine Kb.set ?_ _ _)))
      (first
      | (go_at_call 73
         refine (HCON.out _ (by first | with_reducible exact (New.refl _).drew | with_reducible exact New.refl _ | with_reducible assumption | with_reducible exact New.drew (by with_reducible assumption))).mono ?_
         rintro e q0 ⟨rfl, hc0⟩
         have hg0 : New w5 q0 := by first | with_reducible exact (New.refl w5).drew.trans hc0 | with_reducible exact hc0
         have hw1 : Kb w5 (w.heap.size + 1 + 1) q0 := (Kb.refl _ _).new hg0
         have hz0 := (hg0.block _ (lt_of_block HY.out)).trans HY.out
         have d0 := cell_of_row _ _ 0 _ _ _ hz0
         have d1 := cell_of_row _ _ 1 _ _ _ hz0
         have d2 := cell_of_row _ _ 2 _ _ _ hz0
         have d3 := cell_of_row _ _ 3 _ _ _ hz0
         have d4 := cell_of_row _ _ 4 _ _ _ hz0
         have df := fun i => frozen_of_row _ _ i _ _ hz0
         have HG := Lib.hid (HN3.out.trans hg0)
         clear hz0
         clear hc0))
    all_goals
      go_wp2
      refine bodyPost_ret (by simp [results, Tryz.results25, go_sem, d0, d1, d2, d3, d4]; try rfl) rfl ?_
      first | exact ⟨rfl, ((((((((((HG.out).setCell (by show w.heap.size ≤ w.heap.size + 1 + 1; omega) _)).setCell (by show w.heap.size ≤ w.heap.size + 1 + 1; omega) _)).setCell (by show w.heap.size ≤ w.heap.size + 1 + 1; omega) _)).setCell (by show w.heap.size ≤ w.heap.size + 1 + 1; omega) _)).setCell (by show w.heap.size ≤ w.heap.size + 1 + 1; omega) _)⟩ | exact ⟨rfl, (((((((((((HG.out).setCell (by show w.heap.size ≤ w.heap.size + 1 + 1; omega) _)).setCell (by show w.heap.size ≤ w.heap.size + 1 + 1; omega) _)).setCell (by show w.heap.size ≤ w.heap.size + 1 + 1; omega) _)).setCell (by show w.heap.size ≤ w.heap.size + 1 + 1; omega) _)).setCell (by show w.heap.size ≤ w.heap.size + 1 + 1; omega) _)).drew⟩
  | xoro k hk2 b b4 b5 b6 h h4 h5 h6 =>
    have hq := heap_alloc_new w' (.cells #[.string (nmK k), .int .i64 2, .int .i64 1, .func (Fn.func 68) #[] #[], .func (Fn.func 78) #[] #[ptv b5], .func (Fn.func 76) #[] #[ptv b5, ptv b, ptv b4], .func (Fn.func 80) #[] #[ptv b, ptv b4, ptv b6], .func (Fn.func 82) #[] #[ptv b5, ptv b, ptv b4]] 62)
    have n5 : New w' (w'.alloc (.cells #[.string (nmK k), .int .i64 2, .int .i64 1, .func (Fn.func 68) #[] #[], .func (Fn.func 78) #[] #[ptv b5], .func (Fn.func 76) #[] #[ptv b5, ptv b, ptv b4], .func (Fn.func 80) #[] #[ptv b, ptv b4, ptv b6], .func (Fn.func 82) #[] #[ptv b5, ptv b, ptv b4]] 62)) := (New.refl w').alloc _
    have hx := (n5.block _ (lt_of_block HXX.out)).trans HXX.out
    have hu := (n5.block _ (lt_of_block HUU.out)).trans HUU.out
    have hy := (n5.block _ (lt_of_block HYY.out)).trans HYY.out
    have hne : w'.heap.size ≠ w.heap.size + 1 + 1 := by have := lt_of_block HYY.out; omega
    have hcon : ∀ w2, New (w'.alloc (.cells #[.string (nmK k), .int .i64 2, .int .i64 1, .func (Fn.func 68) #[] #[], .func (Fn.func 78) #[] #[ptv b5], .func (Fn.func 76) #[] #[ptv b5, ptv b, ptv b4], .func (Fn.func 80) #[] #[ptv b, ptv b4, ptv b6], .func (Fn.func 82) #[] #[ptv b5, ptv b, ptv b4]] 62)) w2 → Calls Tryz.prog 82 #[.agg q.cells, .agg (uc a0 a1 a2 a3), ptv b5, ptv b, ptv b4] w2 fun e w3 => e = .returned (.agg q'.cells) ∧ New w2 w3 := fun w2 h2 => hs w2 _ ((HO.out.stay n5).stay h2).now
    go_wp2_with fail
    generalize hw5 : World.alloc w' _ = w5 at *
    generalize hgb : w'.heap.size = gb at *
    have HQ := Lib.hid hq
    have HX := Lib.hid hx
    have HU := Lib.hid hu
    have HY := Lib.hid hy
    have HNE := Lib.hid hne
    have HCON := Lib.hid hcon
    have HN3 := Lib.hid (HNN.out.trans n5)
    clear hq hx hu hy hne hcon n5 hw5 hgb HO HXX HYY HUU HNN
    have SK : Hid (∀ w', Kb w5 (w.heap.size + 1 + 1) w' → Kb w5 (w.heap.size + 1 + 1) w' ∧ w'.cell? ⟨w.heap.size, 0, none⟩ = some (.int .i64 k) ∧ w'.cell? ⟨gb, 7, none⟩ = some (.func (Fn.func 82) #[] #[ptv b5, ptv b, ptv b4]) ∧ w'.cell? ⟨w.heap.size, 1, none⟩ = some (.int .u64 (W64 q.a)) ∧ w'.cell? ⟨w.heap.size, 2, none⟩ = some (.int .u64 (W64 q.b)) ∧ w'.cell? ⟨w.heap.size, 3, none⟩ = some (.int .u64 (W64 q.c)) ∧ w'.cell? ⟨w.heap.size, 4, none⟩ = some (.int .u64 (W64 q.d)) ∧ w'.cell? ⟨w.heap.size + 1, 0, none⟩ = some (.int .u64 (W64 a0)) ∧ w'.cell? ⟨w.heap.size + 1, 1, none⟩ = some (.int .u64 (W64 a1)) ∧ w'.cell? ⟨w.heap.size + 1, 2, none⟩ = some (.int .u64 (W64 a2)) ∧ w'.cell? ⟨w.heap.size + 1, 3, none⟩ = some (.int .u64 (W64 a3))) := Lib.hid (fun w' hn => ⟨hn, cell_of_row _ _ 0 _ _ _ (hn.block HX.out (by omega)), cell_of_row _ _ 7 _ _ _ (hn.block HQ.out (HNE.out)), cell_of_row _ _ 1 _ _ _ (hn.block HX.out (by omega)), cell_of_row _ _ 2 _ _ _ (hn.block HX.out (by omega)), cell_of_row _ _ 3 _ _ _ (hn.block HX.out (by omega)), cell_of_row _ _ 4 _ _ _ (hn.block HX.out (by omega)), cell_of_row _ _ 0 _ _ _ (hn.block HU.out (by omega)), cell_of_row _ _ 1 _ _ _ (hn.block HU.out (by omega)), cell_of_row _ _ 2 _ _ _ (hn.block HU.out (by omega)), cell_of_row _ _ 3 _ _ _ (hn.block HU.out (by omega))⟩)
    obtain ⟨_, ce0, ce1, ce2, ce3, ce4, ce5, ce6, ce7, ce8, ce9⟩ := SK.out w5 (Kb.refl _ _)
    go_region_held3 (fun w' => Kb w5 (w.heap.size + 1 + 1) w' ∧ w'.cell? ⟨w.heap.size, 0, none⟩ = some (.int .i64 k) ∧ w'.cell? ⟨gb, 7, none⟩ = some (.func (Fn.func 82) #[] #[ptv b5, ptv b, ptv b4]) ∧ w'.cell? ⟨w.heap.size, 1, none⟩ = some (.int .u64 (W64 q.a)) ∧ w'.cell? ⟨w.heap.size, 2, none⟩ = some (.int .u64 (W64 q.b)) ∧ w'.cell? ⟨w.heap.size, 3, none⟩ = some (.int .u64 (W64 q.c)) ∧ w'.cell? ⟨w.heap.size, 4, none⟩ = some (.int .u64 (W64 q.d)) ∧ w'.cell? ⟨w.heap.size + 1, 0, none⟩ = some (.int .u64 (W64 a0)) ∧ w'.cell? ⟨w.heap.size + 1, 1, none⟩ = some (.int .u64 (W64 a1)) ∧ w'.cell? ⟨w.heap.size + 1, 2, none⟩ = some (.int .u64 (W64 a2)) ∧ w'.cell? ⟨w.heap.size + 1, 3, none⟩ = some (.int .u64 (W64 a3)))
      ((refine SK.out _ ?_; repeat (first | with_reducible assumption | with_reducible exact Kb.refl _ _ | with_reducible refine Kb.drew ?_ | with_reducible refine Kb.set ?_ _ _)))
      (first
      | (go_at_call 82
         refine (HCON.out _ (by first | with_reducible exact (New.refl _).drew | with_reducible exact New.refl _ | with_reducible assumption | with_reducible exact New.drew (by with_reducible assumption))).mono ?_
         rintro e q0 ⟨rfl, hc0⟩
         have hg0 : New w5 q0 := by first | with_reducible exact (New.refl w5).drew.trans hc0 | with_reducible exact hc0
         have hw1 : Kb w5 (w.heap.size + 1 + 1) q0 := (Kb.refl _ _).new hg0
         have hz0 := (hg0.block _ (lt_of_block HY.out)).trans HY.out
         have d0 := cell_of_row _ _ 0 _ _ _ hz0
         have d1 := cell_of_row _ _ 1 _ _ _ hz0
         have d2 := cell_of_row _ _ 2 _ _ _ hz0
         have d3 := cell_of_row _ _ 3 _ _ _ hz0
         have d4 := cell_of_row _ _ 4 _ _ _ hz0
         have df := fun i => frozen_of_row _ _ i _ _ hz0
         have HG := Lib.hid (HN3.out.trans hg0)
         clear hz0
         clear hc0))
    all_goals
      go_wp2
      refine bodyPost_ret (by simp [results, Tryz.results25, go_sem, d0, d1, d2, d3, d4]; try rfl) rfl ?_
      first | exact ⟨rfl, ((((((((((HG.out).setCell (by show w.heap.size ≤ w.heap.size + 1 + 1; omega) _)).setCell (by show w.heap.size ≤ w.heap.size + 1 + 1; omega) _)).setCell (by show w.heap.size ≤ w.heap.size + 1 + 1; omega) _)).setCell (by show w.heap.size ≤ w.heap.size + 1 + 1; omega) _)).setCell (by show w.heap.size ≤ w.heap.size + 1 + 1; omega) _)⟩ | exact ⟨rfl, (((((((((((HG.out).setCell (by show w.heap.size ≤ w.heap.size + 1 + 1; omega) _)).setCell (by show w.heap.size ≤ w.heap.size + 1 + 1; omega) _)).setCell (by show w.heap.size ≤ w.heap.size + 1 + 1; omega) _)).setCell (by show w.heap.size ≤ w.heap.size + 1 + 1; omega) _)).setCell (by show w.heap.size ≤ w.heap.size + 1 + 1; omega) _)).drew⟩
  | pcg32 =>
    have hq := heap_alloc_new w' (.cells #[.string (nmK 7), .int .i64 2, .int .i64 2, .func (Fn.func 84) #[] #[], .func (Fn.func 85) #[] #[], .func (Fn.func 88) #[] #[], .func (Fn.func 89) #[] #[], .func (Fn.func 90) #[] #[]] 62)
    have n5 : New w' (w'.alloc (.cells #[.string (nmK 7), .int .i64 2, .int .i64 2, .func (Fn.func 84) #[] #[], .func (Fn.func 85) #[] #[], .func (Fn.func 88) #[] #[], .func (Fn.func 89) #[] #[], .func (Fn.func 90) #[] #[]] 62)) := (New.refl w').alloc _
    have hx := (n5.block _ (lt_of_block HXX.out)).trans HXX.out
    have hu := (n5.block _ (lt_of_block HUU.out)).trans HUU.out
    have hy := (n5.block _ (lt_of_block HYY.out)).trans HYY.out
    have hne : w'.heap.size ≠ w.heap.size + 1 + 1 := by have := lt_of_block HYY.out; omega
    have hcon : ∀ w2, New (w'.alloc (.cells #[.string (nmK 7), .int .i64 2, .int .i64 2, .func (Fn.func 84) #[] #[], .func (Fn.func 85) #[] #[], .func (Fn.func 88) #[] #[], .func (Fn.func 89) #[] #[], .func (Fn.func 90) #[] #[]] 62)) w2 → Calls Tryz.prog 90 #[.agg q.cells, .agg (uc a0 a1 a2 a3)] w2 fun e w3 => e = .returned (.agg q'.cells) ∧ New w2 w3 := fun w2 h2 => hs w2 _ ((HO.out.stay n5).stay h2).now
    go_wp2_with fail
    generalize hw5 : World.alloc w' _ = w5 at *
    generalize hgb : w'.heap.size = gb at *
    have HQ := Lib.hid hq
    have HX := Lib.hid hx
    have HU := Lib.hid hu
    have HY := Lib.hid hy
    have HNE := Lib.hid hne
    have HCON := Lib.hid hcon
    have HN3 := Lib.hid (HNN.out.trans n5)
    clear hq hx hu hy hne hcon n5 hw5 hgb HO HXX HYY HUU HNN
    have SK : Hid (∀ w', Kb w5 (w.heap.size + 1 + 1) w' → Kb w5 (w.heap.size + 1 + 1) w' ∧ w'.cell? ⟨w.heap.size, 0, none⟩ = some (.int .i64 7) ∧ w'.cell? ⟨gb, 7, none⟩ = some (.func (Fn.func 90) #[] #[]) ∧ w'.cell? ⟨w.heap.size, 1, none⟩ = some (.int .u64 (W64 q.a)) ∧ w'.cell? ⟨w.heap.size, 2, none⟩ = some (.int .u64 (W64 q.b)) ∧ w'.cell? ⟨w.heap.size, 3, none⟩ = some (.int .u64 (W64 q.c)) ∧ w'.cell? ⟨w.heap.size, 4, none⟩ = some (.int .u64 (W64 q.d)) ∧ w'.cell? ⟨w.heap.size + 1, 0, none⟩ = some (.int .u64 (W64 a0)) ∧ w'.cell? ⟨w.heap.size + 1, 1, none⟩ = some (.int .u64 (W64 a1)) ∧ w'.cell? ⟨w.heap.size + 1, 2, none⟩ = some (.int .u64 (W64 a2)) ∧ w'.cell? ⟨w.heap.size + 1, 3, none⟩ = some (.int .u64 (W64 a3))) := Lib.hid (fun w' hn => ⟨hn, cell_of_row _ _ 0 _ _ _ (hn.block HX.out (by omega)), cell_of_row _ _ 7 _ _ _ (hn.block HQ.out (HNE.out)), cell_of_row _ _ 1 _ _ _ (hn.block HX.out (by omega)), cell_of_row _ _ 2 _ _ _ (hn.block HX.out (by omega)), cell_of_row _ _ 3 _ _ _ (hn.block HX.out (by omega)), cell_of_row _ _ 4 _ _ _ (hn.block HX.out (by omega)), cell_of_row _ _ 0 _ _ _ (hn.block HU.out (by omega)), cell_of_row _ _ 1 _ _ _ (hn.block HU.out (by omega)), cell_of_row _ _ 2 _ _ _ (hn.block HU.out (by omega)), cell_of_row _ _ 3 _ _ _ (hn.block HU.out (by omega))⟩)
    obtain ⟨_, ce0, ce1, ce2, ce3, ce4, ce5, ce6, ce7, ce8, ce9⟩ := SK.out w5 (Kb.refl _ _)
    go_region_held3 (fun w' => Kb w5 (w.heap.size + 1 + 1) w' ∧ w'.cell? ⟨w.heap.size, 0, none⟩ = some (.int .i64 7) ∧ w'.cell? ⟨gb, 7, none⟩ = some (.func (Fn.func 90) #[] #[]) ∧ w'.cell? ⟨w.heap.size, 1, none⟩ = some (.int .u64 (W64 q.a)) ∧ w'.cell? ⟨w.heap.size, 2, none⟩ = some (.int .u64 (W64 q.b)) ∧ w'.cell? ⟨w.heap.size, 3, none⟩ = some (.int .u64 (W64 q.c)) ∧ w'.cell? ⟨w.heap.size, 4, none⟩ = some (.int .u64 (W64 q.d)) ∧ w'.cell? ⟨w.heap.size + 1, 0, none⟩ = some (.int .u64 (W64 a0)) ∧ w'.cell? ⟨w.heap.size + 1, 1, none⟩ = some (.int .u64 (W64 a1)) ∧ w'.cell? ⟨w.heap.size + 1, 2, none⟩ = some (.int .u64 (W64 a2)) ∧ w'.cell? ⟨w.heap.size + 1, 3, none⟩ = some (.int .u64 (W64 a3)))
      ((refine SK.out _ ?_; repeat (first | with_reducible assumption | with_reducible exact Kb.refl _ _ | with_reducible refine Kb.drew ?_ | with_reducible refine Kb.set ?_ _ _)))
      (first
      | (go_at_call 90
         refine (HCON.out _ (by first | with_reducible exact (New.refl _).drew | with_reducible exact New.refl _ | with_reducible assumption | with_reducible exact New.drew (by with_reducible assumption))).mono ?_
         rintro e q0 ⟨rfl, hc0⟩
         have hg0 : New w5 q0 := by first | with_reducible exact (New.refl w5).drew.trans hc0 | with_reducible exact hc0
         have hw1 : Kb w5 (w.heap.size + 1 + 1) q0 := (Kb.refl _ _).new hg0
         have hz0 := (hg0.block _ (lt_of_block HY.out)).trans HY.out
         have d0 := cell_of_row _ _ 0 _ _ _ hz0
         have d1 := cell_of_row _ _ 1 _ _ _ hz0
         have d2 := cell_of_row _ _ 2 _ _ _ hz0
         have d3 := cell_of_row _ _ 3 _ _ _ hz0
         have d4 := cell_of_row _ _ 4 _ _ _ hz0
         have df := fun i => frozen_of_row _ _ i _ _ hz0
         have HG := Lib.hid (HN3.out.trans hg0)
         clear hz0
         clear hc0))
    all_goals
      go_wp2
      refine bodyPost_ret (by simp [results, Tryz.results25, go_sem, d0, d1, d2, d3, d4]; try rfl) rfl ?_
      first | exact ⟨rfl, ((((((((((HG.out).setCell (by show w.heap.size ≤ w.heap.size + 1 + 1; omega) _)).setCell (by show w.heap.size ≤ w.heap.size + 1 + 1; omega) _)).setCell (by show w.heap.size ≤ w.heap.size + 1 + 1; omega) _)).setCell (by show w.heap.size ≤ w.heap.size + 1 + 1; omega) _)).setCell (by show w.heap.size ≤ w.heap.size + 1 + 1; omega) _)⟩ | exact ⟨rfl, (((((((((((HG.out).setCell (by show w.heap.size ≤ w.heap.size + 1 + 1; omega) _)).setCell (by show w.heap.size ≤ w.heap.size + 1 + 1; omega) _)).setCell (by show w.heap.size ≤ w.heap.size + 1 + 1; omega) _)).setCell (by show w.heap.size ≤ w.heap.size + 1 + 1; omega) _)).setCell (by show w.heap.size ≤ w.heap.size + 1 + 1; omega) _)).drew⟩
  | pcg64 =>
    have hq := heap_alloc_new w' (.cells #[.string (nmK 8), .int .i64 4, .int .i64 1, .func (Fn.func 92) #[] #[], .func (Fn.func 93) #[] #[], .func (Fn.func 96) #[] #[], .func (Fn.func 97) #[] #[], .func (Fn.func 98) #[] #[]] 62)
    have n5 : New w' (w'.alloc (.cells #[.string (nmK 8), .int .i64 4, .int .i64 1, .func (Fn.func 92) #[] #[], .func (Fn.func 93) #[] #[], .func (Fn.func 96) #[] #[], .func (Fn.func 97) #[] #[], .func (Fn.func 98) #[] #[]] 62)) := (New.refl w').alloc _
    have hx := (n5.block _ (lt_of_block HXX.out)).trans HXX.out
    have hu := (n5.block _ (lt_of_block HUU.out)).trans HUU.out
    have hy := (n5.block _ (lt_of_block HYY.out)).trans HYY.out
    have hne : w'.heap.size ≠ w.heap.size + 1 + 1 := by have := lt_of_block HYY.out; omega
    have hcon : ∀ w2, New (w'.alloc (.cells #[.string (nmK 8), .int .i64 4, .int .i64 1, .func (Fn.func 92) #[] #[], .func (Fn.func 93) #[] #[], .func (Fn.func 96) #[] #[], .func (Fn.func 97) #[] #[], .func (Fn.func 98) #[] #[]] 62)) w2 → Calls Tryz.prog 98 #[.agg q.cells, .agg (uc a0 a1 a2 a3)] w2 fun e w3 => e = .returned (.agg q'.cells) ∧ New w2 w3 := fun w2 h2 => hs w2 _ ((HO.out.stay n5).stay h2).now
    go_wp2_with fail
    generalize hw5 : World.alloc w' _ = w5 at *
    generalize hgb : w'.heap.size = gb at *
    have HQ := Lib.hid hq
    have HX := Lib.hid hx
    have HU := Lib.hid hu
    have HY := Lib.hid hy
    have HNE := Lib.hid hne
    have HCON := Lib.hid hcon
    have HN3 := Lib.hid (HNN.out.trans n5)
    clear hq hx hu hy hne hcon n5 hw5 hgb HO HXX HYY HUU HNN
    have SK : Hid (∀ w', Kb w5 (w.heap.size + 1 + 1) w' → Kb w5 (w.heap.size + 1 + 1) w' ∧ w'.cell? ⟨w.heap.size, 0, none⟩ = some (.int .i64 8) ∧ w'.cell? ⟨gb, 7, none⟩ = some (.func (Fn.func 98) #[] #[]) ∧ w'.cell? ⟨w.heap.size, 1, none⟩ = some (.int .u64 (W64 q.a)) ∧ w'.cell? ⟨w.heap.size, 2, none⟩ = some (.int .u64 (W64 q.b)) ∧ w'.cell? ⟨w.heap.size, 3, none⟩ = some (.int .u64 (W64 q.c)) ∧ w'.cell? ⟨w.heap.size, 4, none⟩ = some (.int .u64 (W64 q.d)) ∧ w'.cell? ⟨w.heap.size + 1, 0, none⟩ = some (.int .u64 (W64 a0)) ∧ w'.cell? ⟨w.heap.size + 1, 1, none⟩ = some (.int .u64 (W64 a1)) ∧ w'.cell? ⟨w.heap.size + 1, 2, none⟩ = some (.int .u64 (W64 a2)) ∧ w'.cell? ⟨w.heap.size + 1, 3, none⟩ = some (.int .u64 (W64 a3))) := Lib.hid (fun w' hn => ⟨hn, cell_of_row _ _ 0 _ _ _ (hn.block HX.out (by omega)), cell_of_row _ _ 7 _ _ _ (hn.block HQ.out (HNE.out)), cell_of_row _ _ 1 _ _ _ (hn.block HX.out (by omega)), cell_of_row _ _ 2 _ _ _ (hn.block HX.out (by omega)), cell_of_row _ _ 3 _ _ _ (hn.block HX.out (by omega)), cell_of_row _ _ 4 _ _ _ (hn.block HX.out (by omega)), cell_of_row _ _ 0 _ _ _ (hn.block HU.out (by omega)), cell_of_row _ _ 1 _ _ _ (hn.block HU.out (by omega)), cell_of_row _ _ 2 _ _ _ (hn.block HU.out (by omega)), cell_of_row _ _ 3 _ _ _ (hn.block HU.out (by omega))⟩)
    obtain ⟨_, ce0, ce1, ce2, ce3, ce4, ce5, ce6, ce7, ce8, ce9⟩ := SK.out w5 (Kb.refl _ _)
    go_region_held3 (fun w' => Kb w5 (w.heap.size + 1 + 1) w' ∧ w'.cell? ⟨w.heap.size, 0, none⟩ = some (.int .i64 8) ∧ w'.cell? ⟨gb, 7, none⟩ = some (.func (Fn.func 98) #[] #[]) ∧ w'.cell? ⟨w.heap.size, 1, none⟩ = some (.int .u64 (W64 q.a)) ∧ w'.cell? ⟨w.heap.size, 2, none⟩ = some (.int .u64 (W64 q.b)) ∧ w'.cell? ⟨w.heap.size, 3, none⟩ = some (.int .u64 (W64 q.c)) ∧ w'.cell? ⟨w.heap.size, 4, none⟩ = some (.int .u64 (W64 q.d)) ∧ w'.cell? ⟨w.heap.size + 1, 0, none⟩ = some (.int .u64 (W64 a0)) ∧ w'.cell? ⟨w.heap.size + 1, 1, none⟩ = some (.int .u64 (W64 a1)) ∧ w'.cell? ⟨w.heap.size + 1, 2, none⟩ = some (.int .u64 (W64 a2)) ∧ w'.cell? ⟨w.heap.size + 1, 3, none⟩ = some (.int .u64 (W64 a3)))
      ((refine SK.out _ ?_; repeat (first | with_reducible assumption | with_reducible exact Kb.refl _ _ | with_reducible refine Kb.drew ?_ | with_reducible refine Kb.set ?_ _ _)))
      (first
      | (go_at_call 98
         refine (HCON.out _ (by first | with_reducible exact (New.refl _).drew | with_reducible exact New.refl _ | with_reducible assumption | with_reducible exact New.drew (by with_reducible assumption))).mono ?_
         rintro e q0 ⟨rfl, hc0⟩
         have hg0 : New w5 q0 := by first | with_reducible exact (New.refl w5).drew.trans hc0 | with_reducible exact hc0
         have hw1 : Kb w5 (w.heap.size + 1 + 1) q0 := (Kb.refl _ _).new hg0
         have hz0 := (hg0.block _ (lt_of_block HY.out)).trans HY.out
         have d0 := cell_of_row _ _ 0 _ _ _ hz0
         have d1 := cell_of_row _ _ 1 _ _ _ hz0
         have d2 := cell_of_row _ _ 2 _ _ _ hz0
         have d3 := cell_of_row _ _ 3 _ _ _ hz0
         have d4 := cell_of_row _ _ 4 _ _ _ hz0
         have df := fun i => frozen_of_row _ _ i _ _ hz0
         have HG := Lib.hid (HN3.out.trans hg0)
         clear hz0
         clear hc0))
    all_goals
      go_wp2
      refine bodyPost_ret (by simp [results, Tryz.results25, go_sem, d0, d1, d2, d3, d4]; try rfl) rfl ?_
      first | exact ⟨rfl, ((((((((((HG.out).setCell (by show w.heap.size ≤ w.heap.size + 1 + 1; omega) _)).setCell (by show w.heap.size ≤ w.heap.size + 1 + 1; omega) _)).setCell (by show w.heap.size ≤ w.heap.size + 1 + 1; omega) _)).setCell (by show w.heap.size ≤ w.heap.size + 1 + 1; omega) _)).setCell (by show w.heap.size ≤ w.heap.size + 1 + 1; omega) _)⟩ | exact ⟨rfl, (((((((((((HG.out).setCell (by show w.heap.size ≤ w.heap.size + 1 + 1; omega) _)).setCell (by show w.heap.size ≤ w.heap.size + 1 + 1; omega) _)).setCell (by show w.heap.size ≤ w.heap.size + 1 + 1; omega) _)).setCell (by show w.heap.size ≤ w.heap.size + 1 + 1; omega) _)).setCell (by show w.heap.size ≤ w.heap.size + 1 + 1; omega) _)).drew⟩
set_option maxHeartbeats 1000000 in
theorem jump_no (k : Int) (q : W4) (a0 a1 a2 a3 : BitVec 64) (hk : ¬ chkK k q = 0) (w : World) : Calls Tryz.prog 25 #[.agg (stc k q), .agg (uc a0 a1 a2 a3)] w fun e w' => e = .returned (.tuple #[.agg zst, .int .i64 (chkK k q)]) ∧ New w w' := by
  have hz := three_blocks w (.cells (stc k q) 25) (.cells (uc a0 a1 a2 a3) 49) (.cells zst 25)
  have HZ := Lib.hid hz
  have HGI := Lib.hid (fun w => gin_any k q w)
  obtain ⟨c, hc⟩ : ∃ c, chkK k q = c := ⟨_, rfl⟩
  rw [hc] at HGI hk ⊢
  have hcz : (c != 0) = true := by simpa using hk
  clear hz hc
  go_enter Tryz.func25, Tryz.ntmps25
  go_wp2_with fail
  refine (HGI.out _).mono ?_
  rintro e w' ⟨⟨cs, rfl, hv⟩, hn⟩
  obtain rfl : cs = gzc := by
    rcases hv with h | h
    · exact absurd h.1 hk
    · exact h.2
  have n2 := hn.alloc (.cells gzc 62)
  have hy := (n2.block _ (lt_of_block HZ.out.2.2.1)).trans HZ.out.2.2.1
  have d0 := cell_of_row _ _ 0 _ _ _ hy
  have d1 := cell_of_row _ _ 1 _ _ _ hy
  have d2 := cell_of_row _ _ 2 _ _ _ hy
  have d3 := cell_of_row _ _ 3 _ _ _ hy
  have d4 := cell_of_row _ _ 4 _ _ _ hy
  have df := fun i => frozen_of_row _ _ i _ _ hy
  have HN := Lib.hid (HZ.out.2.2.2.trans n2)
  have HY := Lib.hid hy
  clear hy n2 hn hv HZ
  go_wp2_with fail
  have hp := put5_facts (.int .i64 0) (.int .u64 0) (.int .u64 0) (.int .u64 0) (.int .u64 0) HY.out
  refine bodyPost_ret (by simp [results, Tryz.results25, go_sem, d0, d1, d2, d3, d4]; try rfl) rfl ?_
  exact ⟨rfl, hp.2.2.1 _ HN.out (by omega)⟩
theorem jump_go {k : Int} {q : W4} (h : chkK k q = 0) (a0 a1 a2 a3 : BitVec 64) (w : World) : Calls Tryz.prog 25 #[.agg (stc k q), .agg (uc a0 a1 a2 a3)] w fun e w' => e = .returned (.tuple #[.agg (stc k (itK k (four a0 a1 a2 a3) q)), .int .i64 0]) ∧ New w w' :=
  jump_of k q _ a0 a1 a2 a3 h (jp_all h a0 a1 a2 a3) w
end Go.Proofs.YtfaobdmoifnglaaGreat
