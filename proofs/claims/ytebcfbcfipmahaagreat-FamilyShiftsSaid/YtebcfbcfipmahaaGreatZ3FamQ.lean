import Derived.Test.YtebcfbcfipmahaaGreatZ3FamP
import Derived.Test.YtebcfbcfipmahaaGreatZ3GroG
/- Layer 27: what the shift of two numbers hands back. -/
namespace Go.Proofs.YtebcfbcfipmahaaGreat
open Go Go.RowKit Go.Bv Go.Tab
set_option linter.unusedVariables false
set_option maxRecDepth 100000
theorem lit_273 (w : World) (x y : BitVec 64) : QRow (w.alloc (.cells #[.int .u64 (W64 x), .int .u64 (W64 y)] 31)) (some ⟨w.heap.size, 0, none⟩) 2 2 [x, y] := by
  let ⟨a, c, e, h⟩ := QRow.of_owns (l := [x, y]) (World.ownsRow_lit (base := w.heap.size) (e := 31) (size := 1) w #[.int .u64 (W64 x), .int .u64 (W64 y)] 2 (Nat.le_refl _) (by decide) rfl) (by omega)
  cases e
  exact h
theorem lit_274 (w : World) (x y z u : BitVec 64) : QRow (w.alloc (.cells #[.int .u64 (W64 x), .int .u64 (W64 y), .int .u64 (W64 z), .int .u64 (W64 u)] 31)) (some ⟨w.heap.size, 0, none⟩) 4 4 [x, y, z, u] := by
  let ⟨a, c, e, h⟩ := QRow.of_owns (l := [x, y, z, u]) (World.ownsRow_lit (base := w.heap.size) (e := 31) (size := 1) w #[.int .u64 (W64 x), .int .u64 (W64 y), .int .u64 (W64 z), .int .u64 (W64 u)] 4 (Nat.le_refl _) (by decide) rfl) (by omega)
  cases e
  exact h
set_option maxHeartbeats 8000000 in
theorem shp_sum32 (b : Int) (g off c : Nat) (l : List (BitVec 64)) (px ox cx : Nat) (py oy cy : Nat) (x0 x1 y0 y1 : BitVec 64) (b9 : Nat) (w : World) (h : QRow w (some ⟨g, off, none⟩) 2 c l) (hx : QRow w (some ⟨px, ox, none⟩) 2 cx [x0, x1]) (hy : QRow w (some ⟨py, oy, none⟩) 2 cy [y0, y1]) (c1 c0 d1 d0 : BitVec 64) (E : Int) (HSF : Hid (∀ w : World, Calls Tryz.prog 87 #[.int .i64 3, .int .i64 b, .agg #[.int .u64 (W64 (hiN (numA 3 l))), .int .u64 (W64 (loN (numA 3 l)))], .agg #[.int .u64 (W64 (hiN (numB 3 l))), .int .u64 (W64 (loN (numB 3 l)))], .int .u64 (W64 x0), .int .u64 (W64 x1), .int .u64 (W64 y0), .int .u64 (W64 y1)] w fun e w' => e = .returned (.tuple #[.agg #[.int .u64 (W64 c1), .int .u64 (W64 c0)], .agg #[.int .u64 (W64 d1), .int .u64 (W64 d0)], .int .i64 E]) ∧ New w w')) :
    Calls Tryz.prog 86 #[.agg (sdc 3 b (some ⟨g, off, none⟩) 2 c), .slice (some ⟨px, ox, none⟩) 2 cx, .slice (some ⟨py, oy, none⟩) 2 cy, .pointer (some ⟨b9, 0, none⟩)] w fun e w' => SHR w w' 2 e E [c0, d0] := by
  generalize hW : w.alloc (.cells (sdc 3 b (some ⟨g, off, none⟩) 2 c) 30) = w0
  have HB : Hid (w0.heap[w.heap.size]? = some (.cells (sdc 3 b (some ⟨g, off, none⟩) 2 c) 30 (0, 0))) := Lib.hid (by rw [← hW]; exact heap_alloc_new w _)
  have HN : Hid (New w w0) := Lib.hid (by rw [← hW]; exact (New.refl w).alloc _)
  have HBX := Lib.hid (fun (w' : World) (hn : New w0 w') => (hn.block _ (lt_of_block HB.out)).trans HB.out)
  have HNUM := Lib.hid (fun (w' : World) (hn : New w0 w') => numbers_3 b g off 2 c l w' ((h.stay HN.out).stay hn) rfl)
  obtain ⟨wT, hwT⟩ : ∃ z, w0 = z := ⟨_, rfl⟩
  have HNT : Hid (New w0 wT) := Lib.hid (by rw [← hwT]; exact New.refl _)
  have HXC : Hid (∀ w', New wT w' → w'.cell? ⟨px, ox, none⟩ = some (.int .u64 (W64 x0)) ∧ w'.cell? ⟨px, ox + 1, none⟩ = some (.int .u64 (W64 x1)) ∧ w'.cell? ⟨py, oy, none⟩ = some (.int .u64 (W64 y0)) ∧ w'.cell? ⟨py, oy + 1, none⟩ = some (.int .u64 (W64 y1))) := Lib.hid (fun w' hn => by
    have hn2 := HN.out.trans (HNT.out.trans hn)
    exact ⟨(hx.stay hn2).cell px ox rfl 0 (by omega), (hx.stay hn2).cell px ox rfl 1 (by omega), (hy.stay hn2).cell py oy rfl 0 (by omega), (hy.stay hn2).cell py oy rfl 1 (by omega)⟩)
  clear h hx hy
  have sc0 := cell_of_row _ _ 0 _ _ _ HB.out
  have sc1 := cell_of_row _ _ 1 _ _ _ HB.out
  have sc2 := cell_of_row _ _ 2 _ _ _ HB.out
  have HWT := Lib.hid hwT
  clear hwT
  go_enter Tryz.func86, Tryz.ntmps86
  go_wp2_with fail
  rw [HWT.out]
  refine (HNUM.out wT HNT.out).mono ?_
  rintro e w1 ⟨rfl, hn1⟩
  obtain ⟨⟨hb12, hb13⟩, hnb⟩ := boxes2 w1 (.cells #[.int .u64 (W64 (hiN (numA 3 l))), .int .u64 (W64 (loN (numA 3 l)))] 63) (.cells #[.int .u64 (W64 (hiN (numB 3 l))), .int .u64 (W64 (loN (numB 3 l)))] 63)
  obtain ⟨wb, hwb⟩ : ∃ z, ((w1.alloc (.cells #[.int .u64 (W64 (hiN (numA 3 l))), .int .u64 (W64 (loN (numA 3 l)))] 63)).alloc (.cells #[.int .u64 (W64 (hiN (numB 3 l))), .int .u64 (W64 (loN (numB 3 l)))] 63)) = z := ⟨_, rfl⟩
  obtain ⟨q12, hq12⟩ : ∃ q, w1.heap.size = q := ⟨_, rfl⟩
  rw [hwb] at hb12 hb13 hnb
  rw [hq12] at hb12 hb13
  have HWB := Lib.hid hwb
  have HQ12 := Lib.hid hq12
  have HLE : Hid (wT.heap.size ≤ q12) := Lib.hid (by rw [← hq12]; exact hn1.le)
  have HNB := Lib.hid (hn1.trans hnb)
  have HB12 := Lib.hid hb12
  have HB13 := Lib.hid hb13
  clear hb12 hb13 hnb hwb hq12 hn1
  go_wp2_with fail
  rw [HWB.out, HQ12.out]
  refine GrowG.wp_region_growS (fun w' => ((∃ u v, w'.heap[q12]? = some (.cells #[u, v] 63 (0, 0))) ∧ (∃ u v, w'.heap[q12 + 1]? = some (.cells #[u, v] 63 (0, 0)))) ∧ New wT w') (fun w' => w'.heap[q12]? = some (.cells #[.int .u64 (W64 (hiN (numA 3 l))), .int .u64 (W64 (loN (numA 3 l)))] 63 (0, 0)) ∧ w'.heap[q12 + 1]? = some (.cells #[.int .u64 (W64 (hiN (numB 3 l))), .int .u64 (W64 (loN (numB 3 l)))] 63 (0, 0))) (fun k => [18, 23, 24].contains k) (fun k => [4, 5].contains k) (by kernel_rfl) (by kernel_rfl) (by kernel_rfl) ⟨⟨⟨_, _, HB12.out⟩, ⟨_, _, HB13.out⟩⟩, HNB.out.drew⟩ ⟨HB12.out, HB13.out⟩ ?_
  intro I _ f hall hback
  have HALL := Lib.hid hall
  have HBACK := Lib.hid hback
  have s0 := fun n => cell_of_row _ _ 0 _ _ _ (HBX.out _ (HNT.out.trans (hall n).2))
  have s1 := fun n => cell_of_row _ _ 1 _ _ _ (HBX.out _ (HNT.out.trans (hall n).2))
  have z0 := fun n => (HXC.out _ (hall n).2).1
  have z1 := fun n => (HXC.out _ (hall n).2).2.1
  have z2 := fun n => (HXC.out _ (hall n).2).2.2.1
  have z3 := fun n => (HXC.out _ (hall n).2).2.2.2
  clear hall hback
  refine GrowG.wpGrow_take 4 (by kernel_rfl) ?_
  simp only [List.take, List.drop, List.length]
  repeat (go_big_quiet_step (fail))
  refine wpQuiet_nil ?_
  refine GrowG.wpGrow_read (.agg #[.int .u64 (W64 (hiN (numA 3 l))), .int .u64 (W64 (loN (numA 3 l)))]) rfl rfl rfl (fun w1 hB hG => ?_) (fun B0 hA => ?_)
  · obtain ⟨n, rfl⟩ := hB
    have k0 := cell_of_row _ _ 0 _ _ _ hG.1
    have k1 := cell_of_row _ _ 1 _ _ _ hG.1
    clear hG
    go_simp
    try exact ⟨rfl, rfl⟩
  simp [Act.put] at hA
  subst hA
  refine GrowG.wpGrow_read (.agg #[.int .u64 (W64 (hiN (numB 3 l))), .int .u64 (W64 (loN (numB 3 l)))]) rfl rfl rfl (fun w1 hB hG => ?_) (fun B1 hA => ?_)
  · obtain ⟨n, rfl⟩ := hB
    have k0 := cell_of_row _ _ 0 _ _ _ hG.2
    have k1 := cell_of_row _ _ 1 _ _ _ hG.2
    clear hG
    go_simp
    try exact ⟨rfl, rfl⟩
  simp [Act.put] at hA
  subst hA
  refine GrowG.wpGrow_take 12 (by kernel_rfl) ?_
  simp only [List.take, List.drop, List.length]
  repeat (go_big_quiet_step (fail))
  refine wpQuiet_nil ?_
  refine GrowG.wpGrow_turn (fun v => v = .tuple #[.agg #[.int .u64 (W64 c1), .int .u64 (W64 c0)], .agg #[.int .u64 (W64 d1), .int .u64 (W64 d0)], .int .i64 E]) (fun _ _ => True) rfl rfl ⟨_, rfl⟩ (fun w1 hB hG => ?_) (fun v0 A0 hv0 hA => ?_)
  · obtain ⟨n, rfl⟩ := hB
    go_simp
    refine (HSF.out _).mono ?_
    rintro e w2 ⟨rfl, hn⟩
    obtain ⟨⟨⟨u1, v1, h1⟩, ⟨u2, v2, h2⟩⟩, hnw⟩ := HALL.out n
    have hB2 := HBACK.out _ ⟨⟨⟨_, _, (hn.block _ (lt_of_block h1)).trans h1⟩, ⟨_, _, (hn.block _ (lt_of_block h2)).trans h2⟩⟩, hnw.trans hn⟩
    first | exact ⟨_, rfl, hB2, rfl, trivial⟩ | exact ⟨rfl, hB2⟩ | exact hB2
  subst hv0
  simp [Act.put] at hA
  subst hA
  refine GrowG.wpGrow_take 4 (by kernel_rfl) ?_
  simp only [List.take, List.drop, List.length]
  repeat (go_big_quiet_step (fail))
  refine wpQuiet_nil ?_
  refine GrowG.wpGrow_turn (fun v => v = undef) (fun _ w9 => w9.heap[q12]? = some (.cells #[.int .u64 (W64 c1), .int .u64 (W64 c0)] 63 (0, 0))) rfl rfl ⟨_, rfl⟩ (fun w1 hB hG => ?_) (fun v1 A1 hv1 hA => ?_)
  · obtain ⟨n, rfl⟩ := hB
    obtain ⟨⟨h1, h2⟩, hnw⟩ := HALL.out n
    obtain ⟨u, v, hq⟩ := h1
    have hc0 := cell_of_row _ _ 0 _ _ _ hq
    have hc1 := cell_of_row _ _ 1 _ _ _ hq
    have hfr := fun i => frozen_of_row _ _ i _ _ hq
    have HQ : Hid ((((f n).setCell ⟨q12, 0, none⟩ (.int .u64 (W64 c1))).setCell ⟨q12, 1, none⟩ (.int .u64 (W64 c0))).heap[q12]? = some (.cells #[.int .u64 (W64 c1), .int .u64 (W64 c0)] 63 (0, 0))) := Lib.hid (heap_setCell_same _ (q12) 1 _ _ (.int .u64 (W64 c0)) (heap_setCell_same _ (q12) 0 _ _ (.int .u64 (W64 c1)) hq))
    have HOT : Hid (∀ j, j ≠ q12 → (((f n).setCell ⟨q12, 0, none⟩ (.int .u64 (W64 c1))).setCell ⟨q12, 1, none⟩ (.int .u64 (W64 c0))).heap[j]? = (f n).heap[j]?) := Lib.hid (fun j hj => by rw [heap_setCell_other _ _ _ _ hj, heap_setCell_other _ _ _ _ hj])
    have HO := Lib.hid h2
    have HNW : Hid (New wT (((f n).setCell ⟨q12, 0, none⟩ (.int .u64 (W64 c1))).setCell ⟨q12, 1, none⟩ (.int .u64 (W64 c0)))) := Lib.hid ((hnw.setCell (p := ⟨q12, 0, none⟩) (by show wT.heap.size ≤ q12; have := HLE.out; omega) _).setCell (p := ⟨q12, 1, none⟩) (by show wT.heap.size ≤ q12; have := HLE.out; omega) _)
    have HG := Lib.hid hG
    clear h2 hnw hq hG
    go_simp
    exact ⟨HBACK.out _ ⟨⟨⟨_, _, HQ.out⟩, (let ⟨u2, v2, h⟩ := HO.out; ⟨u2, v2, (HOT.out _ (by omega)).trans h⟩)⟩, HNW.out⟩, HQ.out⟩
  simp [Act.put] at hA
  subst hA
  refine GrowG.wpGrow_turn (fun v => v = undef) (fun _ w9 => w9.heap[q12]? = some (.cells #[.int .u64 (W64 c1), .int .u64 (W64 c0)] 63 (0, 0)) ∧ w9.heap[q12 + 1]? = some (.cells #[.int .u64 (W64 d1), .int .u64 (W64 d0)] 63 (0, 0))) rfl rfl ⟨_, rfl⟩ (fun w1 hB hG => ?_) (fun v2 A2 hv2 hA => ?_)
  · obtain ⟨n, rfl⟩ := hB
    obtain ⟨⟨h1, h2⟩, hnw⟩ := HALL.out n
    obtain ⟨u, v, hq⟩ := h2
    have hc0 := cell_of_row _ _ 0 _ _ _ hq
    have hc1 := cell_of_row _ _ 1 _ _ _ hq
    have hfr := fun i => frozen_of_row _ _ i _ _ hq
    have HQ : Hid ((((f n).setCell ⟨q12 + 1, 0, none⟩ (.int .u64 (W64 d1))).setCell ⟨q12 + 1, 1, none⟩ (.int .u64 (W64 d0))).heap[q12 + 1]? = some (.cells #[.int .u64 (W64 d1), .int .u64 (W64 d0)] 63 (0, 0))) := Lib.hid (heap_setCell_same _ (q12 + 1) 1 _ _ (.int .u64 (W64 d0)) (heap_setCell_same _ (q12 + 1) 0 _ _ (.int .u64 (W64 d1)) hq))
    have HOT : Hid (∀ j, j ≠ q12 + 1 → (((f n).setCell ⟨q12 + 1, 0, none⟩ (.int .u64 (W64 d1))).setCell ⟨q12 + 1, 1, none⟩ (.int .u64 (W64 d0))).heap[j]? = (f n).heap[j]?) := Lib.hid (fun j hj => by rw [heap_setCell_other _ _ _ _ hj, heap_setCell_other _ _ _ _ hj])
    have HO := Lib.hid h1
    have HNW : Hid (New wT (((f n).setCell ⟨q12 + 1, 0, none⟩ (.int .u64 (W64 d1))).setCell ⟨q12 + 1, 1, none⟩ (.int .u64 (W64 d0)))) := Lib.hid ((hnw.setCell (p := ⟨q12 + 1, 0, none⟩) (by show wT.heap.size ≤ q12 + 1; have := HLE.out; omega) _).setCell (p := ⟨q12 + 1, 1, none⟩) (by show wT.heap.size ≤ q12 + 1; have := HLE.out; omega) _)
    have HG := Lib.hid hG
    clear h1 hnw hq hG
    go_simp
    exact ⟨HBACK.out _ ⟨⟨(let ⟨u2, v2, h⟩ := HO.out; ⟨u2, v2, (HOT.out _ (by omega)).trans h⟩), ⟨_, _, HQ.out⟩⟩, HNW.out⟩, ⟨(HOT.out _ (by omega)).trans HG.out, HQ.out⟩⟩
  simp [Act.put] at hA
  subst hA
  refine GrowG.wpGrow_take 1 (by kernel_rfl) ?_
  simp only [List.take, List.drop, List.length]
  repeat (go_big_quiet_step (fail))
  refine wpQuiet_nil ?_
  refine GrowG.wpGrow_nil ?_
  rintro w9 ⟨n9, rfl⟩ hG
  have HNF := Lib.hid (HNT.out.trans (HALL.out n9).2)
  obtain ⟨g1, g2⟩ := hG
  have k0 := cell_of_row _ _ 0 _ _ _ g1
  have k1 := cell_of_row _ _ 1 _ _ _ g1
  have k2 := cell_of_row _ _ 0 _ _ _ g2
  have k3 := cell_of_row _ _ 1 _ _ _ g2
  have k4 := s0 n9
  clear HALL HBACK s0 s1 z0 z1 z2 z3 g1 g2 HSF HNUM HXC HBX
  generalize f n9 = w9 at *
  by_cases hE : E = 0
  · subst hE
    go_wp2_with fail
    go_ret2
    exact ⟨.inr ⟨rfl, _, _, rfl, lit_273 _ c0 d0⟩, HN.out.trans (HNF.out.alloc _)⟩
  · have hEb : (E != 0) = true := by rw [bne_iff_ne]; exact hE
    have HE := Lib.hid hE
    clear hE
    go_wp2_with fail
    go_ret2
    exact ⟨.inl ⟨HE.out, rfl⟩, HN.out.trans HNF.out⟩
set_option maxHeartbeats 8000000 in
theorem shp_sum42 (b : Int) (g off c : Nat) (l : List (BitVec 64)) (px ox cx : Nat) (py oy cy : Nat) (x0 x1 y0 y1 : BitVec 64) (b9 : Nat) (w : World) (h : QRow w (some ⟨g, off, none⟩) 4 c l) (hx : QRow w (some ⟨px, ox, none⟩) 2 cx [x0, x1]) (hy : QRow w (some ⟨py, oy, none⟩) 2 cy [y0, y1]) (c1 c0 d1 d0 : BitVec 64) (E : Int) (HSF : Hid (∀ w : World, Calls Tryz.prog 87 #[.int .i64 4, .int .i64 b, .agg #[.int .u64 (W64 (hiN (numA 4 l))), .int .u64 (W64 (loN (numA 4 l)))], .agg #[.int .u64 (W64 (hiN (numB 4 l))), .int .u64 (W64 (loN (numB 4 l)))], .int .u64 (W64 x0), .int .u64 (W64 x1), .int .u64 (W64 y0), .int .u64 (W64 y1)] w fun e w' => e = .returned (.tuple #[.agg #[.int .u64 (W64 c1), .int .u64 (W64 c0)], .agg #[.int .u64 (W64 d1), .int .u64 (W64 d0)], .int .i64 E]) ∧ New w w')) :
    Calls Tryz.prog 86 #[.agg (sdc 4 b (some ⟨g, off, none⟩) 4 c), .slice (some ⟨px, ox, none⟩) 2 cx, .slice (some ⟨py, oy, none⟩) 2 cy, .pointer (some ⟨b9, 0, none⟩)] w fun e w' => SHR w w' 4 e E [c0, c1, d0, d1] := by
  generalize hW : w.alloc (.cells (sdc 4 b (some ⟨g, off, none⟩) 4 c) 30) = w0
  have HB : Hid (w0.heap[w.heap.size]? = some (.cells (sdc 4 b (some ⟨g, off, none⟩) 4 c) 30 (0, 0))) := Lib.hid (by rw [← hW]; exact heap_alloc_new w _)
  have HN : Hid (New w w0) := Lib.hid (by rw [← hW]; exact (New.refl w).alloc _)
  have HBX := Lib.hid (fun (w' : World) (hn : New w0 w') => (hn.block _ (lt_of_block HB.out)).trans HB.out)
  have HNUM := Lib.hid (fun (w' : World) (hn : New w0 w') => numbers_4 b g off 4 c l w' ((h.stay HN.out).stay hn) rfl)
  obtain ⟨wT, hwT⟩ : ∃ z, w0 = z := ⟨_, rfl⟩
  have HNT : Hid (New w0 wT) := Lib.hid (by rw [← hwT]; exact New.refl _)
  have HXC : Hid (∀ w', New wT w' → w'.cell? ⟨px, ox, none⟩ = some (.int .u64 (W64 x0)) ∧ w'.cell? ⟨px, ox + 1, none⟩ = some (.int .u64 (W64 x1)) ∧ w'.cell? ⟨py, oy, none⟩ = some (.int .u64 (W64 y0)) ∧ w'.cell? ⟨py, oy + 1, none⟩ = some (.int .u64 (W64 y1))) := Lib.hid (fun w' hn => by
    have hn2 := HN.out.trans (HNT.out.trans hn)
    exact ⟨(hx.stay hn2).cell px ox rfl 0 (by omega), (hx.stay hn2).cell px ox rfl 1 (by omega), (hy.stay hn2).cell py oy rfl 0 (by omega), (hy.stay hn2).cell py oy rfl 1 (by omega)⟩)
  clear h hx hy
  have sc0 := cell_of_row _ _ 0 _ _ _ HB.out
  have sc1 := cell_of_row _ _ 1 _ _ _ HB.out
  have sc2 := cell_of_row _ _ 2 _ _ _ HB.out
  have HWT := Lib.hid hwT
  clear hwT
  go_enter Tryz.func86, Tryz.ntmps86
  go_wp2_with fail
  rw [HWT.out]
  refine (HNUM.out wT HNT.out).mono ?_
  rintro e w1 ⟨rfl, hn1⟩
  obtain ⟨⟨hb12, hb13⟩, hnb⟩ := boxes2 w1 (.cells #[.int .u64 (W64 (hiN (numA 4 l))), .int .u64 (W64 (loN (numA 4 l)))] 63) (.cells #[.int .u64 (W64 (hiN (numB 4 l))), .int .u64 (W64 (loN (numB 4 l)))] 63)
  obtain ⟨wb, hwb⟩ : ∃ z, ((w1.alloc (.cells #[.int .u64 (W64 (hiN (numA 4 l))), .int .u64 (W64 (loN (numA 4 l)))] 63)).alloc (.cells #[.int .u64 (W64 (hiN (numB 4 l))), .int .u64 (W64 (loN (numB 4 l)))] 63)) = z := ⟨_, rfl⟩
  obtain ⟨q12, hq12⟩ : ∃ q, w1.heap.size = q := ⟨_, rfl⟩
  rw [hwb] at hb12 hb13 hnb
  rw [hq12] at hb12 hb13
  have HWB := Lib.hid hwb
  have HQ12 := Lib.hid hq12
  have HLE : Hid (wT.heap.size ≤ q12) := Lib.hid (by rw [← hq12]; exact hn1.le)
  have HNB := Lib.hid (hn1.trans hnb)
  have HB12 := Lib.hid hb12
  have HB13 := Lib.hid hb13
  clear hb12 hb13 hnb hwb hq12 hn1
  go_wp2_with fail
  rw [HWB.out, HQ12.out]
  refine GrowG.wp_region_growS (fun w' => ((∃ u v, w'.heap[q12]? = some (.cells #[u, v] 63 (0, 0))) ∧ (∃ u v, w'.heap[q12 + 1]? = some (.cells #[u, v] 63 (0, 0)))) ∧ New wT w') (fun w' => w'.heap[q12]? = some (.cells #[.int .u64 (W64 (hiN (numA 4 l))), .int .u64 (W64 (loN (numA 4 l)))] 63 (0, 0)) ∧ w'.heap[q12 + 1]? = some (.cells #[.int .u64 (W64 (hiN (numB 4 l))), .int .u64 (W64 (loN (numB 4 l)))] 63 (0, 0))) (fun k => [18, 23, 24].contains k) (fun k => [4, 5].contains k) (by kernel_rfl) (by kernel_rfl) (by kernel_rfl) ⟨⟨⟨_, _, HB12.out⟩, ⟨_, _, HB13.out⟩⟩, HNB.out.drew⟩ ⟨HB12.out, HB13.out⟩ ?_
  intro I _ f hall hback
  have HALL := Lib.hid hall
  have HBACK := Lib.hid hback
  have s0 := fun n => cell_of_row _ _ 0 _ _ _ (HBX.out _ (HNT.out.trans (hall n).2))
  have s1 := fun n => cell_of_row _ _ 1 _ _ _ (HBX.out _ (HNT.out.trans (hall n).2))
  have z0 := fun n => (HXC.out _ (hall n).2).1
  have z1 := fun n => (HXC.out _ (hall n).2).2.1
  have z2 := fun n => (HXC.out _ (hall n).2).2.2.1
  have z3 := fun n => (HXC.out _ (hall n).2).2.2.2
  clear hall hback
  refine GrowG.wpGrow_take 4 (by kernel_rfl) ?_
  simp only [List.take, List.drop, List.length]
  repeat (go_big_quiet_step (fail))
  refine wpQuiet_nil ?_
  refine GrowG.wpGrow_read (.agg #[.int .u64 (W64 (hiN (numA 4 l))), .int .u64 (W64 (loN (numA 4 l)))]) rfl rfl rfl (fun w1 hB hG => ?_) (fun B0 hA => ?_)
  · obtain ⟨n, rfl⟩ := hB
    have k0 := cell_of_row _ _ 0 _ _ _ hG.1
    have k1 := cell_of_row _ _ 1 _ _ _ hG.1
    clear hG
    go_simp
    try exact ⟨rfl, rfl⟩
  simp [Act.put] at hA
  subst hA
  refine GrowG.wpGrow_read (.agg #[.int .u64 (W64 (hiN (numB 4 l))), .int .u64 (W64 (loN (numB 4 l)))]) rfl rfl rfl (fun w1 hB hG => ?_) (fun B1 hA => ?_)
  · obtain ⟨n, rfl⟩ := hB
    have k0 := cell_of_row _ _ 0 _ _ _ hG.2
    have k1 := cell_of_row _ _ 1 _ _ _ hG.2
    clear hG
    go_simp
    try exact ⟨rfl, rfl⟩
  simp [Act.put] at hA
  subst hA
  refine GrowG.wpGrow_take 12 (by kernel_rfl) ?_
  simp only [List.take, List.drop, List.length]
  repeat (go_big_quiet_step (fail))
  refine wpQuiet_nil ?_
  refine GrowG.wpGrow_turn (fun v => v = .tuple #[.agg #[.int .u64 (W64 c1), .int .u64 (W64 c0)], .agg #[.int .u64 (W64 d1), .int .u64 (W64 d0)], .int .i64 E]) (fun _ _ => True) rfl rfl ⟨_, rfl⟩ (fun w1 hB hG => ?_) (fun v0 A0 hv0 hA => ?_)
  · obtain ⟨n, rfl⟩ := hB
    go_simp
    refine (HSF.out _).mono ?_
    rintro e w2 ⟨rfl, hn⟩
    obtain ⟨⟨⟨u1, v1, h1⟩, ⟨u2, v2, h2⟩⟩, hnw⟩ := HALL.out n
    have hB2 := HBACK.out _ ⟨⟨⟨_, _, (hn.block _ (lt_of_block h1)).trans h1⟩, ⟨_, _, (hn.block _ (lt_of_block h2)).trans h2⟩⟩, hnw.trans hn⟩
    first | exact ⟨_, rfl, hB2, rfl, trivial⟩ | exact ⟨rfl, hB2⟩ | exact hB2
  subst hv0
  simp [Act.put] at hA
  subst hA
  refine GrowG.wpGrow_take 4 (by kernel_rfl) ?_
  simp only [List.take, List.drop, List.length]
  repeat (go_big_quiet_step (fail))
  refine wpQuiet_nil ?_
  refine GrowG.wpGrow_turn (fun v => v = undef) (fun _ w9 => w9.heap[q12]? = some (.cells #[.int .u64 (W64 c1), .int .u64 (W64 c0)] 63 (0, 0))) rfl rfl ⟨_, rfl⟩ (fun w1 hB hG => ?_) (fun v1 A1 hv1 hA => ?_)
  · obtain ⟨n, rfl⟩ := hB
    obtain ⟨⟨h1, h2⟩, hnw⟩ := HALL.out n
    obtain ⟨u, v, hq⟩ := h1
    have hc0 := cell_of_row _ _ 0 _ _ _ hq
    have hc1 := cell_of_row _ _ 1 _ _ _ hq
    have hfr := fun i => frozen_of_row _ _ i _ _ hq
    have HQ : Hid ((((f n).setCell ⟨q12, 0, none⟩ (.int .u64 (W64 c1))).setCell ⟨q12, 1, none⟩ (.int .u64 (W64 c0))).heap[q12]? = some (.cells #[.int .u64 (W64 c1), .int .u64 (W64 c0)] 63 (0, 0))) := Lib.hid (heap_setCell_same _ (q12) 1 _ _ (.int .u64 (W64 c0)) (heap_setCell_same _ (q12) 0 _ _ (.int .u64 (W64 c1)) hq))
    have HOT : Hid (∀ j, j ≠ q12 → (((f n).setCell ⟨q12, 0, none⟩ (.int .u64 (W64 c1))).setCell ⟨q12, 1, none⟩ (.int .u64 (W64 c0))).heap[j]? = (f n).heap[j]?) := Lib.hid (fun j hj => by rw [heap_setCell_other _ _ _ _ hj, heap_setCell_other _ _ _ _ hj])
    have HO := Lib.hid h2
    have HNW : Hid (New wT (((f n).setCell ⟨q12, 0, none⟩ (.int .u64 (W64 c1))).setCell ⟨q12, 1, none⟩ (.int .u64 (W64 c0)))) := Lib.hid ((hnw.setCell (p := ⟨q12, 0, none⟩) (by show wT.heap.size ≤ q12; have := HLE.out; omega) _).setCell (p := ⟨q12, 1, none⟩) (by show wT.heap.size ≤ q12; have := HLE.out; omega) _)
    have HG := Lib.hid hG
    clear h2 hnw hq hG
    go_simp
    exact ⟨HBACK.out _ ⟨⟨⟨_, _, HQ.out⟩, (let ⟨u2, v2, h⟩ := HO.out; ⟨u2, v2, (HOT.out _ (by omega)).trans h⟩)⟩, HNW.out⟩, HQ.out⟩
  simp [Act.put] at hA
  subst hA
  refine GrowG.wpGrow_turn (fun v => v = undef) (fun _ w9 => w9.heap[q12]? = some (.cells #[.int .u64 (W64 c1), .int .u64 (W64 c0)] 63 (0, 0)) ∧ w9.heap[q12 + 1]? = some (.cells #[.int .u64 (W64 d1), .int .u64 (W64 d0)] 63 (0, 0))) rfl rfl ⟨_, rfl⟩ (fun w1 hB hG => ?_) (fun v2 A2 hv2 hA => ?_)
  · obtain ⟨n, rfl⟩ := hB
    obtain ⟨⟨h1, h2⟩, hnw⟩ := HALL.out n
    obtain ⟨u, v, hq⟩ := h2
    have hc0 := cell_of_row _ _ 0 _ _ _ hq
    have hc1 := cell_of_row _ _ 1 _ _ _ hq
    have hfr := fun i => frozen_of_row _ _ i _ _ hq
    have HQ : Hid ((((f n).setCell ⟨q12 + 1, 0, none⟩ (.int .u64 (W64 d1))).setCell ⟨q12 + 1, 1, none⟩ (.int .u64 (W64 d0))).heap[q12 + 1]? = some (.cells #[.int .u64 (W64 d1), .int .u64 (W64 d0)] 63 (0, 0))) := Lib.hid (heap_setCell_same _ (q12 + 1) 1 _ _ (.int .u64 (W64 d0)) (heap_setCell_same _ (q12 + 1) 0 _ _ (.int .u64 (W64 d1)) hq))
    have HOT : Hid (∀ j, j ≠ q12 + 1 → (((f n).setCell ⟨q12 + 1, 0, none⟩ (.int .u64 (W64 d1))).setCell ⟨q12 + 1, 1, none⟩ (.int .u64 (W64 d0))).heap[j]? = (f n).heap[j]?) := Lib.hid (fun j hj => by rw [heap_setCell_other _ _ _ _ hj, heap_setCell_other _ _ _ _ hj])
    have HO := Lib.hid h1
    have HNW : Hid (New wT (((f n).setCell ⟨q12 + 1, 0, none⟩ (.int .u64 (W64 d1))).setCell ⟨q12 + 1, 1, none⟩ (.int .u64 (W64 d0)))) := Lib.hid ((hnw.setCell (p := ⟨q12 + 1, 0, none⟩) (by show wT.heap.size ≤ q12 + 1; have := HLE.out; omega) _).setCell (p := ⟨q12 + 1, 1, none⟩) (by show wT.heap.size ≤ q12 + 1; have := HLE.out; omega) _)
    have HG := Lib.hid hG
    clear h1 hnw hq hG
    go_simp
    exact ⟨HBACK.out _ ⟨⟨(let ⟨u2, v2, h⟩ := HO.out; ⟨u2, v2, (HOT.out _ (by omega)).trans h⟩), ⟨_, _, HQ.out⟩⟩, HNW.out⟩, ⟨(HOT.out _ (by omega)).trans HG.out, HQ.out⟩⟩
  simp [Act.put] at hA
  subst hA
  refine GrowG.wpGrow_take 1 (by kernel_rfl) ?_
  simp only [List.take, List.drop, List.length]
  repeat (go_big_quiet_step (fail))
  refine wpQuiet_nil ?_
  refine GrowG.wpGrow_nil ?_
  rintro w9 ⟨n9, rfl⟩ hG
  have HNF := Lib.hid (HNT.out.trans (HALL.out n9).2)
  obtain ⟨g1, g2⟩ := hG
  have k0 := cell_of_row _ _ 0 _ _ _ g1
  have k1 := cell_of_row _ _ 1 _ _ _ g1
  have k2 := cell_of_row _ _ 0 _ _ _ g2
  have k3 := cell_of_row _ _ 1 _ _ _ g2
  have k4 := s0 n9
  clear HALL HBACK s0 s1 z0 z1 z2 z3 g1 g2 HSF HNUM HXC HBX
  generalize f n9 = w9 at *
  by_cases hE : E = 0
  · subst hE
    go_wp2_with fail
    go_ret2
    exact ⟨.inr ⟨rfl, _, _, rfl, lit_274 _ c0 c1 d0 d1⟩, HN.out.trans (HNF.out.alloc _)⟩
  · have hEb : (E != 0) = true := by rw [bne_iff_ne]; exact hE
    have HE := Lib.hid hE
    clear hE
    go_wp2_with fail
    go_ret2
    exact ⟨.inl ⟨HE.out, rfl⟩, HN.out.trans HNF.out⟩
set_option maxHeartbeats 2000000 in
theorem shp_sum31_no (b : Int) (g off c : Nat) (l : List (BitVec 64)) (px ox cx : Nat) (py oy cy : Nat) (x0 y0 : BitVec 64) (bq b9 : Nat) (w : World) (h : QRow w (some ⟨g, off, none⟩) 2 c l) (hx : QRow w (some ⟨px, ox, none⟩) 1 cx [x0]) (hy : QRow w (some ⟨py, oy, none⟩) 1 cy [y0]) (hz : chF 3 b l = 0) (h9 : w.heap[b9]? = some (.cells #[.string (nmF 3), .int .i64 (lsF 3), .int .i64 (msF 3), .int .i64 (lbF 3), .int .i64 (mbF 3), .int .i64 (kyF 3), (.func (Fn.func 82) #[] #[]), (.func (Fn.func 124) #[] #[.pointer (some ⟨bq, 0, none⟩)]), (.func (Fn.func 83) #[] #[]), (.func (Fn.func 86) #[] #[.pointer (some ⟨b9, 0, none⟩)])] 52 (0, 0))) (hE : eF 3 b l (x0 ^^^ 1#64) = 2) :
    Calls Tryz.prog 86 #[.agg (sdc 3 b (some ⟨g, off, none⟩) 2 c), .slice (some ⟨px, ox, none⟩) 1 cx, .slice (some ⟨py, oy, none⟩) 1 cy, .pointer (some ⟨b9, 0, none⟩)] w fun e w' => e = .returned (.tuple #[.slice none 0 0, .int .i64 2]) ∧ New w w' := by
  generalize hW : w.alloc (.cells (sdc 3 b (some ⟨g, off, none⟩) 2 c) 30) = w0
  have HB : Hid (w0.heap[w.heap.size]? = some (.cells (sdc 3 b (some ⟨g, off, none⟩) 2 c) 30 (0, 0))) := Lib.hid (by rw [← hW]; exact heap_alloc_new w _)
  have HN : Hid (New w w0) := Lib.hid (by rw [← hW]; exact (New.refl w).alloc _)
  have HBX := Lib.hid (fun (w' : World) (hn : New w0 w') => (hn.block _ (lt_of_block HB.out)).trans HB.out)
  have HNUM := Lib.hid (fun (w' : World) (hn : New w0 w') => numbers_3 b g off 2 c l w' ((h.stay HN.out).stay hn) rfl)
  have hx0 := (hx.stay HN.out).cell px ox rfl 0 (by omega)
  have hy0 := (hy.stay HN.out).cell py oy rfl 0 (by omega)
  rw [Nat.add_zero] at hx0 hy0
  have e8 := cell_of_row _ _ 8 _ _ _ ((HN.out.block _ (lt_of_block h9)).trans h9)
  have HEV := Lib.hid (ev_sum 3 (by omega) b g off 2 c l (x0 ^^^ 1#64) w0 (h.stay HN.out) hz)
  rw [hE] at HEV
  clear h hx hy hz h9 hE HNUM
  have sc0 := cell_of_row _ _ 0 _ _ _ HB.out
  have sc1 := cell_of_row _ _ 1 _ _ _ HB.out
  have sc2 := cell_of_row _ _ 2 _ _ _ HB.out
  go_enter Tryz.func86, Tryz.ntmps86
  go_wp2_with fail
  refine HEV.out.mono ?_
  rintro e w2 ⟨rfl, hn2⟩
  have HN2 := Lib.hid (HN.out.trans hn2)
  clear hn2 HEV
  go_wp2
  go_ret2
  exact ⟨rfl, HN2.out⟩
set_option maxHeartbeats 8000000 in
theorem shp_sum31 (b : Int) (g off c : Nat) (l : List (BitVec 64)) (px ox cx : Nat) (py oy cy : Nat) (x0 y0 : BitVec 64) (bq b9 : Nat) (w : World) (h : QRow w (some ⟨g, off, none⟩) 2 c l) (hx : QRow w (some ⟨px, ox, none⟩) 1 cx [x0]) (hy : QRow w (some ⟨py, oy, none⟩) 1 cy [y0]) (hz : chF 3 b l = 0) (h9 : w.heap[b9]? = some (.cells #[.string (nmF 3), .int .i64 (lsF 3), .int .i64 (msF 3), .int .i64 (lbF 3), .int .i64 (mbF 3), .int .i64 (kyF 3), (.func (Fn.func 82) #[] #[]), (.func (Fn.func 124) #[] #[.pointer (some ⟨bq, 0, none⟩)]), (.func (Fn.func 83) #[] #[]), (.func (Fn.func 86) #[] #[.pointer (some ⟨b9, 0, none⟩)])] 52 (0, 0))) (hE : eF 3 b l (x0 ^^^ 1#64) = 0) (c1 c0 d1 d0 : BitVec 64) (E : Int) (HSF : Hid (∀ w : World, Calls Tryz.prog 87 #[.int .i64 3, .int .i64 b, .agg #[.int .u64 (W64 (hiN (numA 3 l))), .int .u64 (W64 (loN (numA 3 l)))], .agg #[.int .u64 (W64 (hiN (numB 3 l))), .int .u64 (W64 (loN (numB 3 l)))], .int .u64 (W64 x0), .int .u64 (W64 (x0 ^^^ 1#64)), .int .u64 (W64 y0), .int .u64 (W64 (vF 3 b l (x0 ^^^ 1#64)))] w fun e w' => e = .returned (.tuple #[.agg #[.int .u64 (W64 c1), .int .u64 (W64 c0)], .agg #[.int .u64 (W64 d1), .int .u64 (W64 d0)], .int .i64 E]) ∧ New w w')) :
    Calls Tryz.prog 86 #[.agg (sdc 3 b (some ⟨g, off, none⟩) 2 c), .slice (some ⟨px, ox, none⟩) 1 cx, .slice (some ⟨py, oy, none⟩) 1 cy, .pointer (some ⟨b9, 0, none⟩)] w fun e w' => SHR w w' 2 e E [c0, d0] := by
  generalize hW : w.alloc (.cells (sdc 3 b (some ⟨g, off, none⟩) 2 c) 30) = w0
  have HB : Hid (w0.heap[w.heap.size]? = some (.cells (sdc 3 b (some ⟨g, off, none⟩) 2 c) 30 (0, 0))) := Lib.hid (by rw [← hW]; exact heap_alloc_new w _)
  have HN : Hid (New w w0) := Lib.hid (by rw [← hW]; exact (New.refl w).alloc _)
  have HBX := Lib.hid (fun (w' : World) (hn : New w0 w') => (hn.block _ (lt_of_block HB.out)).trans HB.out)
  have HNUM := Lib.hid (fun (w' : World) (hn : New w0 w') => numbers_3 b g off 2 c l w' ((h.stay HN.out).stay hn) rfl)
  have hx0 := (hx.stay HN.out).cell px ox rfl 0 (by omega)
  have hy0 := (hy.stay HN.out).cell py oy rfl 0 (by omega)
  rw [Nat.add_zero] at hx0 hy0
  have e8 := cell_of_row _ _ 8 _ _ _ ((HN.out.block _ (lt_of_block h9)).trans h9)
  have HEV := Lib.hid (ev_sum 3 (by omega) b g off 2 c l (x0 ^^^ 1#64) w0 (h.stay HN.out) hz)
  rw [hE] at HEV
  have HXO := Lib.hid (fun (w' : World) (hn : New w0 w') => (hx.stay (HN.out.trans hn)).cell px ox rfl 0 (by omega))
  have HYO := Lib.hid (fun (w' : World) (hn : New w0 w') => (hy.stay (HN.out.trans hn)).cell py oy rfl 0 (by omega))
  clear h hx hy hz h9 hE
  generalize vF 3 b l (x0 ^^^ 1#64) = vv at *
  have sc0 := cell_of_row _ _ 0 _ _ _ HB.out
  have sc1 := cell_of_row _ _ 1 _ _ _ HB.out
  have sc2 := cell_of_row _ _ 2 _ _ _ HB.out
  go_enter Tryz.func86, Tryz.ntmps86
  go_wp2_with fail
  refine HEV.out.mono ?_
  rintro e w2 ⟨rfl, hn2⟩
  have HN2 := Lib.hid hn2
  clear hn2 HEV hx0 hy0 e8 sc0 sc1 sc2
  go_wp2_with fail
  go_cut [1, 2] (fun u v wx => ∃ gx gy, u = .slice (some ⟨gx, 0, none⟩) 2 2 ∧ v = .slice (some ⟨gy, 0, none⟩) 2 2 ∧ wx.heap[gx]? = some (.cells #[.int .u64 (W64 x0), .int .u64 (W64 (x0 ^^^ 1#64))] 31 (0, 0)) ∧ wx.heap[gy]? = some (.cells #[.int .u64 (W64 y0), .int .u64 (W64 vv)] 31 (0, 0)) ∧ New w2 wx)
  case first =>
    have SK : Hid (∀ w', New w2 w' → New w2 w' ∧ w'.cell? ⟨px, ox, none⟩ = some (.int .u64 (W64 x0)) ∧ w'.cell? ⟨py, oy, none⟩ = some (.int .u64 (W64 y0))) := Lib.hid (fun w' hn => ⟨hn, HXO.out _ (HN2.out.trans hn), HYO.out _ (HN2.out.trans hn)⟩)
    obtain ⟨_, ce0, ce1⟩ := SK.out w2 (New.refl _)
    clear HSF HNUM HXO HYO HBX HB HN
    go_region_held3 (fun w' => New w2 w' ∧ w'.cell? ⟨px, ox, none⟩ = some (.int .u64 (W64 x0)) ∧ w'.cell? ⟨py, oy, none⟩ = some (.int .u64 (W64 y0)))
      ((refine SK.out _ ?_; repeat (first | with_reducible assumption | with_reducible exact New.refl _ | with_reducible apply New.drew | with_reducible refine New.alloc ?_ _)))
      (fail)
    all_goals (
      go_wp2_with fail
      go_meet
      case rel =>
        first
          | exact ⟨_, _, rfl, rfl, (boxes2 w2 _ _).1.1, (boxes2 w2 _ _).1.2, (((New.refl w2).alloc _).alloc _).drew⟩
          | exact ⟨_, _, rfl, rfl, (boxes2 w2 _ _).1.2, (boxes2 w2 _ _).1.1, (((New.refl w2).alloc _).alloc _).drew⟩
          | exact ⟨_, _, rfl, rfl, (boxes2 w2 _ _).1.1, (boxes2 w2 _ _).1.2, ((New.refl w2).alloc _).alloc _⟩
          | exact ⟨_, _, rfl, rfl, (boxes2 w2 _ _).1.2, (boxes2 w2 _ _).1.1, ((New.refl w2).alloc _).alloc _⟩)
  case rest =>
    obtain ⟨gx, gy, rfl, rfl, hgx, hgy, hnc⟩ := hcut
    obtain ⟨wT, hwT⟩ : ∃ z, wc = z := ⟨_, rfl⟩
    rw [hwT] at hgx hgy hnc
    have HNT : Hid (New w0 wT) := Lib.hid (HN2.out.trans hnc)
    have HXC : Hid (∀ w', New wT w' → w'.cell? ⟨gx, 0, none⟩ = some (.int .u64 (W64 x0)) ∧ w'.cell? ⟨gx, 1, none⟩ = some (.int .u64 (W64 (x0 ^^^ 1#64))) ∧ w'.cell? ⟨gy, 0, none⟩ = some (.int .u64 (W64 y0)) ∧ w'.cell? ⟨gy, 1, none⟩ = some (.int .u64 (W64 vv))) := Lib.hid (fun w' hn => by
      have h1 := (hn.block _ (lt_of_block hgx)).trans hgx
      have h2 := (hn.block _ (lt_of_block hgy)).trans hgy
      exact ⟨cell_of_row _ _ 0 _ _ _ h1, cell_of_row _ _ 1 _ _ _ h1, cell_of_row _ _ 0 _ _ _ h2, cell_of_row _ _ 1 _ _ _ h2⟩)
    have HWT := Lib.hid hwT
    have HBT := HBX.out _ HNT.out
    have sc0 := cell_of_row _ _ 0 _ _ _ HBT
    have sc1 := cell_of_row _ _ 1 _ _ _ HBT
    have sc2 := cell_of_row _ _ 2 _ _ _ HBT
    rw [← hwT] at sc0 sc1 sc2
    clear hgx hgy hnc hwT HBT HXO HYO
    go_wp2_with fail
    rw [HWT.out]
    refine (HNUM.out wT HNT.out).mono ?_
    rintro e w1 ⟨rfl, hn1⟩
    obtain ⟨⟨hb12, hb13⟩, hnb⟩ := boxes2 w1 (.cells #[.int .u64 (W64 (hiN (numA 3 l))), .int .u64 (W64 (loN (numA 3 l)))] 63) (.cells #[.int .u64 (W64 (hiN (numB 3 l))), .int .u64 (W64 (loN (numB 3 l)))] 63)
    obtain ⟨wb, hwb⟩ : ∃ z, ((w1.alloc (.cells #[.int .u64 (W64 (hiN (numA 3 l))), .int .u64 (W64 (loN (numA 3 l)))] 63)).alloc (.cells #[.int .u64 (W64 (hiN (numB 3 l))), .int .u64 (W64 (loN (numB 3 l)))] 63)) = z := ⟨_, rfl⟩
    obtain ⟨q12, hq12⟩ : ∃ q, w1.heap.size = q := ⟨_, rfl⟩
    rw [hwb] at hb12 hb13 hnb
    rw [hq12] at hb12 hb13
    have HWB := Lib.hid hwb
    have HQ12 := Lib.hid hq12
    have HLE : Hid (wT.heap.size ≤ q12) := Lib.hid (by rw [← hq12]; exact hn1.le)
    have HNB := Lib.hid (hn1.trans hnb)
    have HB12 := Lib.hid hb12
    have HB13 := Lib.hid hb13
    clear hb12 hb13 hnb hwb hq12 hn1
    go_wp2_with fail
    rw [HWB.out, HQ12.out]
    refine GrowG.wp_region_growS (fun w' => ((∃ u v, w'.heap[q12]? = some (.cells #[u, v] 63 (0, 0))) ∧ (∃ u v, w'.heap[q12 + 1]? = some (.cells #[u, v] 63 (0, 0)))) ∧ New wT w') (fun w' => w'.heap[q12]? = some (.cells #[.int .u64 (W64 (hiN (numA 3 l))), .int .u64 (W64 (loN (numA 3 l)))] 63 (0, 0)) ∧ w'.heap[q12 + 1]? = some (.cells #[.int .u64 (W64 (hiN (numB 3 l))), .int .u64 (W64 (loN (numB 3 l)))] 63 (0, 0))) (fun k => [18, 23, 24].contains k) (fun k => [4, 5].contains k) (by kernel_rfl) (by kernel_rfl) (by kernel_rfl) ⟨⟨⟨_, _, HB12.out⟩, ⟨_, _, HB13.out⟩⟩, HNB.out.drew⟩ ⟨HB12.out, HB13.out⟩ ?_
    intro I _ f hall hback
    have HALL := Lib.hid hall
    have HBACK := Lib.hid hback
    have s0 := fun n => cell_of_row _ _ 0 _ _ _ (HBX.out _ (HNT.out.trans (hall n).2))
    have s1 := fun n => cell_of_row _ _ 1 _ _ _ (HBX.out _ (HNT.out.trans (hall n).2))
    have z0 := fun n => (HXC.out _ (hall n).2).1
    have z1 := fun n => (HXC.out _ (hall n).2).2.1
    have z2 := fun n => (HXC.out _ (hall n).2).2.2.1
    have z3 := fun n => (HXC.out _ (hall n).2).2.2.2
    clear hall hback
    refine GrowG.wpGrow_take 4 (by kernel_rfl) ?_
    simp only [List.take, List.drop, List.length]
    repeat (go_big_quiet_step (fail))
    refine wpQuiet_nil ?_
    refine GrowG.wpGrow_read (.agg #[.int .u64 (W64 (hiN (numA 3 l))), .int .u64 (W64 (loN (numA 3 l)))]) rfl rfl rfl (fun w1 hB hG => ?_) (fun B0 hA => ?_)
    · obtain ⟨n, rfl⟩ := hB
      have k0 := cell_of_row _ _ 0 _ _ _ hG.1
      have k1 := cell_of_row _ _ 1 _ _ _ hG.1
      clear hG
      go_simp
      try exact ⟨rfl, rfl⟩
    simp [Act.put] at hA
    subst hA
    refine GrowG.wpGrow_read (.agg #[.int .u64 (W64 (hiN (numB 3 l))), .int .u64 (W64 (loN (numB 3 l)))]) rfl rfl rfl (fun w1 hB hG => ?_) (fun B1 hA => ?_)
    · obtain ⟨n, rfl⟩ := hB
      have k0 := cell_of_row _ _ 0 _ _ _ hG.2
      have k1 := cell_of_row _ _ 1 _ _ _ hG.2
      clear hG
      go_simp
      try exact ⟨rfl, rfl⟩
    simp [Act.put] at hA
    subst hA
    refine GrowG.wpGrow_take 12 (by kernel_rfl) ?_
    simp only [List.take, List.drop, List.length]
    repeat (go_big_quiet_step (fail))
    refine wpQuiet_nil ?_
    refine GrowG.wpGrow_turn (fun v => v = .tuple #[.agg #[.int .u64 (W64 c1), .int .u64 (W64 c0)], .agg #[.int .u64 (W64 d1), .int .u64 (W64 d0)], .int .i64 E]) (fun _ _ => True) rfl rfl ⟨_, rfl⟩ (fun w1 hB hG => ?_) (fun v0 A0 hv0 hA => ?_)
    · obtain ⟨n, rfl⟩ := hB
      go_simp
      refine (HSF.out _).mono ?_
      rintro e w2 ⟨rfl, hn⟩
      obtain ⟨⟨⟨u1, v1, h1⟩, ⟨u2, v2, h2⟩⟩, hnw⟩ := HALL.out n
      have hB2 := HBACK.out _ ⟨⟨⟨_, _, (hn.block _ (lt_of_block h1)).trans h1⟩, ⟨_, _, (hn.block _ (lt_of_block h2)).trans h2⟩⟩, hnw.trans hn⟩
      first | exact ⟨_, rfl, hB2, rfl, trivial⟩ | exact ⟨rfl, hB2⟩ | exact hB2
    subst hv0
    simp [Act.put] at hA
    subst hA
    refine GrowG.wpGrow_take 4 (by kernel_rfl) ?_
    simp only [List.take, List.drop, List.length]
    repeat (go_big_quiet_step (fail))
    refine wpQuiet_nil ?_
    refine GrowG.wpGrow_turn (fun v => v = undef) (fun _ w9 => w9.heap[q12]? = some (.cells #[.int .u64 (W64 c1), .int .u64 (W64 c0)] 63 (0, 0))) rfl rfl ⟨_, rfl⟩ (fun w1 hB hG => ?_) (fun v1 A1 hv1 hA => ?_)
    · obtain ⟨n, rfl⟩ := hB
      obtain ⟨⟨h1, h2⟩, hnw⟩ := HALL.out n
      obtain ⟨u, v, hq⟩ := h1
      have hc0 := cell_of_row _ _ 0 _ _ _ hq
      have hc1 := cell_of_row _ _ 1 _ _ _ hq
      have hfr := fun i => frozen_of_row _ _ i _ _ hq
      have HQ : Hid ((((f n).setCell ⟨q12, 0, none⟩ (.int .u64 (W64 c1))).setCell ⟨q12, 1, none⟩ (.int .u64 (W64 c0))).heap[q12]? = some (.cells #[.int .u64 (W64 c1), .int .u64 (W64 c0)] 63 (0, 0))) := Lib.hid (heap_setCell_same _ (q12) 1 _ _ (.int .u64 (W64 c0)) (heap_setCell_same _ (q12) 0 _ _ (.int .u64 (W64 c1)) hq))
      have HOT : Hid (∀ j, j ≠ q12 → (((f n).setCell ⟨q12, 0, none⟩ (.int .u64 (W64 c1))).setCell ⟨q12, 1, none⟩ (.int .u64 (W64 c0))).heap[j]? = (f n).heap[j]?) := Lib.hid (fun j hj => by rw [heap_setCell_other _ _ _ _ hj, heap_setCell_other _ _ _ _ hj])
      have HO := Lib.hid h2
      have HNW : Hid (New wT (((f n).setCell ⟨q12, 0, none⟩ (.int .u64 (W64 c1))).setCell ⟨q12, 1, none⟩ (.int .u64 (W64 c0)))) := Lib.hid ((hnw.setCell (p := ⟨q12, 0, none⟩) (by show wT.heap.size ≤ q12; have := HLE.out; omega) _).setCell (p := ⟨q12, 1, none⟩) (by show wT.heap.size ≤ q12; have := HLE.out; omega) _)
      have HG := Lib.hid hG
      clear h2 hnw hq hG
      go_simp
      exact ⟨HBACK.out _ ⟨⟨⟨_, _, HQ.out⟩, (let ⟨u2, v2, h⟩ := HO.out; ⟨u2, v2, (HOT.out _ (by omega)).trans h⟩)⟩, HNW.out⟩, HQ.out⟩
    simp [Act.put] at hA
    subst hA
    refine GrowG.wpGrow_turn (fun v => v = undef) (fun _ w9 => w9.heap[q12]? = some (.cells #[.int .u64 (W64 c1), .int .u64 (W64 c0)] 63 (0, 0)) ∧ w9.heap[q12 + 1]? = some (.cells #[.int .u64 (W64 d1), .int .u64 (W64 d0)] 63 (0, 0))) rfl rfl ⟨_, rfl⟩ (fun w1 hB hG => ?_) (fun v2 A2 hv2 hA => ?_)
    · obtain ⟨n, rfl⟩ := hB
      obtain ⟨⟨h1, h2⟩, hnw⟩ := HALL.out n
      obtain ⟨u, v, hq⟩ := h2
      have hc0 := cell_of_row _ _ 0 _ _ _ hq
      have hc1 := cell_of_row _ _ 1 _ _ _ hq
      have hfr := fun i => frozen_of_row _ _ i _ _ hq
      have HQ : Hid ((((f n).setCell ⟨q12 + 1, 0, none⟩ (.int .u64 (W64 d1))).setCell ⟨q12 + 1, 1, none⟩ (.int .u64 (W64 d0))).heap[q12 + 1]? = some (.cells #[.int .u64 (W64 d1), .int .u64 (W64 d0)] 63 (0, 0))) := Lib.hid (heap_setCell_same _ (q12 + 1) 1 _ _ (.int .u64 (W64 d0)) (heap_setCell_same _ (q12 + 1) 0 _ _ (.int .u64 (W64 d1)) hq))
      have HOT : Hid (∀ j, j ≠ q12 + 1 → (((f n).setCell ⟨q12 + 1, 0, none⟩ (.int .u64 (W64 d1))).setCell ⟨q12 + 1, 1, none⟩ (.int .u64 (W64 d0))).heap[j]? = (f n).heap[j]?) := Lib.hid (fun j hj => by rw [heap_setCell_other _ _ _ _ hj, heap_setCell_other _ _ _ _ hj])
      have HO := Lib.hid h1
      have HNW : Hid (New wT (((f n).setCell ⟨q12 + 1, 0, none⟩ (.int .u64 (W64 d1))).setCell ⟨q12 + 1, 1, none⟩ (.int .u64 (W64 d0)))) := Lib.hid ((hnw.setCell (p := ⟨q12 + 1, 0, none⟩) (by show wT.heap.size ≤ q12 + 1; have := HLE.out; omega) _).setCell (p := ⟨q12 + 1, 1, none⟩) (by show wT.heap.size ≤ q12 + 1; have := HLE.out; omega) _)
      have HG := Lib.hid hG
      clear h1 hnw hq hG
      go_simp
      exact ⟨HBACK.out _ ⟨⟨(let ⟨u2, v2, h⟩ := HO.out; ⟨u2, v2, (HOT.out _ (by omega)).trans h⟩), ⟨_, _, HQ.out⟩⟩, HNW.out⟩, ⟨(HOT.out _ (by omega)).trans HG.out, HQ.out⟩⟩
    simp [Act.put] at hA
    subst hA
    refine GrowG.wpGrow_take 1 (by kernel_rfl) ?_
    simp only [List.take, List.drop, List.length]
    repeat (go_big_quiet_step (fail))
    refine wpQuiet_nil ?_
    refine GrowG.wpGrow_nil ?_
    rintro w9 ⟨n9, rfl⟩ hG
    have HNF := Lib.hid (HNT.out.trans (HALL.out n9).2)
    obtain ⟨g1, g2⟩ := hG
    have k0 := cell_of_row _ _ 0 _ _ _ g1
    have k1 := cell_of_row _ _ 1 _ _ _ g1
    have k2 := cell_of_row _ _ 0 _ _ _ g2
    have k3 := cell_of_row _ _ 1 _ _ _ g2
    have k4 := s0 n9
    clear HALL HBACK s0 s1 z0 z1 z2 z3 g1 g2 HSF HNUM HXC HBX
    generalize f n9 = w9 at *
    by_cases hE : E = 0
    · subst hE
      go_wp2_with fail
      go_ret2
      exact ⟨.inr ⟨rfl, _, _, rfl, lit_273 _ c0 d0⟩, HN.out.trans (HNF.out.alloc _)⟩
    · have hEb : (E != 0) = true := by rw [bne_iff_ne]; exact hE
      have HE := Lib.hid hE
      clear hE
      go_wp2_with fail
      go_ret2
      exact ⟨.inl ⟨HE.out, rfl⟩, HN.out.trans HNF.out⟩
set_option maxHeartbeats 8000000 in
theorem shp_sum41 (b : Int) (g off c : Nat) (l : List (BitVec 64)) (px ox cx : Nat) (py oy cy : Nat) (x0 y0 : BitVec 64) (bq b9 : Nat) (w : World) (h : QRow w (some ⟨g, off, none⟩) 4 c l) (hx : QRow w (some ⟨px, ox, none⟩) 1 cx [x0]) (hy : QRow w (some ⟨py, oy, none⟩) 1 cy [y0]) (hz : chF 4 b l = 0) (h9 : w.heap[b9]? = some (.cells #[.string (nmF 4), .int .i64 (lsF 4), .int .i64 (msF 4), .int .i64 (lbF 4), .int .i64 (mbF 4), .int .i64 (kyF 4), (.func (Fn.func 82) #[] #[]), (.func (Fn.func 124) #[] #[.pointer (some ⟨bq, 0, none⟩)]), (.func (Fn.func 83) #[] #[]), (.func (Fn.func 86) #[] #[.pointer (some ⟨b9, 0, none⟩)])] 52 (0, 0))) (hE : eF 4 b l (x0 ^^^ 1#64) = 0) (c1 c0 d1 d0 : BitVec 64) (E : Int) (HSF : Hid (∀ w : World, Calls Tryz.prog 87 #[.int .i64 4, .int .i64 b, .agg #[.int .u64 (W64 (hiN (numA 4 l))), .int .u64 (W64 (loN (numA 4 l)))], .agg #[.int .u64 (W64 (hiN (numB 4 l))), .int .u64 (W64 (loN (numB 4 l)))], .int .u64 (W64 x0), .int .u64 (W64 (x0 ^^^ 1#64)), .int .u64 (W64 y0), .int .u64 (W64 (vF 4 b l (x0 ^^^ 1#64)))] w fun e w' => e = .returned (.tuple #[.agg #[.int .u64 (W64 c1), .int .u64 (W64 c0)], .agg #[.int .u64 (W64 d1), .int .u64 (W64 d0)], .int .i64 E]) ∧ New w w')) :
    Calls Tryz.prog 86 #[.agg (sdc 4 b (some ⟨g, off, none⟩) 4 c), .slice (some ⟨px, ox, none⟩) 1 cx, .slice (some ⟨py, oy, none⟩) 1 cy, .pointer (some ⟨b9, 0, none⟩)] w fun e w' => SHR w w' 4 e E [c0, c1, d0, d1] := by
  generalize hW : w.alloc (.cells (sdc 4 b (some ⟨g, off, none⟩) 4 c) 30) = w0
  have HB : Hid (w0.heap[w.heap.size]? = some (.cells (sdc 4 b (some ⟨g, off, none⟩) 4 c) 30 (0, 0))) := Lib.hid (by rw [← hW]; exact heap_alloc_new w _)
  have HN : Hid (New w w0) := Lib.hid (by rw [← hW]; exact (New.refl w).alloc _)
  have HBX := Lib.hid (fun (w' : World) (hn : New w0 w') => (hn.block _ (lt_of_block HB.out)).trans HB.out)
  have HNUM := Lib.hid (fun (w' : World) (hn : New w0 w') => numbers_4 b g off 4 c l w' ((h.stay HN.out).stay hn) rfl)
  have hx0 := (hx.stay HN.out).cell px ox rfl 0 (by omega)
  have hy0 := (hy.stay HN.out).cell py oy rfl 0 (by omega)
  rw [Nat.add_zero] at hx0 hy0
  have e8 := cell_of_row _ _ 8 _ _ _ ((HN.out.block _ (lt_of_block h9)).trans h9)
  have HEV := Lib.hid (ev_sum 4 (by omega) b g off 4 c l (x0 ^^^ 1#64) w0 (h.stay HN.out) hz)
  rw [hE] at HEV
  have HXO := Lib.hid (fun (w' : World) (hn : New w0 w') => (hx.stay (HN.out.trans hn)).cell px ox rfl 0 (by omega))
  have HYO := Lib.hid (fun (w' : World) (hn : New w0 w') => (hy.stay (HN.out.trans hn)).cell py oy rfl 0 (by omega))
  clear h hx hy hz h9 hE
  generalize vF 4 b l (x0 ^^^ 1#64) = vv at *
  have sc0 := cell_of_row _ _ 0 _ _ _ HB.out
  have sc1 := cell_of_row _ _ 1 _ _ _ HB.out
  have sc2 := cell_of_row _ _ 2 _ _ _ HB.out
  go_enter Tryz.func86, Tryz.ntmps86
  go_wp2_with fail
  refine HEV.out.mono ?_
  rintro e w2 ⟨rfl, hn2⟩
  have HN2 := Lib.hid hn2
  clear hn2 HEV hx0 hy0 e8 sc0 sc1 sc2
  go_wp2_with fail
  go_cut [1, 2] (fun u v wx => ∃ gx gy, u = .slice (some ⟨gx, 0, none⟩) 2 2 ∧ v = .slice (some ⟨gy, 0, none⟩) 2 2 ∧ wx.heap[gx]? = some (.cells #[.int .u64 (W64 x0), .int .u64 (W64 (x0 ^^^ 1#64))] 31 (0, 0)) ∧ wx.heap[gy]? = some (.cells #[.int .u64 (W64 y0), .int .u64 (W64 vv)] 31 (0, 0)) ∧ New w2 wx)
  case first =>
    have SK : Hid (∀ w', New w2 w' → New w2 w' ∧ w'.cell? ⟨px, ox, none⟩ = some (.int .u64 (W64 x0)) ∧ w'.cell? ⟨py, oy, none⟩ = some (.int .u64 (W64 y0))) := Lib.hid (fun w' hn => ⟨hn, HXO.out _ (HN2.out.trans hn), HYO.out _ (HN2.out.trans hn)⟩)
    obtain ⟨_, ce0, ce1⟩ := SK.out w2 (New.refl _)
    clear HSF HNUM HXO HYO HBX HB HN
    go_region_held3 (fun w' => New w2 w' ∧ w'.cell? ⟨px, ox, none⟩ = some (.int .u64 (W64 x0)) ∧ w'.cell? ⟨py, oy, none⟩ = some (.int .u64 (W64 y0)))
      ((refine SK.out _ ?_; repeat (first | with_reducible assumption | with_reducible exact New.refl _ | with_reducible apply New.drew | with_reducible refine New.alloc ?_ _)))
      (fail)
    all_goals (
      go_wp2_with fail
      go_meet
      case rel =>
        first
          | exact ⟨_, _, rfl, rfl, (boxes2 w2 _ _).1.1, (boxes2 w2 _ _).1.2, (((New.refl w2).alloc _).alloc _).drew⟩
          | exact ⟨_, _, rfl, rfl, (boxes2 w2 _ _).1.2, (boxes2 w2 _ _).1.1, (((New.refl w2).alloc _).alloc _).drew⟩
          | exact ⟨_, _, rfl, rfl, (boxes2 w2 _ _).1.1, (boxes2 w2 _ _).1.2, ((New.refl w2).alloc _).alloc _⟩
          | exact ⟨_, _, rfl, rfl, (boxes2 w2 _ _).1.2, (boxes2 w2 _ _).1.1, ((New.refl w2).alloc _).alloc _⟩)
  case rest =>
    obtain ⟨gx, gy, rfl, rfl, hgx, hgy, hnc⟩ := hcut
    obtain ⟨wT, hwT⟩ : ∃ z, wc = z := ⟨_, rfl⟩
    rw [hwT] at hgx hgy hnc
    have HNT : Hid (New w0 wT) := Lib.hid (HN2.out.trans hnc)
    have HXC : Hid (∀ w', New wT w' → w'.cell? ⟨gx, 0, none⟩ = some (.int .u64 (W64 x0)) ∧ w'.cell? ⟨gx, 1, none⟩ = some (.int .u64 (W64 (x0 ^^^ 1#64))) ∧ w'.cell? ⟨gy, 0, none⟩ = some (.int .u64 (W64 y0)) ∧ w'.cell? ⟨gy, 1, none⟩ = some (.int .u64 (W64 vv))) := Lib.hid (fun w' hn => by
      have h1 := (hn.block _ (lt_of_block hgx)).trans hgx
      have h2 := (hn.block _ (lt_of_block hgy)).trans hgy
      exact ⟨cell_of_row _ _ 0 _ _ _ h1, cell_of_row _ _ 1 _ _ _ h1, cell_of_row _ _ 0 _ _ _ h2, cell_of_row _ _ 1 _ _ _ h2⟩)
    have HWT := Lib.hid hwT
    have HBT := HBX.out _ HNT.out
    have sc0 := cell_of_row _ _ 0 _ _ _ HBT
    have sc1 := cell_of_row _ _ 1 _ _ _ HBT
    have sc2 := cell_of_row _ _ 2 _ _ _ HBT
    rw [← hwT] at sc0 sc1 sc2
    clear hgx hgy hnc hwT HBT HXO HYO
    go_wp2_with fail
    rw [HWT.out]
    refine (HNUM.out wT HNT.out).mono ?_
    rintro e w1 ⟨rfl, hn1⟩
    obtain ⟨⟨hb12, hb13⟩, hnb⟩ := boxes2 w1 (.cells #[.int .u64 (W64 (hiN (numA 4 l))), .int .u64 (W64 (loN (numA 4 l)))] 63) (.cells #[.int .u64 (W64 (hiN (numB 4 l))), .int .u64 (W64 (loN (numB 4 l)))] 63)
    obtain ⟨wb, hwb⟩ : ∃ z, ((w1.alloc (.cells #[.int .u64 (W64 (hiN (numA 4 l))), .int .u64 (W64 (loN (numA 4 l)))] 63)).alloc (.cells #[.int .u64 (W64 (hiN (numB 4 l))), .int .u64 (W64 (loN (numB 4 l)))] 63)) = z := ⟨_, rfl⟩
    obtain ⟨q12, hq12⟩ : ∃ q, w1.heap.size = q := ⟨_, rfl⟩
    rw [hwb] at hb12 hb13 hnb
    rw [hq12] at hb12 hb13
    have HWB := Lib.hid hwb
    have HQ12 := Lib.hid hq12
    have HLE : Hid (wT.heap.size ≤ q12) := Lib.hid (by rw [← hq12]; exact hn1.le)
    have HNB := Lib.hid (hn1.trans hnb)
    have HB12 := Lib.hid hb12
    have HB13 := Lib.hid hb13
    clear hb12 hb13 hnb hwb hq12 hn1
    go_wp2_with fail
    rw [HWB.out, HQ12.out]
    refine GrowG.wp_region_growS (fun w' => ((∃ u v, w'.heap[q12]? = some (.cells #[u, v] 63 (0, 0))) ∧ (∃ u v, w'.heap[q12 + 1]? = some (.cells #[u, v] 63 (0, 0)))) ∧ New wT w') (fun w' => w'.heap[q12]? = some (.cells #[.int .u64 (W64 (hiN (numA 4 l))), .int .u64 (W64 (loN (numA 4 l)))] 63 (0, 0)) ∧ w'.heap[q12 + 1]? = some (.cells #[.int .u64 (W64 (hiN (numB 4 l))), .int .u64 (W64 (loN (numB 4 l)))] 63 (0, 0))) (fun k => [18, 23, 24].contains k) (fun k => [4, 5].contains k) (by kernel_rfl) (by kernel_rfl) (by kernel_rfl) ⟨⟨⟨_, _, HB12.out⟩, ⟨_, _, HB13.out⟩⟩, HNB.out.drew⟩ ⟨HB12.out, HB13.out⟩ ?_
    intro I _ f hall hback
    have HALL := Lib.hid hall
    have HBACK := Lib.hid hback
    have s0 := fun n => cell_of_row _ _ 0 _ _ _ (HBX.out _ (HNT.out.trans (hall n).2))
    have s1 := fun n => cell_of_row _ _ 1 _ _ _ (HBX.out _ (HNT.out.trans (hall n).2))
    have z0 := fun n => (HXC.out _ (hall n).2).1
    have z1 := fun n => (HXC.out _ (hall n).2).2.1
    have z2 := fun n => (HXC.out _ (hall n).2).2.2.1
    have z3 := fun n => (HXC.out _ (hall n).2).2.2.2
    clear hall hback
    refine GrowG.wpGrow_take 4 (by kernel_rfl) ?_
    simp only [List.take, List.drop, List.length]
    repeat (go_big_quiet_step (fail))
    refine wpQuiet_nil ?_
    refine GrowG.wpGrow_read (.agg #[.int .u64 (W64 (hiN (numA 4 l))), .int .u64 (W64 (loN (numA 4 l)))]) rfl rfl rfl (fun w1 hB hG => ?_) (fun B0 hA => ?_)
    · obtain ⟨n, rfl⟩ := hB
      have k0 := cell_of_row _ _ 0 _ _ _ hG.1
      have k1 := cell_of_row _ _ 1 _ _ _ hG.1
      clear hG
      go_simp
      try exact ⟨rfl, rfl⟩
    simp [Act.put] at hA
    subst hA
    refine GrowG.wpGrow_read (.agg #[.int .u64 (W64 (hiN (numB 4 l))), .int .u64 (W64 (loN (numB 4 l)))]) rfl rfl rfl (fun w1 hB hG => ?_) (fun B1 hA => ?_)
    · obtain ⟨n, rfl⟩ := hB
      have k0 := cell_of_row _ _ 0 _ _ _ hG.2
      have k1 := cell_of_row _ _ 1 _ _ _ hG.2
      clear hG
      go_simp
      try exact ⟨rfl, rfl⟩
    simp [Act.put] at hA
    subst hA
    refine GrowG.wpGrow_take 12 (by kernel_rfl) ?_
    simp only [List.take, List.drop, List.length]
    repeat (go_big_quiet_step (fail))
    refine wpQuiet_nil ?_
    refine GrowG.wpGrow_turn (fun v => v = .tuple #[.agg #[.int .u64 (W64 c1), .int .u64 (W64 c0)], .agg #[.int .u64 (W64 d1), .int .u64 (W64 d0)], .int .i64 E]) (fun _ _ => True) rfl rfl ⟨_, rfl⟩ (fun w1 hB hG => ?_) (fun v0 A0 hv0 hA => ?_)
    · obtain ⟨n, rfl⟩ := hB
      go_simp
      refine (HSF.out _).mono ?_
      rintro e w2 ⟨rfl, hn⟩
      obtain ⟨⟨⟨u1, v1, h1⟩, ⟨u2, v2, h2⟩⟩, hnw⟩ := HALL.out n
      have hB2 := HBACK.out _ ⟨⟨⟨_, _, (hn.block _ (lt_of_block h1)).trans h1⟩, ⟨_, _, (hn.block _ (lt_of_block h2)).trans h2⟩⟩, hnw.trans hn⟩
      first | exact ⟨_, rfl, hB2, rfl, trivial⟩ | exact ⟨rfl, hB2⟩ | exact hB2
    subst hv0
    simp [Act.put] at hA
    subst hA
    refine GrowG.wpGrow_take 4 (by kernel_rfl) ?_
    simp only [List.take, List.drop, List.length]
    repeat (go_big_quiet_step (fail))
    refine wpQuiet_nil ?_
    refine GrowG.wpGrow_turn (fun v => v = undef) (fun _ w9 => w9.heap[q12]? = some (.cells #[.int .u64 (W64 c1), .int .u64 (W64 c0)] 63 (0, 0))) rfl rfl ⟨_, rfl⟩ (fun w1 hB hG => ?_) (fun v1 A1 hv1 hA => ?_)
    · obtain ⟨n, rfl⟩ := hB
      obtain ⟨⟨h1, h2⟩, hnw⟩ := HALL.out n
      obtain ⟨u, v, hq⟩ := h1
      have hc0 := cell_of_row _ _ 0 _ _ _ hq
      have hc1 := cell_of_row _ _ 1 _ _ _ hq
      have hfr := fun i => frozen_of_row _ _ i _ _ hq
      have HQ : Hid ((((f n).setCell ⟨q12, 0, none⟩ (.int .u64 (W64 c1))).setCell ⟨q12, 1, none⟩ (.int .u64 (W64 c0))).heap[q12]? = some (.cells #[.int .u64 (W64 c1), .int .u64 (W64 c0)] 63 (0, 0))) := Lib.hid (heap_setCell_same _ (q12) 1 _ _ (.int .u64 (W64 c0)) (heap_setCell_same _ (q12) 0 _ _ (.int .u64 (W64 c1)) hq))
      have HOT : Hid (∀ j, j ≠ q12 → (((f n).setCell ⟨q12, 0, none⟩ (.int .u64 (W64 c1))).setCell ⟨q12, 1, none⟩ (.int .u64 (W64 c0))).heap[j]? = (f n).heap[j]?) := Lib.hid (fun j hj => by rw [heap_setCell_other _ _ _ _ hj, heap_setCell_other _ _ _ _ hj])
      have HO := Lib.hid h2
      have HNW : Hid (New wT (((f n).setCell ⟨q12, 0, none⟩ (.int .u64 (W64 c1))).setCell ⟨q12, 1, none⟩ (.int .u64 (W64 c0)))) := Lib.hid ((hnw.setCell (p := ⟨q12, 0, none⟩) (by show wT.heap.size ≤ q12; have := HLE.out; omega) _).setCell (p := ⟨q12, 1, none⟩) (by show wT.heap.size ≤ q12; have := HLE.out; omega) _)
      have HG := Lib.hid hG
      clear h2 hnw hq hG
      go_simp
      exact ⟨HBACK.out _ ⟨⟨⟨_, _, HQ.out⟩, (let ⟨u2, v2, h⟩ := HO.out; ⟨u2, v2, (HOT.out _ (by omega)).trans h⟩)⟩, HNW.out⟩, HQ.out⟩
    simp [Act.put] at hA
    subst hA
    refine GrowG.wpGrow_turn (fun v => v = undef) (fun _ w9 => w9.heap[q12]? = some (.cells #[.int .u64 (W64 c1), .int .u64 (W64 c0)] 63 (0, 0)) ∧ w9.heap[q12 + 1]? = some (.cells #[.int .u64 (W64 d1), .int .u64 (W64 d0)] 63 (0, 0))) rfl rfl ⟨_, rfl⟩ (fun w1 hB hG => ?_) (fun v2 A2 hv2 hA => ?_)
    · obtain ⟨n, rfl⟩ := hB
      obtain ⟨⟨h1, h2⟩, hnw⟩ := HALL.out n
      obtain ⟨u, v, hq⟩ := h2
      have hc0 := cell_of_row _ _ 0 _ _ _ hq
      have hc1 := cell_of_row _ _ 1 _ _ _ hq
      have hfr := fun i => frozen_of_row _ _ i _ _ hq
      have HQ : Hid ((((f n).setCell ⟨q12 + 1, 0, none⟩ (.int .u64 (W64 d1))).setCell ⟨q12 + 1, 1, none⟩ (.int .u64 (W64 d0))).heap[q12 + 1]? = some (.cells #[.int .u64 (W64 d1), .int .u64 (W64 d0)] 63 (0, 0))) := Lib.hid (heap_setCell_same _ (q12 + 1) 1 _ _ (.int .u64 (W64 d0)) (heap_setCell_same _ (q12 + 1) 0 _ _ (.int .u64 (W64 d1)) hq))
      have HOT : Hid (∀ j, j ≠ q12 + 1 → (((f n).setCell ⟨q12 + 1, 0, none⟩ (.int .u64 (W64 d1))).setCell ⟨q12 + 1, 1, none⟩ (.int .u64 (W64 d0))).heap[j]? = (f n).heap[j]?) := Lib.hid (fun j hj => by rw [heap_setCell_other _ _ _ _ hj, heap_setCell_other _ _ _ _ hj])
      have HO := Lib.hid h1
      have HNW : Hid (New wT (((f n).setCell ⟨q12 + 1, 0, none⟩ (.int .u64 (W64 d1))).setCell ⟨q12 + 1, 1, none⟩ (.int .u64 (W64 d0)))) := Lib.hid ((hnw.setCell (p := ⟨q12 + 1, 0, none⟩) (by show wT.heap.size ≤ q12 + 1; have := HLE.out; omega) _).setCell (p := ⟨q12 + 1, 1, none⟩) (by show wT.heap.size ≤ q12 + 1; have := HLE.out; omega) _)
      have HG := Lib.hid hG
      clear h1 hnw hq hG
      go_simp
      exact ⟨HBACK.out _ ⟨⟨(let ⟨u2, v2, h⟩ := HO.out; ⟨u2, v2, (HOT.out _ (by omega)).trans h⟩), ⟨_, _, HQ.out⟩⟩, HNW.out⟩, ⟨(HOT.out _ (by omega)).trans HG.out, HQ.out⟩⟩
    simp [Act.put] at hA
    subst hA
    refine GrowG.wpGrow_take 1 (by kernel_rfl) ?_
    simp only [List.take, List.drop, List.length]
    repeat (go_big_quiet_step (fail))
    refine wpQuiet_nil ?_
    refine GrowG.wpGrow_nil ?_
    rintro w9 ⟨n9, rfl⟩ hG
    have HNF := Lib.hid (HNT.out.trans (HALL.out n9).2)
    obtain ⟨g1, g2⟩ := hG
    have k0 := cell_of_row _ _ 0 _ _ _ g1
    have k1 := cell_of_row _ _ 1 _ _ _ g1
    have k2 := cell_of_row _ _ 0 _ _ _ g2
    have k3 := cell_of_row _ _ 1 _ _ _ g2
    have k4 := s0 n9
    clear HALL HBACK s0 s1 z0 z1 z2 z3 g1 g2 HSF HNUM HXC HBX
    generalize f n9 = w9 at *
    by_cases hE : E = 0
    · subst hE
      go_wp2_with fail
      go_ret2
      exact ⟨.inr ⟨rfl, _, _, rfl, lit_274 _ c0 c1 d0 d1⟩, HN.out.trans (HNF.out.alloc _)⟩
    · have hEb : (E != 0) = true := by rw [bne_iff_ne]; exact hE
      have HE := Lib.hid hE
      clear hE
      go_wp2_with fail
      go_ret2
      exact ⟨.inl ⟨HE.out, rfl⟩, HN.out.trans HNF.out⟩
end Go.Proofs.YtebcfbcfipmahaaGreat
