/- Layer 34: the document's own End, of kind 8. -/
import Derived.Test.YtoplabhoedloeaaM34W
import Derived.Defers
import Derived.Recover
import Derived.Laws.Pointers
import Derived.Handy
import Derived.Laws.EntriesVeiled
namespace Go.Proofs.Ytoplabhoedloeaa
open Go.RowKit Go.Bv
set_option linter.unusedVariables false
set_option maxRecDepth 100000 in
set_option maxHeartbeats 8000000 in
theorem end_ref34_8 (key : Value) (kh kl : BitVec 64) (hkey : key = .agg #[.int .u64 (W64 kh), .int .u64 (W64 kl)]) (s : BitVec 64 × BitVec 64 × BitVec 64 × BitVec 64) (a : Option Addr) (n c : Nat) (tl : List (BitVec 8)) (hl : n < 8) (lg : BitVec 64) (w : World) (h : BRow w a n c tl) :
    Calls Try.prog 33 #[.int .i64 8, key, .agg #[.int .u64 (W64 (s.1)), .int .u64 (W64 (s.2.1)), .int .u64 (W64 (s.2.2.1)), .int .u64 (W64 (s.2.2.2))], .slice a n c, .int .u64 (W64 lg)] w fun e w' => e = .returned (.agg #[.int .u64 (W64 (end34 (2, 4, true) s tl lg).2), .int .u64 (W64 (end34 (2, 4, true) s tl lg).1)]) ∧ New w w' := by
  subst hkey
  have he : end34 (2, 4, true) s tl lg = (xor34 (itr34 4 (thd34 (word34 2 s (rd tl 0 8 ||| lg <<< 56)) 238#64)), xor34 (itr34 4 (snd34 (itr34 4 (thd34 (word34 2 s (rd tl 0 8 ||| lg <<< 56)) 238#64)) 221#64))) := rfl
  rw [he]
  clear he
  have HK := Lib.hid (fun w' (hn : New w w') => num_ref a n c tl 0 8 w' (h.stay hn) (by omega) (by omega))
  have hsm := rd_small34 tl (by rw [h.len_eq]; omega)
  obtain ⟨kk, hkk⟩ : ∃ z, rd tl 0 8 = z := ⟨_, rfl⟩
  rw [hkk] at HK hsm
  rw [hkk]
  have hm := last_word34 kk lg hsm
  obtain ⟨m, hme⟩ : ∃ z, kk ||| lg <<< 56 = z := ⟨_, rfl⟩
  rw [hme] at hm
  rw [hme]
  have HM := Lib.hid hm
  clear hm hme hsm hkk h hl
  have HW := Lib.hid (word_34d 8 2 (by decide) s m)
  obtain ⟨⟨t0, t1, t2, t3⟩, hv⟩ : ∃ z, word34 2 s m = z := ⟨_, rfl⟩
  rw [hv] at HW
  rw [hv]
  clear hv
  unfold thd34
  simp only
  obtain ⟨u2, hnm⟩ : ∃ z, t2 ^^^ 238#64 = z := ⟨_, rfl⟩
  have HU2 := Lib.hid hnm
  rw [hnm]
  clear hnm
  have HR := Lib.hid (rounds_34d (t0, t1, u2, t3) 4 (by decide))
  obtain ⟨⟨p0, p1, p2, p3⟩, hv⟩ : ∃ z, itr34 4 (t0, t1, u2, t3) = z := ⟨_, rfl⟩
  rw [hv] at HR
  rw [hv]
  clear hv
  unfold snd34
  simp only
  obtain ⟨u1, hnm⟩ : ∃ z, p1 ^^^ 221#64 = z := ⟨_, rfl⟩
  have HU1 := Lib.hid hnm
  rw [hnm]
  clear hnm
  have HR2 := Lib.hid (rounds_34d (p0, u1, p2, p3) 4 (by decide))
  obtain ⟨⟨r0, r1, r2, r3⟩, hv⟩ : ∃ z, itr34 4 (p0, u1, p2, p3) = z := ⟨_, rfl⟩
  rw [hv] at HR2
  rw [hv]
  clear hv
  unfold xor34
  simp only
  obtain ⟨lo, hlo⟩ : ∃ z, p0 ^^^ p1 ^^^ p2 ^^^ p3 = z := ⟨_, rfl⟩
  have HLO := Lib.hid hlo
  rw [hlo]
  clear hlo
  have HZ := Lib.hid (three_all34 w (.cells #[.int .u64 (W64 kh), .int .u64 (W64 kl)] 24) (.cells #[.int .u64 (W64 (s.1)), .int .u64 (W64 (s.2.1)), .int .u64 (W64 (s.2.2.1)), .int .u64 (W64 (s.2.2.2))] 57) (.cells #[.int .u64 0, .int .u64 0] 24))
  go_enter Try.func33, Try.ntmps33
  go_wp2_with fail
  refine Gro3.wp_region_gro3S (fun w' => w'.heap[w.heap.size + 1]? = some (.cells #[.int .u64 (W64 (s.1)), .int .u64 (W64 (s.2.1)), .int .u64 (W64 (s.2.2.1)), .int .u64 (W64 (s.2.2.2))] 57 (0, 0)) ∧ w'.heap[w.heap.size + 1 + 1]? = some (.cells #[.int .u64 0, .int .u64 0] 24 (0, 0)) ∧ New w w') (fun w' => w'.heap[w.heap.size + 1]? = some (.cells #[.int .u64 (W64 (s.1)), .int .u64 (W64 (s.2.1)), .int .u64 (W64 (s.2.2.1)), .int .u64 (W64 (s.2.2.2))] 57 (0, 0)) ∧ w'.heap[w.heap.size + 1 + 1]? = some (.cells #[.int .u64 0, .int .u64 0] 24 (0, 0)) ∧ New w w') [0,1,0,2,0,0,0,0,2,4,3] New (fun _ q w' => Lies w' q (.cells #[.int .u64 0, .int .u64 0, .int .u64 0, .int .u64 0] 57 (0, 0)) ∧ w.heap.size + 1 + 1 < q) (by kernel_rfl) (by kernel_rfl) (by kernel_rfl) (fun k q w w' hn h => ⟨(hn.block _ (lt_of_block h.1)).trans h.1, h.2⟩) (fun w' hw' => hw') (⟨HZ.out.2.1, HZ.out.2.2.1, HZ.out.2.2.2.drew⟩) ?_
  intro I J _ _ f g hfa hba hgb hbb
  have HFA := Lib.hid hfa
  have HBA := Lib.hid hba
  have HGB := Lib.hid hgb
  have HBB := Lib.hid hbb
  have fs0 := fun n => cell_of_row _ _ 0 _ _ _ (hgb n).1
  have fs1 := fun n => cell_of_row _ _ 1 _ _ _ (hgb n).1
  have fs2 := fun n => cell_of_row _ _ 2 _ _ _ (hgb n).1
  have fs3 := fun n => cell_of_row _ _ 3 _ _ _ (hgb n).1
  clear hfa hba hgb hbb
  refine Gro3.take0 1 (by kernel_rfl) ?_
  simp only [List.take, List.drop, List.length]
  repeat (go_big_quiet_step (fail))
  refine wpQuiet_nil ?_
  refine Gro3.take1 1 (by kernel_rfl) ?_
  simp only [List.take, List.drop, List.length]
  repeat (go_big_quiet_step (fail))
  refine wpQuiet_nil ?_
  refine Gro3.take0 1 (by kernel_rfl) ?_
  simp only [List.take, List.drop, List.length]
  repeat (go_big_quiet_step (fail))
  refine wpQuiet_nil ?_
  refine Gro3.callt (fun v => v = .int .u64 (W64 kk)) (fun _ _ => True) rfl rfl (⟨_, rfl⟩) (fun _ _ _ _ _ => trivial) (fun w1 hB hG => ?_) (fun v1 A1 hv1 hA => ?_)
  · obtain ⟨nq, rfl⟩ := hB
    clear fs0 fs1 fs2 fs3
    go_simp
    refine (HK.out _ (HGB.out nq).2.2).mono ?_
    rintro e w2 ⟨rfl, rfl⟩
    first | exact ⟨_, rfl, ⟨nq, rfl⟩, New.refl _, rfl⟩ | exact ⟨_, rfl, ⟨nq, rfl⟩, New.refl _, rfl, trivial⟩ | exact ⟨⟨nq, rfl⟩, New.refl _⟩
  simp [Act.put] at hA
  subst hA
  obtain rfl := hv1
  have hm := HM.out
  refine Gro3.take0 4 (by kernel_rfl) ?_
  simp only [List.take, List.drop, List.length]
  repeat (go_big_quiet_step (fail))
  refine wpQuiet_nil ?_
  clear hm
  refine Gro3.callt (fun v => v = .agg #[.int .u64 (W64 t0), .int .u64 (W64 t1), .int .u64 (W64 t2), .int .u64 (W64 t3)]) (fun _ _ => True) rfl rfl (⟨_, rfl⟩) (fun _ _ _ _ _ => trivial) (fun w1 hB hG => ?_) (fun v2 A2 hv2 hA => ?_)
  · obtain ⟨nq, rfl⟩ := hB
    clear fs0 fs1 fs2 fs3
    go_simp
    refine (HW.out _).mono ?_
    rintro e w2 ⟨rfl, hn⟩
    have HX := HBB.out _ ⟨(hn.block _ (lt_of_block (HGB.out nq).1)).trans (HGB.out nq).1, (hn.block _ (lt_of_block (HGB.out nq).2.1)).trans (HGB.out nq).2.1, (HGB.out nq).2.2.trans hn⟩
    first | exact ⟨_, rfl, HX, hn, rfl⟩ | exact ⟨_, rfl, HX, hn, rfl, trivial⟩ | exact ⟨rfl, HX, hn⟩ | exact ⟨HX, hn, rfl⟩ | exact ⟨HX, hn⟩
  simp [Act.put] at hA
  subst hA
  obtain rfl := hv2
  refine Gro3.alloc rfl rfl (fun w1 hB => ?_) (fun qG A3 hA => ?_)
  · obtain ⟨nq, rfl⟩ := hB
    have hal := (New.refl (g nq)).alloc (.cells #[.int .u64 0, .int .u64 0, .int .u64 0, .int .u64 0] 57)
    have HX := Lib.hid (HBB.out _ ⟨(hal.block _ (lt_of_block (HGB.out nq).1)).trans (HGB.out nq).1, (hal.block _ (lt_of_block (HGB.out nq).2.1)).trans (HGB.out nq).2.1, (HGB.out nq).2.2.trans hal⟩)
    have HNL := Lib.hid hal
    have HLZ := Lib.hid (show Lies _ _ _ from heap_alloc_new (g nq) (.cells #[.int .u64 0, .int .u64 0, .int .u64 0, .int .u64 0] 57))
    have HLE9 := Lib.hid (lt_of_block (HGB.out nq).2.1)
    clear hal fs0 fs1 fs2 fs3
    go_simp
    first | exact ⟨_, rfl, HX.out, HNL.out, HLZ.out, HLE9.out⟩ | exact ⟨HX.out, HNL.out, HLZ.out, HLE9.out⟩
  simp [Act.put] at hA
  subst hA
  refine Gro3.turn (fun v => v = undef) (fun _ w9 => Lies w9 qG (.cells #[.int .u64 (W64 t0), .int .u64 (W64 t1), .int .u64 (W64 t2), .int .u64 (W64 t3)] 57 (0, 0)) ∧ w.heap.size + 1 + 1 < qG) rfl rfl ⟨_, rfl⟩ (fun w1 hB hG => ?_) (fun v4 A4 hv4 hA => ?_)
  · obtain ⟨nq, rfl⟩ : ∃ nq, w1 = g nq := hB
    obtain ⟨_, hli, hge⟩ := hG
    have HX := Lib.hid (HGB.out nq)
    have HGE := Lib.hid hge
    have c0 := cell_of_row _ _ 0 _ _ _ hli
    have c1 := cell_of_row _ _ 1 _ _ _ hli
    have c2 := cell_of_row _ _ 2 _ _ _ hli
    have c3 := cell_of_row _ _ 3 _ _ _ hli
    have cf := fun i => frozen_of_row _ _ i _ _ hli
    have HP := Lib.hid (put4h (.int .u64 (W64 t0)) (.int .u64 (W64 t1)) (.int .u64 (W64 t2)) (.int .u64 (W64 t3)) hli)
    have HLI := Lib.hid (show Lies _ _ _ from HP.out.1)
    clear hli hge fs0 fs1 fs2 fs3
    go_simp
    exact ⟨HBA.out _ ⟨(HP.out.2.1 _ (by have := HGE.out; omega)).trans HX.out.1, (HP.out.2.1 _ (by have := HGE.out; omega)).trans HX.out.2.1, HP.out.2.2 _ HX.out.2.2 (by have := HGE.out; omega)⟩, HLI.out, HGE.out⟩
  simp [Act.put] at hA
  subst hA
  refine Gro3.nil ?_
  rintro w11 ⟨n9, rfl⟩ hG
  have hF := HFA.out n9
  obtain ⟨hli, hge⟩ := hG
  have HA := Lib.hid (show (f n9).heap[qG]? = _ from hli)
  have HGE := Lib.hid hge
  have HO := Lib.hid hF.2.1
  have HN := Lib.hid hF.2.2
  clear HFA HBA HGB HBB hli hge hF fs0 fs1 fs2 fs3 HZ HK HW HM
  generalize f n9 = w9 at *
  have c0 := cell_of_row _ _ 0 _ _ _ HA.out
  have c1 := cell_of_row _ _ 1 _ _ _ HA.out
  have c2 := cell_of_row _ _ 2 _ _ _ HA.out
  have c3 := cell_of_row _ _ 3 _ _ _ HA.out
  have cf := fun i => frozen_of_row _ _ i _ _ HA.out
  have hu := HU2.out
  go_wp2_with fail
  refine (HR.out _).mono ?_
  rintro e w8 ⟨rfl, hn⟩
  clear hu HU2
  clear c0 c1 c2 c3 cf
  have h3 := heap_setCell_same w9 qG 2 _ _ (.int .u64 (W64 u2)) HA.out
  have hs2 := heap_setCell_other w9 ⟨qG, 2, none⟩ (w.heap.size + 1 + 1) (.int .u64 (W64 u2)) (by have := HGE.out; show w.heap.size + 1 + 1 ≠ qG; omega)
  replace HO := Lib.hid (hs2.trans HO.out)
  replace HN := Lib.hid (HN.out.setCell (p := ⟨qG, 2, none⟩) (by have := HGE.out; show w.heap.size ≤ qG; omega) (.int .u64 (W64 u2)))
  clear hs2 HA
  generalize World.setCell w9 ⟨qG, 2, none⟩ (.int .u64 (W64 u2)) = w7 at *
  have HA := Lib.hid (show w7.heap[qG]? = some (.cells #[.int .u64 (W64 t0), .int .u64 (W64 t1), .int .u64 (W64 u2), .int .u64 (W64 t3)] 57 (0, 0)) from h3)
  clear h3
  replace HA := Lib.hid ((hn.block _ (lt_of_block HA.out)).trans HA.out)
  replace HO := Lib.hid ((hn.block _ (lt_of_block HO.out)).trans HO.out)
  replace HN := Lib.hid (HN.out.trans hn)
  clear hn
  have c0 := cell_of_row _ _ 0 _ _ _ HA.out
  have c1 := cell_of_row _ _ 1 _ _ _ HA.out
  have c2 := cell_of_row _ _ 2 _ _ _ HA.out
  have c3 := cell_of_row _ _ 3 _ _ _ HA.out
  have cf := fun i => frozen_of_row _ _ i _ _ HA.out
  go_simp
  first | go_skip | go_guarded | go_step | go_upon | go_in | go_back
  first | go_skip | go_guarded | go_step | go_upon | go_in | go_back
  first | go_skip | go_guarded | go_step | go_upon | go_in | go_back
  first | go_skip | go_guarded | go_step | go_upon | go_in | go_back
  first | go_skip | go_guarded | go_step | go_upon | go_in | go_back
  first | go_skip | go_guarded | go_step | go_upon | go_in | go_back
  first | go_skip | go_guarded | go_step | go_upon | go_in | go_back
  first | go_skip | go_guarded | go_step | go_upon | go_in | go_back
  have hp := put4h (.int .u64 (W64 p0)) (.int .u64 (W64 p1)) (.int .u64 (W64 p2)) (.int .u64 (W64 p3)) HA.out
  replace HO := Lib.hid ((hp.2.1 _ (by have := HGE.out; omega)).trans HO.out)
  replace HN := Lib.hid (hp.2.2 _ HN.out (by have := HGE.out; omega))
  replace HA := Lib.hid hp.1
  clear hp c0 c1 c2 c3 cf
  generalize World.setCell (World.setCell (World.setCell (World.setCell w8 ⟨qG, 0, none⟩ (.int .u64 (W64 p0))) ⟨qG, 1, none⟩ (.int .u64 (W64 p1))) ⟨qG, 2, none⟩ (.int .u64 (W64 p2))) ⟨qG, 3, none⟩ (.int .u64 (W64 p3)) = w6 at *
  have c0 := cell_of_row _ _ 0 _ _ _ HA.out
  have c1 := cell_of_row _ _ 1 _ _ _ HA.out
  have c2 := cell_of_row _ _ 2 _ _ _ HA.out
  have c3 := cell_of_row _ _ 3 _ _ _ HA.out
  have cf := fun i => frozen_of_row _ _ i _ _ HA.out
  have hu := HU1.out
  have hlo := HLO.out
  go_wp2_with fail
  refine (HR2.out _).mono ?_
  rintro e w5 ⟨rfl, hn⟩
  clear hu hlo HU1 HLO
  clear c0 c1 c2 c3 cf
  have h3 := heap_setCell_same w6 qG 1 _ _ (.int .u64 (W64 u1)) HA.out
  have hs2 := heap_setCell_other w6 ⟨qG, 1, none⟩ (w.heap.size + 1 + 1) (.int .u64 (W64 u1)) (by have := HGE.out; show w.heap.size + 1 + 1 ≠ qG; omega)
  replace HO := Lib.hid (hs2.trans HO.out)
  replace HN := Lib.hid (HN.out.setCell (p := ⟨qG, 1, none⟩) (by have := HGE.out; show w.heap.size ≤ qG; omega) (.int .u64 (W64 u1)))
  clear hs2 HA
  generalize World.setCell w6 ⟨qG, 1, none⟩ (.int .u64 (W64 u1)) = w4 at *
  have HA := Lib.hid (show w4.heap[qG]? = some (.cells #[.int .u64 (W64 p0), .int .u64 (W64 u1), .int .u64 (W64 p2), .int .u64 (W64 p3)] 57 (0, 0)) from h3)
  clear h3
  replace HA := Lib.hid ((hn.block _ (lt_of_block HA.out)).trans HA.out)
  replace HO := Lib.hid ((hn.block _ (lt_of_block HO.out)).trans HO.out)
  replace HN := Lib.hid (HN.out.trans hn)
  clear hn
  have c0 := cell_of_row _ _ 0 _ _ _ HA.out
  have c1 := cell_of_row _ _ 1 _ _ _ HA.out
  have c2 := cell_of_row _ _ 2 _ _ _ HA.out
  have c3 := cell_of_row _ _ 3 _ _ _ HA.out
  have cf := fun i => frozen_of_row _ _ i _ _ HA.out
  go_simp
  first | go_skip | go_guarded | go_step | go_upon | go_in | go_back
  first | go_skip | go_guarded | go_step | go_upon | go_in | go_back
  first | go_skip | go_guarded | go_step | go_upon | go_in | go_back
  first | go_skip | go_guarded | go_step | go_upon | go_in | go_back
  first | go_skip | go_guarded | go_step | go_upon | go_in | go_back
  first | go_skip | go_guarded | go_step | go_upon | go_in | go_back
  first | go_skip | go_guarded | go_step | go_upon | go_in | go_back
  first | go_skip | go_guarded | go_step | go_upon | go_in | go_back
  have hp := put4h (.int .u64 (W64 r0)) (.int .u64 (W64 r1)) (.int .u64 (W64 r2)) (.int .u64 (W64 r3)) HA.out
  replace HO := Lib.hid ((hp.2.1 _ (by have := HGE.out; omega)).trans HO.out)
  replace HN := Lib.hid (hp.2.2 _ HN.out (by have := HGE.out; omega))
  replace HA := Lib.hid hp.1
  clear hp c0 c1 c2 c3 cf
  generalize World.setCell (World.setCell (World.setCell (World.setCell w5 ⟨qG, 0, none⟩ (.int .u64 (W64 r0))) ⟨qG, 1, none⟩ (.int .u64 (W64 r1))) ⟨qG, 2, none⟩ (.int .u64 (W64 r2))) ⟨qG, 3, none⟩ (.int .u64 (W64 r3)) = w3 at *
  have c0 := cell_of_row _ _ 0 _ _ _ HA.out
  have c1 := cell_of_row _ _ 1 _ _ _ HA.out
  have c2 := cell_of_row _ _ 2 _ _ _ HA.out
  have c3 := cell_of_row _ _ 3 _ _ _ HA.out
  have cf := fun i => frozen_of_row _ _ i _ _ HA.out
  have z0 := cell_of_row _ _ 0 _ _ _ HO.out
  have z1 := cell_of_row _ _ 1 _ _ _ HO.out
  have zf := fun i => frozen_of_row _ _ i _ _ HO.out
  go_wp2
  refine bodyPost_ret (by simp [results, Try.results33, go_sem, z0, z1]; try rfl) rfl ?_
  exact ⟨rfl, ((HN.out.setCell (by show w.heap.size ≤ w.heap.size + 1 + 1; omega) _).setCell (by show w.heap.size ≤ w.heap.size + 1 + 1; omega) _)⟩
end Go.Proofs.Ytoplabhoedloeaa
