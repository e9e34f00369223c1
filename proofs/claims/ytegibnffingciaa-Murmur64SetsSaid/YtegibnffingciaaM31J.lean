/- Layer 31: Set of a hash. -/
import Derived.Test.YtegibnffingciaaM31H
import Derived.Test.YtegibnffingciaaHshE
import Derived.Defers
import Derived.Recover
import Derived.Laws.Pointers
import Derived.Handy
import Derived.Laws.EntriesVeiled
namespace Go.Proofs.Ytegibnffingciaa
open Go.RowKit Go.Bv
set_option linter.unusedVariables false
set_option maxRecDepth 100000 in
set_option maxHeartbeats 2000000 in
theorem hset_no_31 (v1 v2 v3 : Value) (x0 x1 x2 x3 : BitVec 64) (hr : (x2 == 0#64 && x3 == 0#64) = false) (w : World) : Calls Try.prog 76 #[v1, .agg #[.int .u64 (W64 x0), .int .u64 (W64 x1), .int .u64 (W64 x2), .int .u64 (W64 x3)], v2, v3] w fun e w' => e = .returned (.bool false) ∧ New w w' := by
  have he := fun w => eq4p w x0 x1 x2 x3 x0 x1
  rw [hr] at he
  simp only [BEq.rfl, Bool.true_and] at he
  have HO := Lib.hid (heap_alloc_new w (.cells #[.int .u64 (W64 x0), .int .u64 (W64 x1), .int .u64 (W64 x2), .int .u64 (W64 x3)] 59))
  have HN := Lib.hid ((New.refl w).alloc (.cells #[.int .u64 (W64 x0), .int .u64 (W64 x1), .int .u64 (W64 x2), .int .u64 (W64 x3)] 59))
  have x0' := cell_of_row _ _ 0 _ _ _ HO.out
  have x1' := cell_of_row _ _ 1 _ _ _ HO.out
  have x2' := cell_of_row _ _ 2 _ _ _ HO.out
  have x3' := cell_of_row _ _ 3 _ _ _ HO.out
  have HNX := Lib.hid ((HN.out.alloc (.cells #[.int .u64 (W64 x0), .int .u64 (W64 x1)] 125)))
  go_enter Try.func76, Try.ntmps76
  go_wp2
  go_ret
  exact ⟨rfl, HNX.out⟩
set_option maxRecDepth 100000 in
set_option maxHeartbeats 2000000 in
theorem hset_fit_31 (p h : Nat) (fs st : BitVec 64 × BitVec 64) (tl : List (BitVec 8)) (long : BitVec 64) (x0 x1 : BitVec 64) (long2 : BitVec 64) (b : Option Addr) (lb cb : Nat) (m : List (BitVec 8)) (w : World) (hx : w.heap[h]? = some (.cells #[.pointer (some ⟨p, 0, none⟩)] 134 (0, 0))) (hs : Strm_31 w p 16 fs st tl long) (hm : BRow w b lb cb m) (hfit : (BitVec.ofNat 64 lb != long2 % 16#64) = false) :
    Calls Try.prog 76 #[.pointer (some ⟨h, 0, none⟩), .agg #[.int .u64 (W64 x0), .int .u64 (W64 x1), .int .u64 0, .int .u64 0], .int .u64 (W64 long2), .slice b lb cb] w fun e w' => e = .returned (.bool true) ∧ Strm_31 w' p 16 fs (x0, x1) m long2 ∧ But p w w' := by
  have he := fun w => eq4q w x0 x1
  have HC := Lib.hid (fun w' (hn : New w w') => content_31 p h w' ((hn.block _ (lt_of_block hx)).trans hx))
  have HSY := Lib.hid (fun w' (hn : New w w') => sety_31 p fs st tl long (x0, x1) long2 b lb cb m w' (hs.stay hn) (hm.stay hn) hfit)
  clear hx hs hm hfit
  have HO := Lib.hid (heap_alloc_new w (.cells #[.int .u64 (W64 x0), .int .u64 (W64 x1), .int .u64 0, .int .u64 0] 59))
  have HN := Lib.hid ((New.refl w).alloc (.cells #[.int .u64 (W64 x0), .int .u64 (W64 x1), .int .u64 0, .int .u64 0] 59))
  have x0' := cell_of_row _ _ 0 _ _ _ HO.out
  have x1' := cell_of_row _ _ 1 _ _ _ HO.out
  have x2' := cell_of_row _ _ 2 _ _ _ HO.out
  have x3' := cell_of_row _ _ 3 _ _ _ HO.out
  have HNX := Lib.hid ((HN.out.alloc (.cells #[.int .u64 (W64 x0), .int .u64 (W64 x1)] 125)))
  have HM := Lib.hid (heap_alloc_new (w.alloc (.cells #[.int .u64 (W64 x0), .int .u64 (W64 x1), .int .u64 0, .int .u64 0] 59)) (.cells #[.int .u64 (W64 x0), .int .u64 (W64 x1)] 125))
  go_enter Try.func76, Try.ntmps76
  go_wp2_with fail
  clear x0' x1' x2' x3' he HO
  obtain ⟨qM, hqM⟩ : ∃ q, (w.alloc (.cells #[.int .u64 (W64 x0), .int .u64 (W64 x1), .int .u64 0, .int .u64 0] 59)).heap.size = q := ⟨_, rfl⟩
  have hqM2 : w.heap.size + 1 = qM := by rw [← hqM]; simp
  rw [hqM] at HM
  rw [hqM2]
  generalize (w.alloc (.cells #[.int .u64 (W64 x0), .int .u64 (W64 x1), .int .u64 0, .int .u64 0] 59)).alloc (.cells #[.int .u64 (W64 x0), .int .u64 (W64 x1)] 125) = w9 at HM HNX ⊢
  replace HN := Lib.hid HNX.out
  clear HNX hqM hqM2
  refine Gro3.wp_region_gro3S (fun w' => But p w w') (fun w' => w'.heap[qM]? = some (.cells #[.int .u64 (W64 x0), .int .u64 (W64 x1)] 125 (0, 0)) ∧ New w9 w') [0,2,1,0,0,3,0] New (fun _ _ _ => True) (by kernel_rfl) (by kernel_rfl) (by kernel_rfl) (fun _ _ _ _ _ _ => trivial) (fun w' hw' => But.of_new (HN.out.trans hw'.2)) (⟨HM.out, (New.refl _).drew⟩) ?_
  intro I J _ _ f g hfa hba hgb hbb
  have HFA := Lib.hid hfa
  have HBA := Lib.hid hba
  have HGB := Lib.hid hgb
  have HBB := Lib.hid hbb
  have s0 := fun n => cell_of_row _ _ 0 _ _ _ (hgb n).1
  have s1 := fun n => cell_of_row _ _ 1 _ _ _ (hgb n).1
  clear hfa hba hgb hbb
  refine Gro3.take0 1 (by kernel_rfl) ?_
  simp only [List.take, List.drop, List.length]
  repeat (go_big_quiet_step (fail))
  refine wpQuiet_nil ?_
  refine Gro3.callt (fun v => v = .pointer (some ⟨p, 0, none⟩)) (fun _ _ => True) rfl rfl (⟨_, rfl⟩) (fun _ _ _ _ _ => trivial) (fun w1 hB hG => ?_) (fun v1 A1 hv1 hA => ?_)
  · obtain ⟨nq, rfl⟩ := hB
    clear s0 s1
    go_simp
    refine (HC.out _ (HN.out.trans (HGB.out nq).2)).mono ?_
    rintro e w2 ⟨rfl, rfl⟩
    first | exact ⟨_, rfl, ⟨nq, rfl⟩, New.refl _, rfl⟩ | exact ⟨_, rfl, ⟨nq, rfl⟩, New.refl _, rfl, trivial⟩ | exact ⟨⟨nq, rfl⟩, New.refl _⟩
  simp [Act.put] at hA
  subst hA
  obtain rfl := hv1
  refine Gro3.take1 1 (by kernel_rfl) ?_
  simp only [List.take, List.drop, List.length]
  repeat (go_big_quiet_step (fail))
  refine wpQuiet_nil ?_
  refine Gro3.take0 2 (by kernel_rfl) ?_
  simp only [List.take, List.drop, List.length]
  repeat (go_big_quiet_step (fail))
  refine wpQuiet_nil ?_
  refine Gro3.turn (fun v => v = .bool true) (fun _ w9 => Strm_31 w9 p 16 fs (x0, x1) m long2 ∧ But p w w9) rfl rfl ⟨_, rfl⟩ (fun w1 hB hG => ?_) (fun v2 A2 hv2 hA => ?_)
  · obtain ⟨nq, rfl⟩ : ∃ nq, w1 = g nq := hB
    clear s0 s1
    go_simp
    refine (HSY.out _ (HN.out.trans (HGB.out nq).2)).mono ?_
    rintro e w2 ⟨rfl, hs, hb⟩
    have hbb := But.trans (But.of_new (HN.out.trans (HGB.out nq).2)) hb
    have HX := HBA.out _ hbb
    first | exact ⟨_, rfl, HX, rfl, hs, hbb⟩ | exact ⟨_, rfl, HX, hs, hbb⟩ | exact ⟨HX, rfl, hs, hbb⟩ | exact ⟨HX, hs, hbb⟩
  simp [Act.put] at hA
  subst hA
  obtain rfl := hv2
  refine Gro3.take0 1 (by kernel_rfl) ?_
  simp only [List.take, List.drop, List.length]
  repeat (go_big_quiet_step (fail))
  refine wpQuiet_nil ?_
  refine Gro3.nil ?_
  rintro w11 ⟨n9, rfl⟩ hG
  have HG := Lib.hid (show Strm_31 (f n9) p 16 fs (x0, x1) m long2 ∧ But p w (f n9) from hG)
  clear HFA HBA HGB HBB s0 s1 hG
  generalize f n9 = w11 at *
  go_wp2
  go_ret
  exact ⟨rfl, HG.out.1, HG.out.2⟩
set_option maxRecDepth 100000 in
set_option maxHeartbeats 2000000 in
theorem hset_unfit_31 (p h : Nat) (fs st : BitVec 64 × BitVec 64) (tl : List (BitVec 8)) (long : BitVec 64) (x0 x1 : BitVec 64) (long2 : BitVec 64) (b : Option Addr) (lb cb : Nat) (m : List (BitVec 8)) (w : World) (hx : w.heap[h]? = some (.cells #[.pointer (some ⟨p, 0, none⟩)] 134 (0, 0))) (hs : Strm_31 w p 16 fs st tl long) (hm : BRow w b lb cb m) (hfit : (BitVec.ofNat 64 lb != long2 % 16#64) = true) :
    Calls Try.prog 76 #[.pointer (some ⟨h, 0, none⟩), .agg #[.int .u64 (W64 x0), .int .u64 (W64 x1), .int .u64 0, .int .u64 0], .int .u64 (W64 long2), .slice b lb cb] w fun e w' => e = .returned (.bool false) ∧ New w w' := by
  have he := fun w => eq4q w x0 x1
  have HC := Lib.hid (fun w' (hn : New w w') => content_31 p h w' ((hn.block _ (lt_of_block hx)).trans hx))
  have HSY := Lib.hid (fun w' (hn : New w w') => setn_31 p fs st tl long (x0, x1) long2 b lb cb m w' (hs.stay hn) (hm.stay hn) hfit)
  clear hx hs hm hfit
  have HO := Lib.hid (heap_alloc_new w (.cells #[.int .u64 (W64 x0), .int .u64 (W64 x1), .int .u64 0, .int .u64 0] 59))
  have HN := Lib.hid ((New.refl w).alloc (.cells #[.int .u64 (W64 x0), .int .u64 (W64 x1), .int .u64 0, .int .u64 0] 59))
  have x0' := cell_of_row _ _ 0 _ _ _ HO.out
  have x1' := cell_of_row _ _ 1 _ _ _ HO.out
  have x2' := cell_of_row _ _ 2 _ _ _ HO.out
  have x3' := cell_of_row _ _ 3 _ _ _ HO.out
  have HNX := Lib.hid ((HN.out.alloc (.cells #[.int .u64 (W64 x0), .int .u64 (W64 x1)] 125)))
  have HM := Lib.hid (heap_alloc_new (w.alloc (.cells #[.int .u64 (W64 x0), .int .u64 (W64 x1), .int .u64 0, .int .u64 0] 59)) (.cells #[.int .u64 (W64 x0), .int .u64 (W64 x1)] 125))
  go_enter Try.func76, Try.ntmps76
  go_wp2_with fail
  clear x0' x1' x2' x3' he HO
  obtain ⟨qM, hqM⟩ : ∃ q, (w.alloc (.cells #[.int .u64 (W64 x0), .int .u64 (W64 x1), .int .u64 0, .int .u64 0] 59)).heap.size = q := ⟨_, rfl⟩
  have hqM2 : w.heap.size + 1 = qM := by rw [← hqM]; simp
  rw [hqM] at HM
  rw [hqM2]
  generalize (w.alloc (.cells #[.int .u64 (W64 x0), .int .u64 (W64 x1), .int .u64 0, .int .u64 0] 59)).alloc (.cells #[.int .u64 (W64 x0), .int .u64 (W64 x1)] 125) = w9 at HM HNX ⊢
  replace HN := Lib.hid HNX.out
  clear HNX hqM hqM2
  refine Gro3.wp_region_gro3S (fun w' => w'.heap[qM]? = some (.cells #[.int .u64 (W64 x0), .int .u64 (W64 x1)] 125 (0, 0)) ∧ New w9 w') (fun w' => w'.heap[qM]? = some (.cells #[.int .u64 (W64 x0), .int .u64 (W64 x1)] 125 (0, 0)) ∧ New w9 w') [0,2,1,0,0,2,0] New (fun _ _ _ => True) (by kernel_rfl) (by kernel_rfl) (by kernel_rfl) (fun _ _ _ _ _ _ => trivial) (fun w' hw' => hw') (⟨HM.out, (New.refl _).drew⟩) ?_
  intro I J _ _ f g hfa hba hgb hbb
  have HFA := Lib.hid hfa
  have HBA := Lib.hid hba
  have HGB := Lib.hid hgb
  have HBB := Lib.hid hbb
  have s0 := fun n => cell_of_row _ _ 0 _ _ _ (hgb n).1
  have s1 := fun n => cell_of_row _ _ 1 _ _ _ (hgb n).1
  clear hfa hba hgb hbb
  refine Gro3.take0 1 (by kernel_rfl) ?_
  simp only [List.take, List.drop, List.length]
  repeat (go_big_quiet_step (fail))
  refine wpQuiet_nil ?_
  refine Gro3.callt (fun v => v = .pointer (some ⟨p, 0, none⟩)) (fun _ _ => True) rfl rfl (⟨_, rfl⟩) (fun _ _ _ _ _ => trivial) (fun w1 hB hG => ?_) (fun v1 A1 hv1 hA => ?_)
  · obtain ⟨nq, rfl⟩ := hB
    clear s0 s1
    go_simp
    refine (HC.out _ (HN.out.trans (HGB.out nq).2)).mono ?_
    rintro e w2 ⟨rfl, rfl⟩
    first | exact ⟨_, rfl, ⟨nq, rfl⟩, New.refl _, rfl⟩ | exact ⟨_, rfl, ⟨nq, rfl⟩, New.refl _, rfl, trivial⟩ | exact ⟨⟨nq, rfl⟩, New.refl _⟩
  simp [Act.put] at hA
  subst hA
  obtain rfl := hv1
  refine Gro3.take1 1 (by kernel_rfl) ?_
  simp only [List.take, List.drop, List.length]
  repeat (go_big_quiet_step (fail))
  refine wpQuiet_nil ?_
  refine Gro3.take0 2 (by kernel_rfl) ?_
  simp only [List.take, List.drop, List.length]
  repeat (go_big_quiet_step (fail))
  refine wpQuiet_nil ?_
  refine Gro3.callt (fun v => v = .bool false) (fun _ _ => True) rfl rfl (⟨_, rfl⟩) (fun _ _ _ _ _ => trivial) (fun w1 hB hG => ?_) (fun v2 A2 hv2 hA => ?_)
  · obtain ⟨nq, rfl⟩ := hB
    clear s0 s1
    go_simp
    refine (HSY.out _ (HN.out.trans (HGB.out nq).2)).mono ?_
    rintro e w2 ⟨rfl, hn⟩
    have HX := HBB.out _ ⟨(hn.block _ (lt_of_block (HGB.out nq).1)).trans (HGB.out nq).1, (HGB.out nq).2.trans hn⟩
    first | exact ⟨_, rfl, HX, hn, rfl⟩ | exact ⟨_, rfl, HX, hn, rfl, trivial⟩ | exact ⟨rfl, HX, hn⟩ | exact ⟨HX, hn, rfl⟩ | exact ⟨HX, hn⟩
  simp [Act.put] at hA
  subst hA
  obtain rfl := hv2
  refine Gro3.take0 1 (by kernel_rfl) ?_
  simp only [List.take, List.drop, List.length]
  repeat (go_big_quiet_step (fail))
  refine wpQuiet_nil ?_
  refine Gro3.nil ?_
  rintro w11 ⟨n9, rfl⟩ hG
  have HNZ := Lib.hid (HN.out.trans (HGB.out n9).2)
  clear HFA HBA HGB HBB s0 s1 hG HN HM
  generalize g n9 = w11 at *
  go_wp2
  go_ret
  exact ⟨rfl, HNZ.out⟩
set_option maxRecDepth 100000 in
set_option maxHeartbeats 2000000 in
theorem hset_n_31 (v2 v3 : Value) (x0 x1 : BitVec 64) (w : World) : Calls Try.prog 76 #[.pointer none, .agg #[.int .u64 (W64 x0), .int .u64 (W64 x1), .int .u64 0, .int .u64 0], v2, v3] w fun e w' => e = .returned (.bool false) ∧ New w w' := by
  have he := fun w => eq4q w x0 x1
  have HO := Lib.hid (heap_alloc_new w (.cells #[.int .u64 (W64 x0), .int .u64 (W64 x1), .int .u64 0, .int .u64 0] 59))
  have HN := Lib.hid ((New.refl w).alloc (.cells #[.int .u64 (W64 x0), .int .u64 (W64 x1), .int .u64 0, .int .u64 0] 59))
  have x0' := cell_of_row _ _ 0 _ _ _ HO.out
  have x1' := cell_of_row _ _ 1 _ _ _ HO.out
  have x2' := cell_of_row _ _ 2 _ _ _ HO.out
  have x3' := cell_of_row _ _ 3 _ _ _ HO.out
  have HNX := Lib.hid ((HN.out.alloc (.cells #[.int .u64 (W64 x0), .int .u64 (W64 x1)] 125)))
  have HM := Lib.hid (heap_alloc_new (w.alloc (.cells #[.int .u64 (W64 x0), .int .u64 (W64 x1), .int .u64 0, .int .u64 0] 59)) (.cells #[.int .u64 (W64 x0), .int .u64 (W64 x1)] 125))
  go_enter Try.func76, Try.ntmps76
  go_wp2_with fail
  clear x0' x1' x2' x3' he HO
  obtain ⟨qM, hqM⟩ : ∃ q, (w.alloc (.cells #[.int .u64 (W64 x0), .int .u64 (W64 x1), .int .u64 0, .int .u64 0] 59)).heap.size = q := ⟨_, rfl⟩
  have hqM2 : w.heap.size + 1 = qM := by rw [← hqM]; simp
  rw [hqM] at HM
  rw [hqM2]
  generalize (w.alloc (.cells #[.int .u64 (W64 x0), .int .u64 (W64 x1), .int .u64 0, .int .u64 0] 59)).alloc (.cells #[.int .u64 (W64 x0), .int .u64 (W64 x1)] 125) = w9 at HM HNX ⊢
  replace HN := Lib.hid HNX.out
  clear HNX hqM hqM2
  refine Gro3.wp_region_gro3S (fun w' => w'.heap[qM]? = some (.cells #[.int .u64 (W64 x0), .int .u64 (W64 x1)] 125 (0, 0)) ∧ New w9 w') (fun w' => w'.heap[qM]? = some (.cells #[.int .u64 (W64 x0), .int .u64 (W64 x1)] 125 (0, 0)) ∧ New w9 w') [0,2,1,0,0,2,0] New (fun _ _ _ => True) (by kernel_rfl) (by kernel_rfl) (by kernel_rfl) (fun _ _ _ _ _ _ => trivial) (fun w' hw' => hw') (⟨HM.out, (New.refl _).drew⟩) ?_
  intro I J _ _ f g hfa hba hgb hbb
  have HFA := Lib.hid hfa
  have HBA := Lib.hid hba
  have HGB := Lib.hid hgb
  have HBB := Lib.hid hbb
  have s0 := fun n => cell_of_row _ _ 0 _ _ _ (hgb n).1
  have s1 := fun n => cell_of_row _ _ 1 _ _ _ (hgb n).1
  clear hfa hba hgb hbb
  refine Gro3.take0 1 (by kernel_rfl) ?_
  simp only [List.take, List.drop, List.length]
  repeat (go_big_quiet_step (fail))
  refine wpQuiet_nil ?_
  refine Gro3.callt (fun v => v = .pointer none) (fun _ _ => True) rfl rfl (⟨_, rfl⟩) (fun _ _ _ _ _ => trivial) (fun w1 hB hG => ?_) (fun v1 A1 hv1 hA => ?_)
  · obtain ⟨nq, rfl⟩ := hB
    clear s0 s1
    go_simp
    refine (content_n_31 _).mono ?_
    rintro e w2 ⟨rfl, rfl⟩
    first | exact ⟨_, rfl, ⟨nq, rfl⟩, New.refl _, rfl⟩ | exact ⟨_, rfl, ⟨nq, rfl⟩, New.refl _, rfl, trivial⟩ | exact ⟨⟨nq, rfl⟩, New.refl _⟩
  simp [Act.put] at hA
  subst hA
  obtain rfl := hv1
  refine Gro3.take1 1 (by kernel_rfl) ?_
  simp only [List.take, List.drop, List.length]
  repeat (go_big_quiet_step (fail))
  refine wpQuiet_nil ?_
  refine Gro3.take0 2 (by kernel_rfl) ?_
  simp only [List.take, List.drop, List.length]
  repeat (go_big_quiet_step (fail))
  refine wpQuiet_nil ?_
  refine Gro3.callt (fun v => v = .bool false) (fun _ _ => True) rfl rfl (⟨_, rfl⟩) (fun _ _ _ _ _ => trivial) (fun w1 hB hG => ?_) (fun v2 A2 hv2 hA => ?_)
  · obtain ⟨nq, rfl⟩ := hB
    clear s0 s1
    go_simp
    refine (set_n_31 (x0, x1) _ _ _).mono ?_
    rintro e w2 ⟨rfl, hn⟩
    have HX := HBB.out _ ⟨(hn.block _ (lt_of_block (HGB.out nq).1)).trans (HGB.out nq).1, (HGB.out nq).2.trans hn⟩
    first | exact ⟨_, rfl, HX, hn, rfl⟩ | exact ⟨_, rfl, HX, hn, rfl, trivial⟩ | exact ⟨rfl, HX, hn⟩ | exact ⟨HX, hn, rfl⟩ | exact ⟨HX, hn⟩
  simp [Act.put] at hA
  subst hA
  obtain rfl := hv2
  refine Gro3.take0 1 (by kernel_rfl) ?_
  simp only [List.take, List.drop, List.length]
  repeat (go_big_quiet_step (fail))
  refine wpQuiet_nil ?_
  refine Gro3.nil ?_
  rintro w11 ⟨n9, rfl⟩ hG
  have HNZ := Lib.hid (HN.out.trans (HGB.out n9).2)
  clear HFA HBA HGB HBB s0 s1 hG HN HM
  generalize g n9 = w11 at *
  go_wp2
  go_ret
  exact ⟨rfl, HNZ.out⟩
end Go.Proofs.Ytegibnffingciaa
