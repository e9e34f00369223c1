/- Layer 33: the document's own End. -/
import Derived.Test.YtfeeecmcaakpkaaM33C
import Derived.Defers
import Derived.Recover
import Derived.Laws.Pointers
import Derived.Handy
import Derived.Laws.EntriesVeiled
import Derived.LoopN
namespace Go.Proofs.Ytfeeecmcaakpkaa
open Go.RowKit Go.Bv
set_option linter.unusedVariables false
set_option maxRecDepth 100000 in
set_option maxHeartbeats 8000000 in
theorem end_ref33 (sd : BitVec 64) (s : BitVec 64 × BitVec 64 × BitVec 64 × BitVec 64) (a : Option Addr) (n c : Nat) (tl : List (BitVec 8)) (lg : BitVec 64) (w : World) (h : BRow w a n c tl) :
    Calls Try.prog 55 #[.int .u64 (W64 sd), .agg #[.int .u64 (W64 (s.1)), .int .u64 (W64 (s.2.1)), .int .u64 (W64 (s.2.2.1)), .int .u64 (W64 (s.2.2.2))], .slice a n c, .int .u64 (W64 lg)] w fun e w' => e = .returned (.int .u64 (W64 (endr33 sd s tl lg))) ∧ New w w' := by
  obtain ⟨s0, s1, s2, s3⟩ := s
  have H := Lib.hid h
  clear h
  have hd15 : ∀ h : BitVec 64, h >>> 33 = h / 8589934592#64 := fun h => (div_shift64 h 33 8589934592#64 (by decide)).symm
  have hd13 : ∀ h : BitVec 64, h >>> 29 = h / 536870912#64 := fun h => (div_shift64 h 29 536870912#64 (by decide)).symm
  have hd16 : ∀ h : BitVec 64, h >>> 32 = h / 4294967296#64 := fun h => (div_shift64 h 32 4294967296#64 (by decide)).symm
  have HZ := Lib.hid (heap_alloc_new w (.cells #[.int .u64 (W64 s0), .int .u64 (W64 s1), .int .u64 (W64 s2), .int .u64 (W64 s3)] 36))
  have HN := Lib.hid ((New.refl w).alloc (.cells #[.int .u64 (W64 s0), .int .u64 (W64 s1), .int .u64 (W64 s2), .int .u64 (W64 s3)] 36))
  have hln : (endr33 sd (s0, s1, s2, s3) tl lg) = last33 (rest33 (base33 (s0, s1, s2, s3) sd lg + lg) tl) := rfl
  rw [hln]
  clear hln
  unfold last33 mixb33 mixa33
  simp only [hd15, hd13, hd16]
  clear hd15 hd13 hd16
  by_cases h16 : 32 ≤ lg.toNat
  · have hb : base33 (s0, s1, s2, s3) sd lg = ((((s0.rotateLeft 1 + s1.rotateLeft 7 + s2.rotateLeft 12 + s3.rotateLeft 18 ^^^ rnd33 0#64 s0) * 11400714785074694791#64 + 9650029242287828579#64 ^^^ rnd33 0#64 s1) * 11400714785074694791#64 + 9650029242287828579#64 ^^^ rnd33 0#64 s2) * 11400714785074694791#64 + 9650029242287828579#64 ^^^ rnd33 0#64 s3) * 11400714785074694791#64 + 9650029242287828579#64 := by unfold base33 all33 mrg33 sum33; rw [if_pos h16]
    rw [hb]
    have hg1 : (32 : Int) ≤ W64 lg := by unfold W64; omega
    clear hb h16
    have HR0 := Lib.hid (rot64r_n s0 1 (by decide))
    obtain ⟨r0, hnm⟩ : ∃ z, s0.rotateLeft 1 = z := ⟨_, rfl⟩
    rw [hnm] at HR0
    rw [hnm]
    clear hnm
    have HR1 := Lib.hid (rot64r_n s1 7 (by decide))
    obtain ⟨r1, hnm⟩ : ∃ z, s1.rotateLeft 7 = z := ⟨_, rfl⟩
    rw [hnm] at HR1
    rw [hnm]
    clear hnm
    have HR2 := Lib.hid (rot64r_n s2 12 (by decide))
    obtain ⟨r2, hnm⟩ : ∃ z, s2.rotateLeft 12 = z := ⟨_, rfl⟩
    rw [hnm] at HR2
    rw [hnm]
    clear hnm
    have HR3 := Lib.hid (rot64r_n s3 18 (by decide))
    obtain ⟨r3, hnm⟩ : ∃ z, s3.rotateLeft 18 = z := ⟨_, rfl⟩
    rw [hnm] at HR3
    rw [hnm]
    clear hnm
    obtain ⟨b0, hnm⟩ : ∃ z, r0 + r1 + r2 + r3 = z := ⟨_, rfl⟩
    rw [hnm]
    have HB0 := Lib.hid hnm
    clear hnm
    have HA0 := Lib.hid (roundr_33 0#64 s0)
    rw [show W64 0#64 = 0 by decide] at HA0
    obtain ⟨a0, hnm⟩ : ∃ z, rnd33 0#64 s0 = z := ⟨_, rfl⟩
    rw [hnm] at HA0
    rw [hnm]
    clear hnm
    obtain ⟨b1, hnm⟩ : ∃ z, (b0 ^^^ a0) * 11400714785074694791#64 + 9650029242287828579#64 = z := ⟨_, rfl⟩
    rw [hnm]
    have HB1 := Lib.hid hnm
    clear hnm
    have HA1 := Lib.hid (roundr_33 0#64 s1)
    rw [show W64 0#64 = 0 by decide] at HA1
    obtain ⟨a1, hnm⟩ : ∃ z, rnd33 0#64 s1 = z := ⟨_, rfl⟩
    rw [hnm] at HA1
    rw [hnm]
    clear hnm
    obtain ⟨b2, hnm⟩ : ∃ z, (b1 ^^^ a1) * 11400714785074694791#64 + 9650029242287828579#64 = z := ⟨_, rfl⟩
    rw [hnm]
    have HB2 := Lib.hid hnm
    clear hnm
    have HA2 := Lib.hid (roundr_33 0#64 s2)
    rw [show W64 0#64 = 0 by decide] at HA2
    obtain ⟨a2, hnm⟩ : ∃ z, rnd33 0#64 s2 = z := ⟨_, rfl⟩
    rw [hnm] at HA2
    rw [hnm]
    clear hnm
    obtain ⟨b3, hnm⟩ : ∃ z, (b2 ^^^ a2) * 11400714785074694791#64 + 9650029242287828579#64 = z := ⟨_, rfl⟩
    rw [hnm]
    have HB3 := Lib.hid hnm
    clear hnm
    have HA3 := Lib.hid (roundr_33 0#64 s3)
    rw [show W64 0#64 = 0 by decide] at HA3
    obtain ⟨a3, hnm⟩ : ∃ z, rnd33 0#64 s3 = z := ⟨_, rfl⟩
    rw [hnm] at HA3
    rw [hnm]
    clear hnm
    obtain ⟨b4, hnm⟩ : ∃ z, (b3 ^^^ a3) * 11400714785074694791#64 + 9650029242287828579#64 = z := ⟨_, rfl⟩
    rw [hnm]
    have HB4 := Lib.hid hnm
    clear hnm
    obtain ⟨h1, hnm⟩ : ∃ z, b4 + lg = z := ⟨_, rfl⟩
    rw [hnm]
    have HH1 := Lib.hid hnm
    clear hnm
    go_enter Try.func55, Try.ntmps55
    go_wp2_with fail
    refine wp_loop_rounds 5 ?_
    rw [rounds_succ]
    go_wp2_with fail
    refine Gro3.wp_region_gro3S (fun w' => w'.heap[w.heap.size]? = some (.cells #[.int .u64 (W64 s0), .int .u64 (W64 s1), .int .u64 (W64 s2), .int .u64 (W64 s3)] 36 (0, 0)) ∧ New w w') (fun w' => w'.heap[w.heap.size]? = some (.cells #[.int .u64 (W64 s0), .int .u64 (W64 s1), .int .u64 (W64 s2), .int .u64 (W64 s3)] 36 (0, 0)) ∧ New w w') [0,0,0,1,2,0,0,2,2,0,0] New (fun _ _ _ => True) (by kernel_rfl) (by kernel_rfl) (by kernel_rfl) (fun _ _ _ _ _ _ => trivial) (fun w' hw' => hw') (⟨HZ.out, HN.out.drew⟩) ?_
    intro I J _ _ f g hfa hba hgb hbb
    have HFA := Lib.hid hfa
    have HBA := Lib.hid hba
    have HGB := Lib.hid hgb
    have HBB := Lib.hid hbb
    have s0' := fun n => cell_of_row _ _ 0 _ _ _ (hgb n).1
    clear hfa hba hgb hbb
    refine Gro3.take0 3 (by kernel_rfl) ?_
    simp only [List.take, List.drop, List.length]
    repeat (go_big_quiet_step (fail))
    refine wpQuiet_nil ?_
    refine Gro3.take1 1 (by kernel_rfl) ?_
    simp only [List.take, List.drop, List.length]
    repeat (go_big_quiet_step (fail))
    refine wpQuiet_nil ?_
    refine Gro3.callt (fun v => ∃ q, v = .slice (some ⟨q, 0, none⟩) 4 4) (fun v w' => ∃ q, v = .slice (some ⟨q, 0, none⟩) 4 4 ∧ Lies w' q (.cells #[.int .i64 1, .int .i64 7, .int .i64 12, .int .i64 18] 3 (0, 0))) rfl rfl (⟨_, 0, rfl⟩) (fun v w w' hn h => by obtain ⟨q, e, hz⟩ := h; exact ⟨q, e, (hn.block _ (lt_of_block hz)).trans hz⟩) (fun w1 hB hG => ?_) (fun v1 A1 hv1 hA => ?_)
    · obtain ⟨nq, rfl⟩ := hB
      have hal := (New.refl (g nq)).alloc (.cells #[.int .i64 1, .int .i64 7, .int .i64 12, .int .i64 18] 3)
      have HX := Lib.hid (HBB.out _ ⟨(hal.block _ (lt_of_block (HGB.out nq).1)).trans (HGB.out nq).1, (HGB.out nq).2.trans hal⟩)
      have HAL := Lib.hid hal
      have HZ2 := Lib.hid (show Lies _ _ _ from heap_alloc_new (g nq) (.cells #[.int .i64 1, .int .i64 7, .int .i64 12, .int .i64 18] 3))
      clear hal s0'
      go_simp
      first | exact ⟨HX.out, HAL.out, HZ2.out⟩ | exact ⟨HX.out, HAL.out, ⟨_, rfl⟩, ⟨_, rfl, HZ2.out⟩⟩ | exact ⟨_, rfl, HX.out, HAL.out, ⟨_, rfl⟩, ⟨_, rfl, HZ2.out⟩⟩
    simp [Act.put] at hA
    subst hA
    obtain ⟨q1, rfl⟩ := hv1
    refine Gro3.take0 2 (by kernel_rfl) ?_
    simp only [List.take, List.drop, List.length]
    repeat (go_big_quiet_step (fail))
    refine wpQuiet_nil ?_
    refine Gro3.callt (fun v => v = .int .i64 1) (fun _ _ => True) rfl rfl (⟨_, rfl⟩) (fun _ _ _ _ _ => trivial) (fun w1 hB hG => ?_) (fun v2 A2 hv2 hA => ?_)
    · obtain ⟨nq, rfl⟩ := hB
      obtain ⟨q2, e2, hz⟩ := hG
      cases e2
      have cq := cell_of_row _ _ 0 _ _ _ hz
      clear hz s0'
      go_simp
      first | exact ⟨_, rfl, ⟨nq, rfl⟩, New.refl _, rfl⟩ | exact ⟨_, rfl, ⟨nq, rfl⟩, New.refl _, rfl, trivial⟩ | exact ⟨⟨nq, rfl⟩, New.refl _⟩
    simp [Act.put] at hA
    subst hA
    obtain rfl := hv2
    refine Gro3.callt (fun v => v = .int .u64 (W64 r0)) (fun _ _ => True) rfl rfl (⟨_, rfl⟩) (fun _ _ _ _ _ => trivial) (fun w1 hB hG => ?_) (fun v3 A3 hv3 hA => ?_)
    · obtain ⟨nq, rfl⟩ := hB
      clear s0'
      go_simp
      refine (HR0.out _).mono ?_
      rintro e w2 ⟨rfl, rfl⟩
      first | exact ⟨_, rfl, ⟨nq, rfl⟩, New.refl _, rfl⟩ | exact ⟨_, rfl, ⟨nq, rfl⟩, New.refl _, rfl, trivial⟩ | exact ⟨⟨nq, rfl⟩, New.refl _⟩
    simp [Act.put] at hA
    subst hA
    obtain rfl := hv3
    refine Gro3.take0 2 (by kernel_rfl) ?_
    simp only [List.take, List.drop, List.length]
    repeat (go_big_quiet_step (fail))
    refine wpQuiet_nil ?_
    refine Gro3.nil ?_
    rintro w11 ⟨n9, rfl⟩ hG
    have hF := HGB.out n9
    replace HZ := Lib.hid hF.1
    replace HN := Lib.hid hF.2
    clear HFA HBA HGB HBB hG hF s0' HR0
    generalize g n9 = w9 at *
    go_wp2_with fail
    rw [rounds_succ]
    go_wp2_with fail
    refine Gro3.wp_region_gro3S (fun w' => w'.heap[w.heap.size]? = some (.cells #[.int .u64 (W64 s0), .int .u64 (W64 s1), .int .u64 (W64 s2), .int .u64 (W64 s3)] 36 (0, 0)) ∧ New w w') (fun w' => w'.heap[w.heap.size]? = some (.cells #[.int .u64 (W64 s0), .int .u64 (W64 s1), .int .u64 (W64 s2), .int .u64 (W64 s3)] 36 (0, 0)) ∧ New w w') [0,0,0,1,2,0,0,2,2,0,0] New (fun _ _ _ => True) (by kernel_rfl) (by kernel_rfl) (by kernel_rfl) (fun _ _ _ _ _ _ => trivial) (fun w' hw' => hw') (⟨HZ.out, HN.out.drew⟩) ?_
    intro I J _ _ f g hfa hba hgb hbb
    have HFA := Lib.hid hfa
    have HBA := Lib.hid hba
    have HGB := Lib.hid hgb
    have HBB := Lib.hid hbb
    have s0' := fun n => cell_of_row _ _ 1 _ _ _ (hgb n).1
    clear hfa hba hgb hbb
    refine Gro3.take0 3 (by kernel_rfl) ?_
    simp only [List.take, List.drop, List.length]
    repeat (go_big_quiet_step (fail))
    refine wpQuiet_nil ?_
    refine Gro3.take1 1 (by kernel_rfl) ?_
    simp only [List.take, List.drop, List.length]
    repeat (go_big_quiet_step (fail))
    refine wpQuiet_nil ?_
    refine Gro3.callt (fun v => ∃ q, v = .slice (some ⟨q, 0, none⟩) 4 4) (fun v w' => ∃ q, v = .slice (some ⟨q, 0, none⟩) 4 4 ∧ Lies w' q (.cells #[.int .i64 1, .int .i64 7, .int .i64 12, .int .i64 18] 3 (0, 0))) rfl rfl (⟨_, 0, rfl⟩) (fun v w w' hn h => by obtain ⟨q, e, hz⟩ := h; exact ⟨q, e, (hn.block _ (lt_of_block hz)).trans hz⟩) (fun w1 hB hG => ?_) (fun v1 A1 hv1 hA => ?_)
    · obtain ⟨nq, rfl⟩ := hB
      have hal := (New.refl (g nq)).alloc (.cells #[.int .i64 1, .int .i64 7, .int .i64 12, .int .i64 18] 3)
      have HX := Lib.hid (HBB.out _ ⟨(hal.block _ (lt_of_block (HGB.out nq).1)).trans (HGB.out nq).1, (HGB.out nq).2.trans hal⟩)
      have HAL := Lib.hid hal
      have HZ2 := Lib.hid (show Lies _ _ _ from heap_alloc_new (g nq) (.cells #[.int .i64 1, .int .i64 7, .int .i64 12, .int .i64 18] 3))
      clear hal s0'
      go_simp
      first | exact ⟨HX.out, HAL.out, HZ2.out⟩ | exact ⟨HX.out, HAL.out, ⟨_, rfl⟩, ⟨_, rfl, HZ2.out⟩⟩ | exact ⟨_, rfl, HX.out, HAL.out, ⟨_, rfl⟩, ⟨_, rfl, HZ2.out⟩⟩
    simp [Act.put] at hA
    subst hA
    obtain ⟨q1, rfl⟩ := hv1
    refine Gro3.take0 2 (by kernel_rfl) ?_
    simp only [List.take, List.drop, List.length]
    repeat (go_big_quiet_step (fail))
    refine wpQuiet_nil ?_
    refine Gro3.callt (fun v => v = .int .i64 7) (fun _ _ => True) rfl rfl (⟨_, rfl⟩) (fun _ _ _ _ _ => trivial) (fun w1 hB hG => ?_) (fun v2 A2 hv2 hA => ?_)
    · obtain ⟨nq, rfl⟩ := hB
      obtain ⟨q2, e2, hz⟩ := hG
      cases e2
      have cq := cell_of_row _ _ 1 _ _ _ hz
      clear hz s0'
      go_simp
      first | exact ⟨_, rfl, ⟨nq, rfl⟩, New.refl _, rfl⟩ | exact ⟨_, rfl, ⟨nq, rfl⟩, New.refl _, rfl, trivial⟩ | exact ⟨⟨nq, rfl⟩, New.refl _⟩
    simp [Act.put] at hA
    subst hA
    obtain rfl := hv2
    refine Gro3.callt (fun v => v = .int .u64 (W64 r1)) (fun _ _ => True) rfl rfl (⟨_, rfl⟩) (fun _ _ _ _ _ => trivial) (fun w1 hB hG => ?_) (fun v3 A3 hv3 hA => ?_)
    · obtain ⟨nq, rfl⟩ := hB
      clear s0'
      go_simp
      refine (HR1.out _).mono ?_
      rintro e w2 ⟨rfl, rfl⟩
      first | exact ⟨_, rfl, ⟨nq, rfl⟩, New.refl _, rfl⟩ | exact ⟨_, rfl, ⟨nq, rfl⟩, New.refl _, rfl, trivial⟩ | exact ⟨⟨nq, rfl⟩, New.refl _⟩
    simp [Act.put] at hA
    subst hA
    obtain rfl := hv3
    refine Gro3.take0 2 (by kernel_rfl) ?_
    simp only [List.take, List.drop, List.length]
    repeat (go_big_quiet_step (fail))
    refine wpQuiet_nil ?_
    refine Gro3.nil ?_
    rintro w11 ⟨n9, rfl⟩ hG
    have hF := HGB.out n9
    replace HZ := Lib.hid hF.1
    replace HN := Lib.hid hF.2
    clear HFA HBA HGB HBB hG hF s0' HR1
    generalize g n9 = w9 at *
    go_wp2_with fail
    rw [rounds_succ]
    go_wp2_with fail
    refine Gro3.wp_region_gro3S (fun w' => w'.heap[w.heap.size]? = some (.cells #[.int .u64 (W64 s0), .int .u64 (W64 s1), .int .u64 (W64 s2), .int .u64 (W64 s3)] 36 (0, 0)) ∧ New w w') (fun w' => w'.heap[w.heap.size]? = some (.cells #[.int .u64 (W64 s0), .int .u64 (W64 s1), .int .u64 (W64 s2), .int .u64 (W64 s3)] 36 (0, 0)) ∧ New w w') [0,0,0,1,2,0,0,2,2,0,0] New (fun _ _ _ => True) (by kernel_rfl) (by kernel_rfl) (by kernel_rfl) (fun _ _ _ _ _ _ => trivial) (fun w' hw' => hw') (⟨HZ.out, HN.out.drew⟩) ?_
    intro I J _ _ f g hfa hba hgb hbb
    have HFA := Lib.hid hfa
    have HBA := Lib.hid hba
    have HGB := Lib.hid hgb
    have HBB := Lib.hid hbb
    have s0' := fun n => cell_of_row _ _ 2 _ _ _ (hgb n).1
    clear hfa hba hgb hbb
    refine Gro3.take0 3 (by kernel_rfl) ?_
    simp only [List.take, List.drop, List.length]
    repeat (go_big_quiet_step (fail))
    refine wpQuiet_nil ?_
    refine Gro3.take1 1 (by kernel_rfl) ?_
    simp only [List.take, List.drop, List.length]
    repeat (go_big_quiet_step (fail))
    refine wpQuiet_nil ?_
    refine Gro3.callt (fun v => ∃ q, v = .slice (some ⟨q, 0, none⟩) 4 4) (fun v w' => ∃ q, v = .slice (some ⟨q, 0, none⟩) 4 4 ∧ Lies w' q (.cells #[.int .i64 1, .int .i64 7, .int .i64 12, .int .i64 18] 3 (0, 0))) rfl rfl (⟨_, 0, rfl⟩) (fun v w w' hn h => by obtain ⟨q, e, hz⟩ := h; exact ⟨q, e, (hn.block _ (lt_of_block hz)).trans hz⟩) (fun w1 hB hG => ?_) (fun v1 A1 hv1 hA => ?_)
    · obtain ⟨nq, rfl⟩ := hB
      have hal := (New.refl (g nq)).alloc (.cells #[.int .i64 1, .int .i64 7, .int .i64 12, .int .i64 18] 3)
      have HX := Lib.hid (HBB.out _ ⟨(hal.block _ (lt_of_block (HGB.out nq).1)).trans (HGB.out nq).1, (HGB.out nq).2.trans hal⟩)
      have HAL := Lib.hid hal
      have HZ2 := Lib.hid (show Lies _ _ _ from heap_alloc_new (g nq) (.cells #[.int .i64 1, .int .i64 7, .int .i64 12, .int .i64 18] 3))
      clear hal s0'
      go_simp
      first | exact ⟨HX.out, HAL.out, HZ2.out⟩ | exact ⟨HX.out, HAL.out, ⟨_, rfl⟩, ⟨_, rfl, HZ2.out⟩⟩ | exact ⟨_, rfl, HX.out, HAL.out, ⟨_, rfl⟩, ⟨_, rfl, HZ2.out⟩⟩
    simp [Act.put] at hA
    subst hA
    obtain ⟨q1, rfl⟩ := hv1
    refine Gro3.take0 2 (by kernel_rfl) ?_
    simp only [List.take, List.drop, List.length]
    repeat (go_big_quiet_step (fail))
    refine wpQuiet_nil ?_
    refine Gro3.callt (fun v => v = .int .i64 12) (fun _ _ => True) rfl rfl (⟨_, rfl⟩) (fun _ _ _ _ _ => trivial) (fun w1 hB hG => ?_) (fun v2 A2 hv2 hA => ?_)
    · obtain ⟨nq, rfl⟩ := hB
      obtain ⟨q2, e2, hz⟩ := hG
      cases e2
      have cq := cell_of_row _ _ 2 _ _ _ hz
      clear hz s0'
      go_simp
      first | exact ⟨_, rfl, ⟨nq, rfl⟩, New.refl _, rfl⟩ | exact ⟨_, rfl, ⟨nq, rfl⟩, New.refl _, rfl, trivial⟩ | exact ⟨⟨nq, rfl⟩, New.refl _⟩
    simp [Act.put] at hA
    subst hA
    obtain rfl := hv2
    refine Gro3.callt (fun v => v = .int .u64 (W64 r2)) (fun _ _ => True) rfl rfl (⟨_, rfl⟩) (fun _ _ _ _ _ => trivial) (fun w1 hB hG => ?_) (fun v3 A3 hv3 hA => ?_)
    · obtain ⟨nq, rfl⟩ := hB
      clear s0'
      go_simp
      refine (HR2.out _).mono ?_
      rintro e w2 ⟨rfl, rfl⟩
      first | exact ⟨_, rfl, ⟨nq, rfl⟩, New.refl _, rfl⟩ | exact ⟨_, rfl, ⟨nq, rfl⟩, New.refl _, rfl, trivial⟩ | exact ⟨⟨nq, rfl⟩, New.refl _⟩
    simp [Act.put] at hA
    subst hA
    obtain rfl := hv3
    refine Gro3.take0 2 (by kernel_rfl) ?_
    simp only [List.take, List.drop, List.length]
    repeat (go_big_quiet_step (fail))
    refine wpQuiet_nil ?_
    refine Gro3.nil ?_
    rintro w11 ⟨n9, rfl⟩ hG
    have hF := HGB.out n9
    replace HZ := Lib.hid hF.1
    replace HN := Lib.hid hF.2
    clear HFA HBA HGB HBB hG hF s0' HR2
    generalize g n9 = w9 at *
    go_wp2_with fail
    rw [rounds_succ]
    go_wp2_with fail
    refine Gro3.wp_region_gro3S (fun w' => w'.heap[w.heap.size]? = some (.cells #[.int .u64 (W64 s0), .int .u64 (W64 s1), .int .u64 (W64 s2), .int .u64 (W64 s3)] 36 (0, 0)) ∧ New w w') (fun w' => w'.heap[w.heap.size]? = some (.cells #[.int .u64 (W64 s0), .int .u64 (W64 s1), .int .u64 (W64 s2), .int .u64 (W64 s3)] 36 (0, 0)) ∧ New w w') [0,0,0,1,2,0,0,2,2,0,0] New (fun _ _ _ => True) (by kernel_rfl) (by kernel_rfl) (by kernel_rfl) (fun _ _ _ _ _ _ => trivial) (fun w' hw' => hw') (⟨HZ.out, HN.out.drew⟩) ?_
    intro I J _ _ f g hfa hba hgb hbb
    have HFA := Lib.hid hfa
    have HBA := Lib.hid hba
    have HGB := Lib.hid hgb
    have HBB := Lib.hid hbb
    have s0' := fun n => cell_of_row _ _ 3 _ _ _ (hgb n).1
    clear hfa hba hgb hbb
    refine Gro3.take0 3 (by kernel_rfl) ?_
    simp only [List.take, List.drop, List.length]
    repeat (go_big_quiet_step (fail))
    refine wpQuiet_nil ?_
    refine Gro3.take1 1 (by kernel_rfl) ?_
    simp only [List.take, List.drop, List.length]
    repeat (go_big_quiet_step (fail))
    refine wpQuiet_nil ?_
    refine Gro3.callt (fun v => ∃ q, v = .slice (some ⟨q, 0, none⟩) 4 4) (fun v w' => ∃ q, v = .slice (some ⟨q, 0, none⟩) 4 4 ∧ Lies w' q (.cells #[.int .i64 1, .int .i64 7, .int .i64 12, .int .i64 18] 3 (0, 0))) rfl rfl (⟨_, 0, rfl⟩) (fun v w w' hn h => by obtain ⟨q, e, hz⟩ := h; exact ⟨q, e, (hn.block _ (lt_of_block hz)).trans hz⟩) (fun w1 hB hG => ?_) (fun v1 A1 hv1 hA => ?_)
    · obtain ⟨nq, rfl⟩ := hB
      have hal := (New.refl (g nq)).alloc (.cells #[.int .i64 1, .int .i64 7, .int .i64 12, .int .i64 18] 3)
      have HX := Lib.hid (HBB.out _ ⟨(hal.block _ (lt_of_block (HGB.out nq).1)).trans (HGB.out nq).1, (HGB.out nq).2.trans hal⟩)
      have HAL := Lib.hid hal
      have HZ2 := Lib.hid (show Lies _ _ _ from heap_alloc_new (g nq) (.cells #[.int .i64 1, .int .i64 7, .int .i64 12, .int .i64 18] 3))
      clear hal s0'
      go_simp
      first | exact ⟨HX.out, HAL.out, HZ2.out⟩ | exact ⟨HX.out, HAL.out, ⟨_, rfl⟩, ⟨_, rfl, HZ2.out⟩⟩ | exact ⟨_, rfl, HX.out, HAL.out, ⟨_, rfl⟩, ⟨_, rfl, HZ2.out⟩⟩
    simp [Act.put] at hA
    subst hA
    obtain ⟨q1, rfl⟩ := hv1
    refine Gro3.take0 2 (by kernel_rfl) ?_
    simp only [List.take, List.drop, List.length]
    repeat (go_big_quiet_step (fail))
    refine wpQuiet_nil ?_
    refine Gro3.callt (fun v => v = .int .i64 18) (fun _ _ => True) rfl rfl (⟨_, rfl⟩) (fun _ _ _ _ _ => trivial) (fun w1 hB hG => ?_) (fun v2 A2 hv2 hA => ?_)
    · obtain ⟨nq, rfl⟩ := hB
      obtain ⟨q2, e2, hz⟩ := hG
      cases e2
      have cq := cell_of_row _ _ 3 _ _ _ hz
      clear hz s0'
      go_simp
      first | exact ⟨_, rfl, ⟨nq, rfl⟩, New.refl _, rfl⟩ | exact ⟨_, rfl, ⟨nq, rfl⟩, New.refl _, rfl, trivial⟩ | exact ⟨⟨nq, rfl⟩, New.refl _⟩
    simp [Act.put] at hA
    subst hA
    obtain rfl := hv2
    refine Gro3.callt (fun v => v = .int .u64 (W64 r3)) (fun _ _ => True) rfl rfl (⟨_, rfl⟩) (fun _ _ _ _ _ => trivial) (fun w1 hB hG => ?_) (fun v3 A3 hv3 hA => ?_)
    · obtain ⟨nq, rfl⟩ := hB
      clear s0'
      go_simp
      refine (HR3.out _).mono ?_
      rintro e w2 ⟨rfl, rfl⟩
      first | exact ⟨_, rfl, ⟨nq, rfl⟩, New.refl _, rfl⟩ | exact ⟨_, rfl, ⟨nq, rfl⟩, New.refl _, rfl, trivial⟩ | exact ⟨⟨nq, rfl⟩, New.refl _⟩
    simp [Act.put] at hA
    subst hA
    obtain rfl := hv3
    refine Gro3.take0 2 (by kernel_rfl) ?_
    simp only [List.take, List.drop, List.length]
    repeat (go_big_quiet_step (fail))
    refine wpQuiet_nil ?_
    refine Gro3.nil ?_
    rintro w11 ⟨n9, rfl⟩ hG
    have hF := HGB.out n9
    replace HZ := Lib.hid hF.1
    replace HN := Lib.hid hF.2
    clear HFA HBA HGB HBB hG hF s0' HR3
    generalize g n9 = w9 at *
    have hb0 := HB0.out
    go_wp2_with fail
    rw [rounds_succ]
    go_wp2_with fail
    refine wp_loop_rounds 5 ?_
    rw [rounds_succ]
    have y0 := cell_of_row _ _ 0 _ _ _ HZ.out
    go_wp2_with fail
    refine (HA0.out _).mono ?_
    rintro e w8 ⟨rfl, hw8⟩
    replace hw8 := hw8.symm
    subst hw8
    have hb := HB1.out
    go_wp2_with fail
    clear hb y0 hb0
    rw [rounds_succ]
    have y1 := cell_of_row _ _ 1 _ _ _ HZ.out
    go_wp2_with fail
    refine (HA1.out _).mono ?_
    rintro e w8 ⟨rfl, hw8⟩
    replace hw8 := hw8.symm
    subst hw8
    have hb := HB2.out
    go_wp2_with fail
    clear hb y1
    rw [rounds_succ]
    have y2 := cell_of_row _ _ 2 _ _ _ HZ.out
    go_wp2_with fail
    refine (HA2.out _).mono ?_
    rintro e w8 ⟨rfl, hw8⟩
    replace hw8 := hw8.symm
    subst hw8
    have hb := HB3.out
    go_wp2_with fail
    clear hb y2
    rw [rounds_succ]
    have y3 := cell_of_row _ _ 3 _ _ _ HZ.out
    go_wp2_with fail
    refine (HA3.out _).mono ?_
    rintro e w8 ⟨rfl, hw8⟩
    replace hw8 := hw8.symm
    subst hw8
    have hb := HB4.out
    go_wp2_with fail
    clear hb y3
    rw [rounds_succ]
    have hh1 := HH1.out
    go_wp2_with fail
    clear hh1 HZ
    go_loop [2, 9] (fun sl hv => ∃ (a2 : Option Addr) (n2 c2 : Nat) (l2 : List (BitVec 8)) (cur : BitVec 64), sl = .slice a2 n2 c2 ∧ hv = .int .u64 (W64 cur) ∧ BRow w9 a2 n2 c2 l2 ∧ rest33 cur l2 = rest33 h1 tl) (fun sl _ => lenOf33 sl)
    case atStart => exact ⟨a, n, c, tl, h1, rfl, rfl, H.out.stay HN.out, rfl⟩
    case round =>
      obtain ⟨a2, n2, c2, l2, cur, rfl, rfl, hrow, hs⟩ := hrel
      have HRW := Lib.hid hrow
      have HS := Lib.hid hs
      have hle := hrow.le
      have hlen := hrow.len_eq
      have hmost := hrow.most
      have hroom := hrow.room
      clear hrow hs
      by_cases hlt : (8 : Int) ≤ (n2 : Int)
      · obtain ⟨b, off, rfl, _⟩ := HRW.out.addr (by omega)
        have hst := (rest33_8 cur l2 (by omega)).symm.trans HS.out
        have HK := Lib.hid (num_ref (some ⟨b, off, none⟩) n2 c2 l2 0 8 w9 HRW.out (by omega) (by omega))
        unfold w8_33 at hst
        obtain ⟨kk, hk⟩ : ∃ z, rd l2 0 8 = z := ⟨_, rfl⟩
        rw [hk] at HK hst
        have HAL := Lib.hid (roundr_33 0#64 kk)
        rw [show W64 0#64 = 0 by decide] at HAL
        obtain ⟨aa, ha⟩ : ∃ z, rnd33 0#64 kk = z := ⟨_, rfl⟩
        rw [ha] at HAL hst
        have HQ := Lib.hid (rot64r_n (cur ^^^ aa) 27 (by decide))
        obtain ⟨q, hq⟩ : ∃ z, (cur ^^^ aa).rotateLeft 27 = z := ⟨_, rfl⟩
        rw [hq] at HQ hst
        obtain ⟨m1, hm⟩ : ∃ z, q * 11400714785074694791#64 + 9650029242287828579#64 = z := ⟨_, rfl⟩
        rw [hm] at hst
        have HM1 := Lib.hid hm
        have HST := Lib.hid hst
        clear hk ha hq hm hst
        have hi1 : (8 : Int) ≤ (c2 : Int) := by omega
        have hlc : (n2 : Int) ≤ (c2 : Int) := by omega
        by_cases hcm : c2 = 8
        · obtain rfl : n2 = 8 := by omega
          subst hcm
          have HR0 := Lib.hid (row_end HRW.out)
          go_wp2_with fail
          refine (HK.out).mono ?_
          rintro e w8 ⟨rfl, rfl⟩
          go_wp2_with fail
          refine (HAL.out _).mono ?_
          rintro e w8 ⟨rfl, rfl⟩
          go_wp2_with fail
          refine (HQ.out _).mono ?_
          rintro e w8 ⟨rfl, rfl⟩
          have hm1 := HM1.out
          go_wp2
          exact ⟨⟨_, 0, 0, l2.drop 8, m1, rfl, rfl, HR0.out, HST.out⟩, by simp [lenOf33] <;> omega⟩
        · have hcm2 : ¬ (c2 : Int) = 8 := by omega
          obtain ⟨sp2, hadd, hsp⟩ := row_rest HRW.out (show 8 ≤ n2 by omega)
          obtain rfl : sp2 = none := by
            simp [Addr.add] at hadd
            first | exact hadd | exact hadd.symm
          have HR0 := Lib.hid hsp
          clear hsp hadd
          go_wp2_with fail
          refine (HK.out).mono ?_
          rintro e w8 ⟨rfl, rfl⟩
          go_wp2_with fail
          refine (HAL.out _).mono ?_
          rintro e w8 ⟨rfl, rfl⟩
          go_wp2_with fail
          refine (HQ.out _).mono ?_
          rintro e w8 ⟨rfl, rfl⟩
          have hm1 := HM1.out
          go_wp2
          exact ⟨⟨_, (n2 - 8), (c2 - 8), l2.drop 8, m1, rfl, rfl, HR0.out, HST.out⟩, by simp [lenOf33] <;> omega⟩
      · by_cases h4 : (4 : Int) ≤ (n2 : Int)
        · obtain ⟨b, off, rfl, _⟩ := HRW.out.addr (by omega)
          have hst := (rest33_4 cur l2 (by omega) (by omega)).symm.trans HS.out
          rw [rest33_b _ _ (by rw [List.length_drop]; omega)] at hst
          have HK := Lib.hid (num_ref (some ⟨b, off, none⟩) n2 c2 l2 0 4 w9 HRW.out (by omega) (by omega))
          unfold w4_33 at hst
          obtain ⟨kk, hk⟩ : ∃ z, rd l2 0 4 = z := ⟨_, rfl⟩
          rw [hk] at HK hst
          have HQ := Lib.hid (rot64r_n (cur ^^^ kk * 11400714785074694791#64) 23 (by decide))
          obtain ⟨q, hq⟩ : ∃ z, (cur ^^^ kk * 11400714785074694791#64).rotateLeft 23 = z := ⟨_, rfl⟩
          rw [hq] at HQ hst
          obtain ⟨m1, hm⟩ : ∃ z, q * 14029467366897019727#64 + 1609587929392839161#64 = z := ⟨_, rfl⟩
          rw [hm] at hst
          have HM1 := Lib.hid hm
          have HFIN := Lib.hid hst
          clear hk hq hm hst
          have hi1 : (4 : Int) ≤ (c2 : Int) := by omega
          have hlc : (n2 : Int) ≤ (c2 : Int) := by omega
          by_cases hcm : c2 = 4
          · obtain rfl : n2 = 4 := by omega
            subst hcm
            have HR0 := Lib.hid (row_end HRW.out)
            go_wp2_with fail
            refine (HK.out).mono ?_
            rintro e w8 ⟨rfl, rfl⟩
            go_wp2_with fail
            refine (HQ.out _).mono ?_
            rintro e w8 ⟨rfl, rfl⟩
            have hm1 := HM1.out
            go_wp2_with fail
            clear hm1
            go_loop [9, 75] (fun hv i => ∃ k : Nat, k ≤ 0 ∧ i = .int .i64 (k : Int) ∧ hv = .int .u64 (W64 (((l2.drop 4).take k).foldl byt33 m1))) (fun _ i => 0 - (intOf i).toNat)
            case atStart => exact ⟨0, Nat.zero_le _, rfl, rfl⟩
            case round =>
              obtain ⟨k, hk2, rfl, rfl⟩ := hrel
              by_cases hlt2 : (k : Int) < ((0 : Nat) : Int)
              · omega
              · have hkn : k = 0 := by omega
                have htt : (l2.drop 4).take k = (l2.drop 4) := List.take_of_length_le (by rw [HR0.out.len_eq]; omega)
                rw [htt]
                clear htt
                have HF2 := HFIN.out
                obtain ⟨ff, hff⟩ : ∃ z, (l2.drop 4).foldl byt33 m1 = z := ⟨_, rfl⟩
                rw [hff] at HF2 ⊢
                clear hff
                subst hkn
                clear hlt2
                go_wp2
                go_ret
                first | exact ⟨rfl, HN.out⟩ | exact ⟨by rw [HF2], HN.out⟩
          · have hcm2 : ¬ (c2 : Int) = 4 := by omega
            obtain ⟨sp2, hadd, hsp⟩ := row_rest HRW.out (show 4 ≤ n2 by omega)
            obtain rfl : sp2 = none := by
              simp [Addr.add] at hadd
              first | exact hadd | exact hadd.symm
            have HR0 := Lib.hid hsp
            clear hsp hadd
            go_wp2_with fail
            refine (HK.out).mono ?_
            rintro e w8 ⟨rfl, rfl⟩
            go_wp2_with fail
            refine (HQ.out _).mono ?_
            rintro e w8 ⟨rfl, rfl⟩
            have hm1 := HM1.out
            go_wp2_with fail
            clear hm1
            go_loop [9, 75] (fun hv i => ∃ k : Nat, k ≤ (n2 - 4) ∧ i = .int .i64 (k : Int) ∧ hv = .int .u64 (W64 (((l2.drop 4).take k).foldl byt33 m1))) (fun _ i => (n2 - 4) - (intOf i).toNat)
            case atStart => exact ⟨0, Nat.zero_le _, rfl, rfl⟩
            case round =>
              obtain ⟨k, hk2, rfl, rfl⟩ := hrel
              by_cases hlt2 : (k : Int) < (((n2 - 4) : Nat) : Int)
              · obtain ⟨b2, off2, e2, hcell2⟩ := HR0.out.addr (by omega)
                cases e2
                have hck := hcell2 k (by omega)
                have hk0 : (0 : Int) ≤ (k : Int) := by omega
                have hft := foldl_take33 byt33 m1 (l2.drop 4) 0#8 k (by have := HR0.out.len_eq; omega)
                obtain ⟨g0, hg⟩ : ∃ z, ((l2.drop 4).take k).foldl byt33 m1 = z := ⟨_, rfl⟩
                rw [hg] at hft ⊢
                obtain ⟨bb, hbb⟩ : ∃ z, (l2.drop 4).getD k 0#8 = z := ⟨_, rfl⟩
                rw [hbb] at hft
                rw [show (l2.drop 4).getD k 0 = bb from hbb] at hck
                have hby : byt33 g0 bb = (g0 ^^^ bb.setWidth 64 * 2870177450012600261#64).rotateLeft 11 * 11400714785074694791#64 := rfl
                rw [hby] at hft
                have HRB := Lib.hid (rot64r_n (g0 ^^^ bb.setWidth 64 * 2870177450012600261#64) 11 (by decide))
                obtain ⟨rb, hrb⟩ : ∃ z, (g0 ^^^ bb.setWidth 64 * 2870177450012600261#64).rotateLeft 11 = z := ⟨_, rfl⟩
                rw [hrb] at HRB hft
                have HFT := Lib.hid hft
                clear hg hbb hrb hft hcell2 hby
                go_wp2_with fail
                refine (HRB.out _).mono ?_
                rintro e w8 ⟨rfl, rfl⟩
                go_wp2
                exact ⟨⟨k + 1, by omega, by go_num, by rw [HFT.out]⟩, by simp [intOf]; omega⟩
              · have hkn : k = (n2 - 4) := by omega
                have htt : (l2.drop 4).take k = (l2.drop 4) := List.take_of_length_le (by rw [HR0.out.len_eq]; omega)
                rw [htt]
                clear htt
                have HF2 := HFIN.out
                obtain ⟨ff, hff⟩ : ∃ z, (l2.drop 4).foldl byt33 m1 = z := ⟨_, rfl⟩
                rw [hff] at HF2 ⊢
                clear hff
                subst hkn
                clear hlt2
                go_wp2
                go_ret
                first | exact ⟨rfl, HN.out⟩ | exact ⟨by rw [HF2], HN.out⟩
        · have hlc : (n2 : Int) ≤ (c2 : Int) := by omega
          have HFIN := Lib.hid ((rest33_b cur l2 (by omega)).symm.trans HS.out)
          go_wp2_with fail
          go_loop [9, 75] (fun hv i => ∃ k : Nat, k ≤ n2 ∧ i = .int .i64 (k : Int) ∧ hv = .int .u64 (W64 ((l2.take k).foldl byt33 cur))) (fun _ i => n2 - (intOf i).toNat)
          case atStart => exact ⟨0, Nat.zero_le _, rfl, rfl⟩
          case round =>
            obtain ⟨k, hk2, rfl, rfl⟩ := hrel
            by_cases hlt2 : (k : Int) < ((n2 : Nat) : Int)
            · obtain ⟨b2, off2, e2, hcell2⟩ := HRW.out.addr (by omega)
              cases e2
              have hck := hcell2 k (by omega)
              have hk0 : (0 : Int) ≤ (k : Int) := by omega
              have hft := foldl_take33 byt33 cur l2 0#8 k (by have := HRW.out.len_eq; omega)
              obtain ⟨g0, hg⟩ : ∃ z, (l2.take k).foldl byt33 cur = z := ⟨_, rfl⟩
              rw [hg] at hft ⊢
              obtain ⟨bb, hbb⟩ : ∃ z, l2.getD k 0#8 = z := ⟨_, rfl⟩
              rw [hbb] at hft
              rw [show l2.getD k 0 = bb from hbb] at hck
              have hby : byt33 g0 bb = (g0 ^^^ bb.setWidth 64 * 2870177450012600261#64).rotateLeft 11 * 11400714785074694791#64 := rfl
              rw [hby] at hft
              have HRB := Lib.hid (rot64r_n (g0 ^^^ bb.setWidth 64 * 2870177450012600261#64) 11 (by decide))
              obtain ⟨rb, hrb⟩ : ∃ z, (g0 ^^^ bb.setWidth 64 * 2870177450012600261#64).rotateLeft 11 = z := ⟨_, rfl⟩
              rw [hrb] at HRB hft
              have HFT := Lib.hid hft
              clear hg hbb hrb hft hcell2 hby
              go_wp2_with fail
              refine (HRB.out _).mono ?_
              rintro e w8 ⟨rfl, rfl⟩
              go_wp2
              exact ⟨⟨k + 1, by omega, by go_num, by rw [HFT.out]⟩, by simp [intOf]; omega⟩
            · have hkn : k = n2 := by omega
              have htt : l2.take k = l2 := List.take_of_length_le (by rw [HRW.out.len_eq]; omega)
              rw [htt]
              clear htt
              have HF2 := HFIN.out
              obtain ⟨ff, hff⟩ : ∃ z, l2.foldl byt33 cur = z := ⟨_, rfl⟩
              rw [hff] at HF2 ⊢
              clear hff
              subst hkn
              clear hlt2
              go_wp2
              go_ret
              first | exact ⟨rfl, HN.out⟩ | exact ⟨by rw [HF2], HN.out⟩
  · have hb : base33 (s0, s1, s2, s3) sd lg = sd + 2870177450012600261#64 := by unfold base33; rw [if_neg h16]
    rw [hb]
    have hg1 : ¬ (32 : Int) ≤ W64 lg := by unfold W64; omega
    clear hb h16
    obtain ⟨h1, hh1⟩ : ∃ z, sd + 2870177450012600261#64 + lg = z := ⟨_, rfl⟩
    rw [hh1]
    go_enter Try.func55, Try.ntmps55
    go_wp2_with fail
    generalize w.alloc (.cells #[.int .u64 (W64 s0), .int .u64 (W64 s1), .int .u64 (W64 s2), .int .u64 (W64 s3)] 36) = w9 at *
    clear HZ
    go_loop [2, 9] (fun sl hv => ∃ (a2 : Option Addr) (n2 c2 : Nat) (l2 : List (BitVec 8)) (cur : BitVec 64), sl = .slice a2 n2 c2 ∧ hv = .int .u64 (W64 cur) ∧ BRow w9 a2 n2 c2 l2 ∧ rest33 cur l2 = rest33 h1 tl) (fun sl _ => lenOf33 sl)
    case atStart => exact ⟨a, n, c, tl, h1, rfl, rfl, H.out.stay HN.out, rfl⟩
    case round =>
      obtain ⟨a2, n2, c2, l2, cur, rfl, rfl, hrow, hs⟩ := hrel
      have HRW := Lib.hid hrow
      have HS := Lib.hid hs
      have hle := hrow.le
      have hlen := hrow.len_eq
      have hmost := hrow.most
      have hroom := hrow.room
      clear hrow hs
      by_cases hlt : (8 : Int) ≤ (n2 : Int)
      · obtain ⟨b, off, rfl, _⟩ := HRW.out.addr (by omega)
        have hst := (rest33_8 cur l2 (by omega)).symm.trans HS.out
        have HK := Lib.hid (num_ref (some ⟨b, off, none⟩) n2 c2 l2 0 8 w9 HRW.out (by omega) (by omega))
        unfold w8_33 at hst
        obtain ⟨kk, hk⟩ : ∃ z, rd l2 0 8 = z := ⟨_, rfl⟩
        rw [hk] at HK hst
        have HAL := Lib.hid (roundr_33 0#64 kk)
        rw [show W64 0#64 = 0 by decide] at HAL
        obtain ⟨aa, ha⟩ : ∃ z, rnd33 0#64 kk = z := ⟨_, rfl⟩
        rw [ha] at HAL hst
        have HQ := Lib.hid (rot64r_n (cur ^^^ aa) 27 (by decide))
        obtain ⟨q, hq⟩ : ∃ z, (cur ^^^ aa).rotateLeft 27 = z := ⟨_, rfl⟩
        rw [hq] at HQ hst
        obtain ⟨m1, hm⟩ : ∃ z, q * 11400714785074694791#64 + 9650029242287828579#64 = z := ⟨_, rfl⟩
        rw [hm] at hst
        have HM1 := Lib.hid hm
        have HST := Lib.hid hst
        clear hk ha hq hm hst
        have hi1 : (8 : Int) ≤ (c2 : Int) := by omega
        have hlc : (n2 : Int) ≤ (c2 : Int) := by omega
        by_cases hcm : c2 = 8
        · obtain rfl : n2 = 8 := by omega
          subst hcm
          have HR0 := Lib.hid (row_end HRW.out)
          go_wp2_with fail
          refine (HK.out).mono ?_
          rintro e w8 ⟨rfl, rfl⟩
          go_wp2_with fail
          refine (HAL.out _).mono ?_
          rintro e w8 ⟨rfl, rfl⟩
          go_wp2_with fail
          refine (HQ.out _).mono ?_
          rintro e w8 ⟨rfl, rfl⟩
          have hm1 := HM1.out
          go_wp2
          exact ⟨⟨_, 0, 0, l2.drop 8, m1, rfl, rfl, HR0.out, HST.out⟩, by simp [lenOf33] <;> omega⟩
        · have hcm2 : ¬ (c2 : Int) = 8 := by omega
          obtain ⟨sp2, hadd, hsp⟩ := row_rest HRW.out (show 8 ≤ n2 by omega)
          obtain rfl : sp2 = none := by
            simp [Addr.add] at hadd
            first | exact hadd | exact hadd.symm
          have HR0 := Lib.hid hsp
          clear hsp hadd
          go_wp2_with fail
          refine (HK.out).mono ?_
          rintro e w8 ⟨rfl, rfl⟩
          go_wp2_with fail
          refine (HAL.out _).mono ?_
          rintro e w8 ⟨rfl, rfl⟩
          go_wp2_with fail
          refine (HQ.out _).mono ?_
          rintro e w8 ⟨rfl, rfl⟩
          have hm1 := HM1.out
          go_wp2
          exact ⟨⟨_, (n2 - 8), (c2 - 8), l2.drop 8, m1, rfl, rfl, HR0.out, HST.out⟩, by simp [lenOf33] <;> omega⟩
      · by_cases h4 : (4 : Int) ≤ (n2 : Int)
        · obtain ⟨b, off, rfl, _⟩ := HRW.out.addr (by omega)
          have hst := (rest33_4 cur l2 (by omega) (by omega)).symm.trans HS.out
          rw [rest33_b _ _ (by rw [List.length_drop]; omega)] at hst
          have HK := Lib.hid (num_ref (some ⟨b, off, none⟩) n2 c2 l2 0 4 w9 HRW.out (by omega) (by omega))
          unfold w4_33 at hst
          obtain ⟨kk, hk⟩ : ∃ z, rd l2 0 4 = z := ⟨_, rfl⟩
          rw [hk] at HK hst
          have HQ := Lib.hid (rot64r_n (cur ^^^ kk * 11400714785074694791#64) 23 (by decide))
          obtain ⟨q, hq⟩ : ∃ z, (cur ^^^ kk * 11400714785074694791#64).rotateLeft 23 = z := ⟨_, rfl⟩
          rw [hq] at HQ hst
          obtain ⟨m1, hm⟩ : ∃ z, q * 14029467366897019727#64 + 1609587929392839161#64 = z := ⟨_, rfl⟩
          rw [hm] at hst
          have HM1 := Lib.hid hm
          have HFIN := Lib.hid hst
          clear hk hq hm hst
          have hi1 : (4 : Int) ≤ (c2 : Int) := by omega
          have hlc : (n2 : Int) ≤ (c2 : Int) := by omega
          by_cases hcm : c2 = 4
          · obtain rfl : n2 = 4 := by omega
            subst hcm
            have HR0 := Lib.hid (row_end HRW.out)
            go_wp2_with fail
            refine (HK.out).mono ?_
            rintro e w8 ⟨rfl, rfl⟩
            go_wp2_with fail
            refine (HQ.out _).mono ?_
            rintro e w8 ⟨rfl, rfl⟩
            have hm1 := HM1.out
            go_wp2_with fail
            clear hm1
            go_loop [9, 75] (fun hv i => ∃ k : Nat, k ≤ 0 ∧ i = .int .i64 (k : Int) ∧ hv = .int .u64 (W64 (((l2.drop 4).take k).foldl byt33 m1))) (fun _ i => 0 - (intOf i).toNat)
            case atStart => exact ⟨0, Nat.zero_le _, rfl, rfl⟩
            case round =>
              obtain ⟨k, hk2, rfl, rfl⟩ := hrel
              by_cases hlt2 : (k : Int) < ((0 : Nat) : Int)
              · omega
              · have hkn : k = 0 := by omega
                have htt : (l2.drop 4).take k = (l2.drop 4) := List.take_of_length_le (by rw [HR0.out.len_eq]; omega)
                rw [htt]
                clear htt
                have HF2 := HFIN.out
                obtain ⟨ff, hff⟩ : ∃ z, (l2.drop 4).foldl byt33 m1 = z := ⟨_, rfl⟩
                rw [hff] at HF2 ⊢
                clear hff
                subst hkn
                clear hlt2
                go_wp2
                go_ret
                first | exact ⟨rfl, HN.out⟩ | exact ⟨by rw [HF2], HN.out⟩
          · have hcm2 : ¬ (c2 : Int) = 4 := by omega
            obtain ⟨sp2, hadd, hsp⟩ := row_rest HRW.out (show 4 ≤ n2 by omega)
            obtain rfl : sp2 = none := by
              simp [Addr.add] at hadd
              first | exact hadd | exact hadd.symm
            have HR0 := Lib.hid hsp
            clear hsp hadd
            go_wp2_with fail
            refine (HK.out).mono ?_
            rintro e w8 ⟨rfl, rfl⟩
            go_wp2_with fail
            refine (HQ.out _).mono ?_
            rintro e w8 ⟨rfl, rfl⟩
            have hm1 := HM1.out
            go_wp2_with fail
            clear hm1
            go_loop [9, 75] (fun hv i => ∃ k : Nat, k ≤ (n2 - 4) ∧ i = .int .i64 (k : Int) ∧ hv = .int .u64 (W64 (((l2.drop 4).take k).foldl byt33 m1))) (fun _ i => (n2 - 4) - (intOf i).toNat)
            case atStart => exact ⟨0, Nat.zero_le _, rfl, rfl⟩
            case round =>
              obtain ⟨k, hk2, rfl, rfl⟩ := hrel
              by_cases hlt2 : (k : Int) < (((n2 - 4) : Nat) : Int)
              · obtain ⟨b2, off2, e2, hcell2⟩ := HR0.out.addr (by omega)
                cases e2
                have hck := hcell2 k (by omega)
                have hk0 : (0 : Int) ≤ (k : Int) := by omega
                have hft := foldl_take33 byt33 m1 (l2.drop 4) 0#8 k (by have := HR0.out.len_eq; omega)
                obtain ⟨g0, hg⟩ : ∃ z, ((l2.drop 4).take k).foldl byt33 m1 = z := ⟨_, rfl⟩
                rw [hg] at hft ⊢
                obtain ⟨bb, hbb⟩ : ∃ z, (l2.drop 4).getD k 0#8 = z := ⟨_, rfl⟩
                rw [hbb] at hft
                rw [show (l2.drop 4).getD k 0 = bb from hbb] at hck
                have hby : byt33 g0 bb = (g0 ^^^ bb.setWidth 64 * 2870177450012600261#64).rotateLeft 11 * 11400714785074694791#64 := rfl
                rw [hby] at hft
                have HRB := Lib.hid (rot64r_n (g0 ^^^ bb.setWidth 64 * 2870177450012600261#64) 11 (by decide))
                obtain ⟨rb, hrb⟩ : ∃ z, (g0 ^^^ bb.setWidth 64 * 2870177450012600261#64).rotateLeft 11 = z := ⟨_, rfl⟩
                rw [hrb] at HRB hft
                have HFT := Lib.hid hft
                clear hg hbb hrb hft hcell2 hby
                go_wp2_with fail
                refine (HRB.out _).mono ?_
                rintro e w8 ⟨rfl, rfl⟩
                go_wp2
                exact ⟨⟨k + 1, by omega, by go_num, by rw [HFT.out]⟩, by simp [intOf]; omega⟩
              · have hkn : k = (n2 - 4) := by omega
                have htt : (l2.drop 4).take k = (l2.drop 4) := List.take_of_length_le (by rw [HR0.out.len_eq]; omega)
                rw [htt]
                clear htt
                have HF2 := HFIN.out
                obtain ⟨ff, hff⟩ : ∃ z, (l2.drop 4).foldl byt33 m1 = z := ⟨_, rfl⟩
                rw [hff] at HF2 ⊢
                clear hff
                subst hkn
                clear hlt2
                go_wp2
                go_ret
                first | exact ⟨rfl, HN.out⟩ | exact ⟨by rw [HF2], HN.out⟩
        · have hlc : (n2 : Int) ≤ (c2 : Int) := by omega
          have HFIN := Lib.hid ((rest33_b cur l2 (by omega)).symm.trans HS.out)
          go_wp2_with fail
          go_loop [9, 75] (fun hv i => ∃ k : Nat, k ≤ n2 ∧ i = .int .i64 (k : Int) ∧ hv = .int .u64 (W64 ((l2.take k).foldl byt33 cur))) (fun _ i => n2 - (intOf i).toNat)
          case atStart => exact ⟨0, Nat.zero_le _, rfl, rfl⟩
          case round =>
            obtain ⟨k, hk2, rfl, rfl⟩ := hrel
            by_cases hlt2 : (k : Int) < ((n2 : Nat) : Int)
            · obtain ⟨b2, off2, e2, hcell2⟩ := HRW.out.addr (by omega)
              cases e2
              have hck := hcell2 k (by omega)
              have hk0 : (0 : Int) ≤ (k : Int) := by omega
              have hft := foldl_take33 byt33 cur l2 0#8 k (by have := HRW.out.len_eq; omega)
              obtain ⟨g0, hg⟩ : ∃ z, (l2.take k).foldl byt33 cur = z := ⟨_, rfl⟩
              rw [hg] at hft ⊢
              obtain ⟨bb, hbb⟩ : ∃ z, l2.getD k 0#8 = z := ⟨_, rfl⟩
              rw [hbb] at hft
              rw [show l2.getD k 0 = bb from hbb] at hck
              have hby : byt33 g0 bb = (g0 ^^^ bb.setWidth 64 * 2870177450012600261#64).rotateLeft 11 * 11400714785074694791#64 := rfl
              rw [hby] at hft
              have HRB := Lib.hid (rot64r_n (g0 ^^^ bb.setWidth 64 * 2870177450012600261#64) 11 (by decide))
              obtain ⟨rb, hrb⟩ : ∃ z, (g0 ^^^ bb.setWidth 64 * 2870177450012600261#64).rotateLeft 11 = z := ⟨_, rfl⟩
              rw [hrb] at HRB hft
              have HFT := Lib.hid hft
              clear hg hbb hrb hft hcell2 hby
              go_wp2_with fail
              refine (HRB.out _).mono ?_
              rintro e w8 ⟨rfl, rfl⟩
              go_wp2
              exact ⟨⟨k + 1, by omega, by go_num, by rw [HFT.out]⟩, by simp [intOf]; omega⟩
            · have hkn : k = n2 := by omega
              have htt : l2.take k = l2 := List.take_of_length_le (by rw [HRW.out.len_eq]; omega)
              rw [htt]
              clear htt
              have HF2 := HFIN.out
              obtain ⟨ff, hff⟩ : ∃ z, l2.foldl byt33 cur = z := ⟨_, rfl⟩
              rw [hff] at HF2 ⊢
              clear hff
              subst hkn
              clear hlt2
              go_wp2
              go_ret
              first | exact ⟨rfl, HN.out⟩ | exact ⟨by rw [HF2], HN.out⟩
end Go.Proofs.Ytfeeecmcaakpkaa
