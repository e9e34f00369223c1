/- Layer 32: the document's own Blocks and End. -/
import Derived.Test.YtfeeecmcaakpkaaM32C
import Derived.Defers
import Derived.Recover
import Derived.Laws.Pointers
import Derived.Handy
import Derived.Laws.EntriesVeiled
import Derived.LoopN
namespace Go.Proofs.Ytfeeecmcaakpkaa
open Go.RowKit Go.Bv
set_option linter.unusedVariables false
set_option maxRecDepth 100000 in
set_option maxHeartbeats 1000000 in
theorem blocks_ref32 (sd : BitVec 32) (a : Option Addr) (n c : Nat) (l : List (BitVec 8)) (w : World) (h : BRow w a n c l) :
    Calls Try.prog 18 #[.int .u32 (W32 sd), .slice a n c] w fun e w' => ∃ a' c', e = .returned (.tuple #[.agg #[.int .u64 (W64 ((bState 16 stp32 (start32 sd) l).1.setWidth 64)), .int .u64 (W64 ((bState 16 stp32 (start32 sd) l).2.1.setWidth 64)), .int .u64 (W64 ((bState 16 stp32 (start32 sd) l).2.2.1.setWidth 64)), .int .u64 (W64 ((bState 16 stp32 (start32 sd) l).2.2.2.setWidth 64))], .slice a' (n % 16 : Nat) c']) ∧ BRow w' a' (n % 16) c' (bTail 16 l) ∧ New w w' := by
  have HF := Lib.hid (fun w' (hn : New w w') => from_ref32 (start32 sd) a n c l w' (h.stay hn))
  have HZ := Lib.hid (fun B => two_blocks w (.cells #[.int .u64 0, .int .u64 0, .int .u64 0, .int .u64 0] 36) B)
  obtain ⟨st, h1⟩ : ∃ z, bState 16 stp32 (start32 sd) l = z := ⟨_, rfl⟩
  obtain ⟨tl, h2⟩ : ∃ z, bTail 16 l = z := ⟨_, rfl⟩
  rw [h1, h2] at HF
  rw [h1, h2]
  clear h h1 h2
  unfold start32 at HF
  simp only at HF
  go_enter Try.func18, Try.ntmps18
  go_wp2_with fail
  refine (HF.out _ (((New.refl w).alloc _).alloc _)).mono ?_
  rintro e w9 ⟨a2, c2, rfl, hr, hn⟩
  have HR := Lib.hid hr
  have HO := Lib.hid ((hn.block _ (lt_of_block (HZ.out _).1)).trans (HZ.out _).1)
  have HN := Lib.hid ((((New.refl w).alloc _).alloc _).trans hn)
  clear hr hn HF HZ
  have z0 := cell_of_row _ _ 0 _ _ _ HO.out
  have z1 := cell_of_row _ _ 1 _ _ _ HO.out
  have z2 := cell_of_row _ _ 2 _ _ _ HO.out
  have z3 := cell_of_row _ _ 3 _ _ _ HO.out
  have zf := fun i => frozen_of_row _ _ i _ _ HO.out
  go_wp2
  refine bodyPost_ret (by simp [results, Try.results18, go_sem, z0, z1, z2, z3]; try rfl) rfl ?_
  have hq : ∀ i, w.heap.size ≤ (⟨w.heap.size, i, none⟩ : Addr).block := fun i => Nat.le_refl _
  have hnb : NoBytes w9 w.heap.size := ⟨_, _, _, HO.out, by simp⟩
  refine ⟨a2, c2, rfl, HR.out.buts (((((But.refl w.heap.size w9).setCell (p := ⟨w.heap.size, 0, none⟩) rfl _).setCell (p := ⟨w.heap.size, 1, none⟩) rfl _).setCell (p := ⟨w.heap.size, 2, none⟩) rfl _).setCell (p := ⟨w.heap.size, 3, none⟩) rfl _) hnb, ?_⟩
  exact (((HN.out.setCell (hq 0) _).setCell (hq 1) _).setCell (hq 2) _).setCell (hq 3) _
set_option maxRecDepth 100000 in
set_option maxHeartbeats 4000000 in
theorem end_ref32 (sd : BitVec 32) (s : BitVec 32 × BitVec 32 × BitVec 32 × BitVec 32) (a : Option Addr) (n c : Nat) (tl : List (BitVec 8)) (lg : BitVec 64) (w : World) (h : BRow w a n c tl) :
    Calls Try.prog 38 #[.int .u32 (W32 sd), .agg #[.int .u64 (W64 ((s).1.setWidth 64)), .int .u64 (W64 ((s).2.1.setWidth 64)), .int .u64 (W64 ((s).2.2.1.setWidth 64)), .int .u64 (W64 ((s).2.2.2.setWidth 64))], .slice a n c, .int .u64 (W64 lg)] w fun e w' => e = .returned (.int .u32 (W32 (endr32 sd s tl lg))) ∧ New w w' := by
  obtain ⟨s0, s1, s2, s3⟩ := s
  have H := Lib.hid h
  clear h
  have hlg : (lg % 4294967296#64).setWidth 32 = lg.setWidth 32 := by
    apply BitVec.eq_of_toNat_eq
    rw [BitVec.toNat_setWidth, BitVec.toNat_setWidth, BitVec.toNat_umod]
    have : (4294967296#64 : BitVec 64).toNat = 4294967296 := by decide
    rw [this]
    omega
  have hd15 : ∀ h : BitVec 32, h >>> 15 = h / 32768#32 := fun h => (div_shift h 15 32768#32 (by decide)).symm
  have hd13 : ∀ h : BitVec 32, h >>> 13 = h / 8192#32 := fun h => (div_shift h 13 8192#32 (by decide)).symm
  have hd16 : ∀ h : BitVec 32, h >>> 16 = h / 65536#32 := fun h => (div_shift h 16 65536#32 (by decide)).symm
  have HZ := Lib.hid (heap_alloc_new w (.cells #[.int .u64 (W64 (s0.setWidth 64)), .int .u64 (W64 (s1.setWidth 64)), .int .u64 (W64 (s2.setWidth 64)), .int .u64 (W64 (s3.setWidth 64))] 36))
  have hln : (endr32 sd (s0, s1, s2, s3) tl lg) = last32 (rest32 (base32 (s0, s1, s2, s3) sd lg + lg.setWidth 32) tl) := rfl
  rw [hln]
  clear hln
  unfold last32 mixb32 mixa32
  simp only [hd15, hd13, hd16]
  clear hd15 hd13 hd16
  by_cases h16 : 16 ≤ lg.toNat
  · have hb : base32 (s0, s1, s2, s3) sd lg = s0.rotateLeft 1 + s1.rotateLeft 7 + s2.rotateLeft 12 + s3.rotateLeft 18 := by unfold base32 sum32; rw [if_pos h16]
    rw [hb]
    have hg1 : (16 : Int) ≤ W64 lg := by unfold W64; omega
    clear hb h16
    have sw0 := sw32 s0
    have sw1 := sw32 s1
    have sw2 := sw32 s2
    have sw3 := sw32 s3
    have HR0 := Lib.hid (rot32r_n s0 1 (by decide))
    obtain ⟨r0, hr⟩ : ∃ z, s0.rotateLeft 1 = z := ⟨_, rfl⟩
    rw [hr] at HR0
    rw [hr]
    clear hr
    have HR1 := Lib.hid (rot32r_n s1 7 (by decide))
    obtain ⟨r1, hr⟩ : ∃ z, s1.rotateLeft 7 = z := ⟨_, rfl⟩
    rw [hr] at HR1
    rw [hr]
    clear hr
    have HR2 := Lib.hid (rot32r_n s2 12 (by decide))
    obtain ⟨r2, hr⟩ : ∃ z, s2.rotateLeft 12 = z := ⟨_, rfl⟩
    rw [hr] at HR2
    rw [hr]
    clear hr
    have HR3 := Lib.hid (rot32r_n s3 18 (by decide))
    obtain ⟨r3, hr⟩ : ∃ z, s3.rotateLeft 18 = z := ⟨_, rfl⟩
    rw [hr] at HR3
    rw [hr]
    clear hr
    obtain ⟨h1, hh1⟩ : ∃ z, r0 + r1 + r2 + r3 + lg.setWidth 32 = z := ⟨_, rfl⟩
    rw [hh1]
    have HH1 := Lib.hid hh1
    clear hh1
    have HN := Lib.hid ((New.refl w).alloc (.cells #[.int .u64 (W64 (s0.setWidth 64)), .int .u64 (W64 (s1.setWidth 64)), .int .u64 (W64 (s2.setWidth 64)), .int .u64 (W64 (s3.setWidth 64))] 36))
    go_enter Try.func38, Try.ntmps38
    go_wp2_with fail
    refine wp_loop_rounds 5 ?_
    rw [rounds_succ]
    go_wp2_with fail
    refine Gro3.wp_region_gro3S (fun w' => w'.heap[w.heap.size]? = some (.cells #[.int .u64 (W64 (s0.setWidth 64)), .int .u64 (W64 (s1.setWidth 64)), .int .u64 (W64 (s2.setWidth 64)), .int .u64 (W64 (s3.setWidth 64))] 36 (0, 0)) ∧ New w w') (fun w' => w'.heap[w.heap.size]? = some (.cells #[.int .u64 (W64 (s0.setWidth 64)), .int .u64 (W64 (s1.setWidth 64)), .int .u64 (W64 (s2.setWidth 64)), .int .u64 (W64 (s3.setWidth 64))] 36 (0, 0)) ∧ New w w') [0,0,0,1,0,2,0,0,2,2,0,0] New (fun _ _ _ => True) (by kernel_rfl) (by kernel_rfl) (by kernel_rfl) (fun _ _ _ _ _ _ => trivial) (fun w' hw' => hw') (⟨HZ.out, HN.out.drew⟩) ?_
    intro I J _ _ f g hfa hba hgb hbb
    have HFA := Lib.hid hfa
    have HBA := Lib.hid hba
    have HGB := Lib.hid hgb
    have HBB := Lib.hid hbb
    have s0' := fun n => cell_of_row _ _ 0 _ _ _ (hgb n).1
    clear hfa hba hgb hbb
    refine Gro3.take0 3 (by kernel_rfl) ?_
    simp only [List.take, List.drop, List.length]
    repeat (go_big_quiet_step (fail))
    refine wpQuiet_nil ?_
    refine Gro3.take1 1 (by kernel_rfl) ?_
    simp only [List.take, List.drop, List.length]
    repeat (go_big_quiet_step (fail))
    refine wpQuiet_nil ?_
    refine Gro3.take0 1 (by kernel_rfl) ?_
    simp only [List.take, List.drop, List.length]
    repeat (go_big_quiet_step (fail))
    refine wpQuiet_nil ?_
    refine Gro3.callt (fun v => ∃ q, v = .slice (some ⟨q, 0, none⟩) 4 4) (fun v w' => ∃ q, v = .slice (some ⟨q, 0, none⟩) 4 4 ∧ Lies w' q (.cells #[.int .i64 1, .int .i64 7, .int .i64 12, .int .i64 18] 3 (0, 0))) rfl rfl (⟨_, 0, rfl⟩) (fun v w w' hn h => by obtain ⟨q, e, hz⟩ := h; exact ⟨q, e, (hn.block _ (lt_of_block hz)).trans hz⟩) (fun w1 hB hG => ?_) (fun v1 A1 hv1 hA => ?_)
    · obtain ⟨nq, rfl⟩ := hB
      have hal := (New.refl (g nq)).alloc (.cells #[.int .i64 1, .int .i64 7, .int .i64 12, .int .i64 18] 3)
      have HX := Lib.hid (HBB.out _ ⟨(hal.block _ (lt_of_block (HGB.out nq).1)).trans (HGB.out nq).1, (HGB.out nq).2.trans hal⟩)
      have HAL := Lib.hid hal
      have HZ2 := Lib.hid (show Lies _ _ _ from heap_alloc_new (g nq) (.cells #[.int .i64 1, .int .i64 7, .int .i64 12, .int .i64 18] 3))
      clear hal s0'
      go_simp
      first | exact ⟨HX.out, HAL.out, HZ2.out⟩ | exact ⟨HX.out, HAL.out, ⟨_, rfl⟩, ⟨_, rfl, HZ2.out⟩⟩ | exact ⟨_, rfl, HX.out, HAL.out, ⟨_, rfl⟩, ⟨_, rfl, HZ2.out⟩⟩
    simp [Act.put] at hA
    subst hA
    obtain ⟨q1, rfl⟩ := hv1
    refine Gro3.take0 2 (by kernel_rfl) ?_
    simp only [List.take, List.drop, List.length]
    repeat (go_big_quiet_step (fail))
    refine wpQuiet_nil ?_
    refine Gro3.callt (fun v => v = .int .i64 1) (fun _ _ => True) rfl rfl (⟨_, rfl⟩) (fun _ _ _ _ _ => trivial) (fun w1 hB hG => ?_) (fun v2 A2 hv2 hA => ?_)
    · obtain ⟨nq, rfl⟩ := hB
      obtain ⟨q2, e2, hz⟩ := hG
      cases e2
      have cq := cell_of_row _ _ 0 _ _ _ hz
      clear hz s0'
      go_simp
      first | exact ⟨_, rfl, ⟨nq, rfl⟩, New.refl _, rfl⟩ | exact ⟨_, rfl, ⟨nq, rfl⟩, New.refl _, rfl, trivial⟩ | exact ⟨⟨nq, rfl⟩, New.refl _⟩
    simp [Act.put] at hA
    subst hA
    obtain rfl := hv2
    refine Gro3.callt (fun v => v = .int .u32 (W32 r0)) (fun _ _ => True) rfl rfl (⟨_, rfl⟩) (fun _ _ _ _ _ => trivial) (fun w1 hB hG => ?_) (fun v3 A3 hv3 hA => ?_)
    · obtain ⟨nq, rfl⟩ := hB
      clear s0'
      go_simp
      refine (HR0.out _).mono ?_
      rintro e w2 ⟨rfl, rfl⟩
      first | exact ⟨_, rfl, ⟨nq, rfl⟩, New.refl _, rfl⟩ | exact ⟨_, rfl, ⟨nq, rfl⟩, New.refl _, rfl, trivial⟩ | exact ⟨⟨nq, rfl⟩, New.refl _⟩
    simp [Act.put] at hA
    subst hA
    obtain rfl := hv3
    refine Gro3.take0 2 (by kernel_rfl) ?_
    simp only [List.take, List.drop, List.length]
    repeat (go_big_quiet_step (fail))
    refine wpQuiet_nil ?_
    refine Gro3.nil ?_
    rintro w11 ⟨n9, rfl⟩ hG
    have hF := HGB.out n9
    replace HZ := Lib.hid hF.1
    replace HN := Lib.hid hF.2
    clear HFA HBA HGB HBB hG hF s0' HR0
    generalize g n9 = w9 at *
    go_wp2_with fail
    rw [rounds_succ]
    go_wp2_with fail
    refine Gro3.wp_region_gro3S (fun w' => w'.heap[w.heap.size]? = some (.cells #[.int .u64 (W64 (s0.setWidth 64)), .int .u64 (W64 (s1.setWidth 64)), .int .u64 (W64 (s2.setWidth 64)), .int .u64 (W64 (s3.setWidth 64))] 36 (0, 0)) ∧ New w w') (fun w' => w'.heap[w.heap.size]? = some (.cells #[.int .u64 (W64 (s0.setWidth 64)), .int .u64 (W64 (s1.setWidth 64)), .int .u64 (W64 (s2.setWidth 64)), .int .u64 (W64 (s3.setWidth 64))] 36 (0, 0)) ∧ New w w') [0,0,0,1,0,2,0,0,2,2,0,0] New (fun _ _ _ => True) (by kernel_rfl) (by kernel_rfl) (by kernel_rfl) (fun _ _ _ _ _ _ => trivial) (fun w' hw' => hw') (⟨HZ.out, HN.out.drew⟩) ?_
    intro I J _ _ f g hfa hba hgb hbb
    have HFA := Lib.hid hfa
    have HBA := Lib.hid hba
    have HGB := Lib.hid hgb
    have HBB := Lib.hid hbb
    have s0' := fun n => cell_of_row _ _ 1 _ _ _ (hgb n).1
    clear hfa hba hgb hbb
    refine Gro3.take0 3 (by kernel_rfl) ?_
    simp only [List.take, List.drop, List.length]
    repeat (go_big_quiet_step (fail))
    refine wpQuiet_nil ?_
    refine Gro3.take1 1 (by kernel_rfl) ?_
    simp only [List.take, List.drop, List.length]
    repeat (go_big_quiet_step (fail))
    refine wpQuiet_nil ?_
    refine Gro3.take0 1 (by kernel_rfl) ?_
    simp only [List.take, List.drop, List.length]
    repeat (go_big_quiet_step (fail))
    refine wpQuiet_nil ?_
    refine Gro3.callt (fun v => ∃ q, v = .slice (some ⟨q, 0, none⟩) 4 4) (fun v w' => ∃ q, v = .slice (some ⟨q, 0, none⟩) 4 4 ∧ Lies w' q (.cells #[.int .i64 1, .int .i64 7, .int .i64 12, .int .i64 18] 3 (0, 0))) rfl rfl (⟨_, 0, rfl⟩) (fun v w w' hn h => by obtain ⟨q, e, hz⟩ := h; exact ⟨q, e, (hn.block _ (lt_of_block hz)).trans hz⟩) (fun w1 hB hG => ?_) (fun v1 A1 hv1 hA => ?_)
    · obtain ⟨nq, rfl⟩ := hB
      have hal := (New.refl (g nq)).alloc (.cells #[.int .i64 1, .int .i64 7, .int .i64 12, .int .i64 18] 3)
      have HX := Lib.hid (HBB.out _ ⟨(hal.block _ (lt_of_block (HGB.out nq).1)).trans (HGB.out nq).1, (HGB.out nq).2.trans hal⟩)
      have HAL := Lib.hid hal
      have HZ2 := Lib.hid (show Lies _ _ _ from heap_alloc_new (g nq) (.cells #[.int .i64 1, .int .i64 7, .int .i64 12, .int .i64 18] 3))
      clear hal s0'
      go_simp
      first | exact ⟨HX.out, HAL.out, HZ2.out⟩ | exact ⟨HX.out, HAL.out, ⟨_, rfl⟩, ⟨_, rfl, HZ2.out⟩⟩ | exact ⟨_, rfl, HX.out, HAL.out, ⟨_, rfl⟩, ⟨_, rfl, HZ2.out⟩⟩
    simp [Act.put] at hA
    subst hA
    obtain ⟨q1, rfl⟩ := hv1
    refine Gro3.take0 2 (by kernel_rfl) ?_
    simp only [List.take, List.drop, List.length]
    repeat (go_big_quiet_step (fail))
    refine wpQuiet_nil ?_
    refine Gro3.callt (fun v => v = .int .i64 7) (fun _ _ => True) rfl rfl (⟨_, rfl⟩) (fun _ _ _ _ _ => trivial) (fun w1 hB hG => ?_) (fun v2 A2 hv2 hA => ?_)
    · obtain ⟨nq, rfl⟩ := hB
      obtain ⟨q2, e2, hz⟩ := hG
      cases e2
      have cq := cell_of_row _ _ 1 _ _ _ hz
      clear hz s0'
      go_simp
      first | exact ⟨_, rfl, ⟨nq, rfl⟩, New.refl _, rfl⟩ | exact ⟨_, rfl, ⟨nq, rfl⟩, New.refl _, rfl, trivial⟩ | exact ⟨⟨nq, rfl⟩, New.refl _⟩
    simp [Act.put] at hA
    subst hA
    obtain rfl := hv2
    refine Gro3.callt (fun v => v = .int .u32 (W32 r1)) (fun _ _ => True) rfl rfl (⟨_, rfl⟩) (fun _ _ _ _ _ => trivial) (fun w1 hB hG => ?_) (fun v3 A3 hv3 hA => ?_)
    · obtain ⟨nq, rfl⟩ := hB
      clear s0'
      go_simp
      refine (HR1.out _).mono ?_
      rintro e w2 ⟨rfl, rfl⟩
      first | exact ⟨_, rfl, ⟨nq, rfl⟩, New.refl _, rfl⟩ | exact ⟨_, rfl, ⟨nq, rfl⟩, New.refl _, rfl, trivial⟩ | exact ⟨⟨nq, rfl⟩, New.refl _⟩
    simp [Act.put] at hA
    subst hA
    obtain rfl := hv3
    refine Gro3.take0 2 (by kernel_rfl) ?_
    simp only [List.take, List.drop, List.length]
    repeat (go_big_quiet_step (fail))
    refine wpQuiet_nil ?_
    refine Gro3.nil ?_
    rintro w11 ⟨n9, rfl⟩ hG
    have hF := HGB.out n9
    replace HZ := Lib.hid hF.1
    replace HN := Lib.hid hF.2
    clear HFA HBA HGB HBB hG hF s0' HR1
    generalize g n9 = w9 at *
    go_wp2_with fail
    rw [rounds_succ]
    go_wp2_with fail
    refine Gro3.wp_region_gro3S (fun w' => w'.heap[w.heap.size]? = some (.cells #[.int .u64 (W64 (s0.setWidth 64)), .int .u64 (W64 (s1.setWidth 64)), .int .u64 (W64 (s2.setWidth 64)), .int .u64 (W64 (s3.setWidth 64))] 36 (0, 0)) ∧ New w w') (fun w' => w'.heap[w.heap.size]? = some (.cells #[.int .u64 (W64 (s0.setWidth 64)), .int .u64 (W64 (s1.setWidth 64)), .int .u64 (W64 (s2.setWidth 64)), .int .u64 (W64 (s3.setWidth 64))] 36 (0, 0)) ∧ New w w') [0,0,0,1,0,2,0,0,2,2,0,0] New (fun _ _ _ => True) (by kernel_rfl) (by kernel_rfl) (by kernel_rfl) (fun _ _ _ _ _ _ => trivial) (fun w' hw' => hw') (⟨HZ.out, HN.out.drew⟩) ?_
    intro I J _ _ f g hfa hba hgb hbb
    have HFA := Lib.hid hfa
    have HBA := Lib.hid hba
    have HGB := Lib.hid hgb
    have HBB := Lib.hid hbb
    have s0' := fun n => cell_of_row _ _ 2 _ _ _ (hgb n).1
    clear hfa hba hgb hbb
    refine Gro3.take0 3 (by kernel_rfl) ?_
    simp only [List.take, List.drop, List.length]
    repeat (go_big_quiet_step (fail))
    refine wpQuiet_nil ?_
    refine Gro3.take1 1 (by kernel_rfl) ?_
    simp only [List.take, List.drop, List.length]
    repeat (go_big_quiet_step (fail))
    refine wpQuiet_nil ?_
    refine Gro3.take0 1 (by kernel_rfl) ?_
    simp only [List.take, List.drop, List.length]
    repeat (go_big_quiet_step (fail))
    refine wpQuiet_nil ?_
    refine Gro3.callt (fun v => ∃ q, v = .slice (some ⟨q, 0, none⟩) 4 4) (fun v w' => ∃ q, v = .slice (some ⟨q, 0, none⟩) 4 4 ∧ Lies w' q (.cells #[.int .i64 1, .int .i64 7, .int .i64 12, .int .i64 18] 3 (0, 0))) rfl rfl (⟨_, 0, rfl⟩) (fun v w w' hn h => by obtain ⟨q, e, hz⟩ := h; exact ⟨q, e, (hn.block _ (lt_of_block hz)).trans hz⟩) (fun w1 hB hG => ?_) (fun v1 A1 hv1 hA => ?_)
    · obtain ⟨nq, rfl⟩ := hB
      have hal := (New.refl (g nq)).alloc (.cells #[.int .i64 1, .int .i64 7, .int .i64 12, .int .i64 18] 3)
      have HX := Lib.hid (HBB.out _ ⟨(hal.block _ (lt_of_block (HGB.out nq).1)).trans (HGB.out nq).1, (HGB.out nq).2.trans hal⟩)
      have HAL := Lib.hid hal
      have HZ2 := Lib.hid (show Lies _ _ _ from heap_alloc_new (g nq) (.cells #[.int .i64 1, .int .i64 7, .int .i64 12, .int .i64 18] 3))
      clear hal s0'
      go_simp
      first | exact ⟨HX.out, HAL.out, HZ2.out⟩ | exact ⟨HX.out, HAL.out, ⟨_, rfl⟩, ⟨_, rfl, HZ2.out⟩⟩ | exact ⟨_, rfl, HX.out, HAL.out, ⟨_, rfl⟩, ⟨_, rfl, HZ2.out⟩⟩
    simp [Act.put] at hA
    subst hA
    obtain ⟨q1, rfl⟩ := hv1
    refine Gro3.take0 2 (by kernel_rfl) ?_
    simp only [List.take, List.drop, List.length]
    repeat (go_big_quiet_step (fail))
    refine wpQuiet_nil ?_
    refine Gro3.callt (fun v => v = .int .i64 12) (fun _ _ => True) rfl rfl (⟨_, rfl⟩) (fun _ _ _ _ _ => trivial) (fun w1 hB hG => ?_) (fun v2 A2 hv2 hA => ?_)
    · obtain ⟨nq, rfl⟩ := hB
      obtain ⟨q2, e2, hz⟩ := hG
      cases e2
      have cq := cell_of_row _ _ 2 _ _ _ hz
      clear hz s0'
      go_simp
      first | exact ⟨_, rfl, ⟨nq, rfl⟩, New.refl _, rfl⟩ | exact ⟨_, rfl, ⟨nq, rfl⟩, New.refl _, rfl, trivial⟩ | exact ⟨⟨nq, rfl⟩, New.refl _⟩
    simp [Act.put] at hA
    subst hA
    obtain rfl := hv2
    refine Gro3.callt (fun v => v = .int .u32 (W32 r2)) (fun _ _ => True) rfl rfl (⟨_, rfl⟩) (fun _ _ _ _ _ => trivial) (fun w1 hB hG => ?_) (fun v3 A3 hv3 hA => ?_)
    · obtain ⟨nq, rfl⟩ := hB
      clear s0'
      go_simp
      refine (HR2.out _).mono ?_
      rintro e w2 ⟨rfl, rfl⟩
      first | exact ⟨_, rfl, ⟨nq, rfl⟩, New.refl _, rfl⟩ | exact ⟨_, rfl, ⟨nq, rfl⟩, New.refl _, rfl, trivial⟩ | exact ⟨⟨nq, rfl⟩, New.refl _⟩
    simp [Act.put] at hA
    subst hA
    obtain rfl := hv3
    refine Gro3.take0 2 (by kernel_rfl) ?_
    simp only [List.take, List.drop, List.length]
    repeat (go_big_quiet_step (fail))
    refine wpQuiet_nil ?_
    refine Gro3.nil ?_
    rintro w11 ⟨n9, rfl⟩ hG
    have hF := HGB.out n9
    replace HZ := Lib.hid hF.1
    replace HN := Lib.hid hF.2
    clear HFA HBA HGB HBB hG hF s0' HR2
    generalize g n9 = w9 at *
    go_wp2_with fail
    rw [rounds_succ]
    go_wp2_with fail
    refine Gro3.wp_region_gro3S (fun w' => w'.heap[w.heap.size]? = some (.cells #[.int .u64 (W64 (s0.setWidth 64)), .int .u64 (W64 (s1.setWidth 64)), .int .u64 (W64 (s2.setWidth 64)), .int .u64 (W64 (s3.setWidth 64))] 36 (0, 0)) ∧ New w w') (fun w' => w'.heap[w.heap.size]? = some (.cells #[.int .u64 (W64 (s0.setWidth 64)), .int .u64 (W64 (s1.setWidth 64)), .int .u64 (W64 (s2.setWidth 64)), .int .u64 (W64 (s3.setWidth 64))] 36 (0, 0)) ∧ New w w') [0,0,0,1,0,2,0,0,2,2,0,0] New (fun _ _ _ => True) (by kernel_rfl) (by kernel_rfl) (by kernel_rfl) (fun _ _ _ _ _ _ => trivial) (fun w' hw' => hw') (⟨HZ.out, HN.out.drew⟩) ?_
    intro I J _ _ f g hfa hba hgb hbb
    have HFA := Lib.hid hfa
    have HBA := Lib.hid hba
    have HGB := Lib.hid hgb
    have HBB := Lib.hid hbb
    have s0' := fun n => cell_of_row _ _ 3 _ _ _ (hgb n).1
    clear hfa hba hgb hbb
    refine Gro3.take0 3 (by kernel_rfl) ?_
    simp only [List.take, List.drop, List.length]
    repeat (go_big_quiet_step (fail))
    refine wpQuiet_nil ?_
    refine Gro3.take1 1 (by kernel_rfl) ?_
    simp only [List.take, List.drop, List.length]
    repeat (go_big_quiet_step (fail))
    refine wpQuiet_nil ?_
    refine Gro3.take0 1 (by kernel_rfl) ?_
    simp only [List.take, List.drop, List.length]
    repeat (go_big_quiet_step (fail))
    refine wpQuiet_nil ?_
    refine Gro3.callt (fun v => ∃ q, v = .slice (some ⟨q, 0, none⟩) 4 4) (fun v w' => ∃ q, v = .slice (some ⟨q, 0, none⟩) 4 4 ∧ Lies w' q (.cells #[.int .i64 1, .int .i64 7, .int .i64 12, .int .i64 18] 3 (0, 0))) rfl rfl (⟨_, 0, rfl⟩) (fun v w w' hn h => by obtain ⟨q, e, hz⟩ := h; exact ⟨q, e, (hn.block _ (lt_of_block hz)).trans hz⟩) (fun w1 hB hG => ?_) (fun v1 A1 hv1 hA => ?_)
    · obtain ⟨nq, rfl⟩ := hB
      have hal := (New.refl (g nq)).alloc (.cells #[.int .i64 1, .int .i64 7, .int .i64 12, .int .i64 18] 3)
      have HX := Lib.hid (HBB.out _ ⟨(hal.block _ (lt_of_block (HGB.out nq).1)).trans (HGB.out nq).1, (HGB.out nq).2.trans hal⟩)
      have HAL := Lib.hid hal
      have HZ2 := Lib.hid (show Lies _ _ _ from heap_alloc_new (g nq) (.cells #[.int .i64 1, .int .i64 7, .int .i64 12, .int .i64 18] 3))
      clear hal s0'
      go_simp
      first | exact ⟨HX.out, HAL.out, HZ2.out⟩ | exact ⟨HX.out, HAL.out, ⟨_, rfl⟩, ⟨_, rfl, HZ2.out⟩⟩ | exact ⟨_, rfl, HX.out, HAL.out, ⟨_, rfl⟩, ⟨_, rfl, HZ2.out⟩⟩
    simp [Act.put] at hA
    subst hA
    obtain ⟨q1, rfl⟩ := hv1
    refine Gro3.take0 2 (by kernel_rfl) ?_
    simp only [List.take, List.drop, List.length]
    repeat (go_big_quiet_step (fail))
    refine wpQuiet_nil ?_
    refine Gro3.callt (fun v => v = .int .i64 18) (fun _ _ => True) rfl rfl (⟨_, rfl⟩) (fun _ _ _ _ _ => trivial) (fun w1 hB hG => ?_) (fun v2 A2 hv2 hA => ?_)
    · obtain ⟨nq, rfl⟩ := hB
      obtain ⟨q2, e2, hz⟩ := hG
      cases e2
      have cq := cell_of_row _ _ 3 _ _ _ hz
      clear hz s0'
      go_simp
      first | exact ⟨_, rfl, ⟨nq, rfl⟩, New.refl _, rfl⟩ | exact ⟨_, rfl, ⟨nq, rfl⟩, New.refl _, rfl, trivial⟩ | exact ⟨⟨nq, rfl⟩, New.refl _⟩
    simp [Act.put] at hA
    subst hA
    obtain rfl := hv2
    refine Gro3.callt (fun v => v = .int .u32 (W32 r3)) (fun _ _ => True) rfl rfl (⟨_, rfl⟩) (fun _ _ _ _ _ => trivial) (fun w1 hB hG => ?_) (fun v3 A3 hv3 hA => ?_)
    · obtain ⟨nq, rfl⟩ := hB
      clear s0'
      go_simp
      refine (HR3.out _).mono ?_
      rintro e w2 ⟨rfl, rfl⟩
      first | exact ⟨_, rfl, ⟨nq, rfl⟩, New.refl _, rfl⟩ | exact ⟨_, rfl, ⟨nq, rfl⟩, New.refl _, rfl, trivial⟩ | exact ⟨⟨nq, rfl⟩, New.refl _⟩
    simp [Act.put] at hA
    subst hA
    obtain rfl := hv3
    refine Gro3.take0 2 (by kernel_rfl) ?_
    simp only [List.take, List.drop, List.length]
    repeat (go_big_quiet_step (fail))
    refine wpQuiet_nil ?_
    refine Gro3.nil ?_
    rintro w11 ⟨n9, rfl⟩ hG
    have hF := HGB.out n9
    replace HZ := Lib.hid hF.1
    replace HN := Lib.hid hF.2
    clear HFA HBA HGB HBB hG hF s0' HR3
    generalize g n9 = w9 at *
    go_wp2_with fail
    rw [rounds_succ]
    have hh1 := HH1.out
    go_wp2_with fail
    clear hh1 HZ
    go_loop [2, 9] (fun sl hv => ∃ (a2 : Option Addr) (n2 c2 : Nat) (l2 : List (BitVec 8)) (cur : BitVec 32), sl = .slice a2 n2 c2 ∧ hv = .int .u32 (W32 cur) ∧ BRow w9 a2 n2 c2 l2 ∧ rest32 cur l2 = rest32 h1 tl) (fun sl _ => lenOf32 sl)
    case atStart => exact ⟨a, n, c, tl, h1, rfl, rfl, H.out.stay HN.out, rfl⟩
    case round =>
      obtain ⟨a2, n2, c2, l2, cur, rfl, rfl, hrow, hs⟩ := hrel
      have HRW := Lib.hid hrow
      have HS := Lib.hid hs
      have hle := hrow.le
      have hlen := hrow.len_eq
      have hmost := hrow.most
      have hroom := hrow.room
      clear hrow hs
      by_cases hlt : (4 : Int) ≤ (n2 : Int)
      · obtain ⟨b, off, rfl, _⟩ := HRW.out.addr (by omega)
        have hst : rest32 cur l2 = rest32 ((cur + (rd l2 0 4).setWidth 32 * 3266489917#32).rotateLeft 17 * 668265263#32) (l2.drop 4) := by
          conv => lhs; unfold rest32
          rw [bState_step 4 (by decide) wst32 cur l2 (by omega), bTail_step 4 (by decide) l2 (by omega)]
          have : wst32 cur (l2.take 4) = (cur + (rd l2 0 4).setWidth 32 * 3266489917#32).rotateLeft 17 * 668265263#32 := by unfold wst32; rw [rd_take32 l2 4 0 4 (by omega)]
          rw [this]
          rfl
        have HK := Lib.hid (num_ref (some ⟨b, off, none⟩) n2 c2 l2 0 4 w9 HRW.out (by omega) (by omega))
        obtain ⟨kk, hk⟩ : ∃ z, rd l2 0 4 = z := ⟨_, rfl⟩
        rw [hk] at HK hst
        have HQ := Lib.hid (rot32r_n (cur + kk.setWidth 32 * 3266489917#32) 17 (by decide))
        obtain ⟨q, hq⟩ : ∃ z, (cur + kk.setWidth 32 * 3266489917#32).rotateLeft 17 = z := ⟨_, rfl⟩
        rw [hq] at HQ hst
        obtain ⟨m1, hm⟩ : ∃ z, q * 668265263#32 = z := ⟨_, rfl⟩
        rw [hm] at hst
        have HM1 := Lib.hid hm
        have HST := Lib.hid (hst.symm.trans HS.out)
        clear hk hq hm hst
        have hi1 : (4 : Int) ≤ (c2 : Int) := by omega
        have hlc : (n2 : Int) ≤ (c2 : Int) := by omega
        by_cases hcm : c2 = 4
        · obtain rfl : n2 = 4 := by omega
          subst hcm
          have HR0 := Lib.hid (row_end HRW.out)
          go_wp2_with fail
          refine (HK.out).mono ?_
          rintro e w8 ⟨rfl, rfl⟩
          go_wp2_with fail
          refine (HQ.out _).mono ?_
          rintro e w8 ⟨rfl, rfl⟩
          have hm1 := HM1.out
          go_wp2
          exact ⟨⟨_, 0, 0, l2.drop 4, m1, rfl, rfl, HR0.out, HST.out⟩, by simp [lenOf32] <;> omega⟩
        · have hcm2 : ¬ (c2 : Int) = 4 := by omega
          obtain ⟨sp2, hadd, hsp⟩ := row_rest HRW.out (show 4 ≤ n2 by omega)
          obtain rfl : sp2 = none := by
            simp [Addr.add] at hadd
            first | exact hadd | exact hadd.symm
          have HR0 := Lib.hid hsp
          clear hsp hadd
          go_wp2_with fail
          refine (HK.out).mono ?_
          rintro e w8 ⟨rfl, rfl⟩
          go_wp2_with fail
          refine (HQ.out _).mono ?_
          rintro e w8 ⟨rfl, rfl⟩
          have hm1 := HM1.out
          go_wp2
          exact ⟨⟨_, (n2 - 4), (c2 - 4), l2.drop 4, m1, rfl, rfl, HR0.out, HST.out⟩, by simp [lenOf32] <;> omega⟩
      · have hsh : l2.length < 4 := by omega
        have HFIN := Lib.hid (show l2.foldl byt32 cur = rest32 h1 tl by rw [← HS.out]; unfold rest32; rw [bState_short 4 wst32 cur l2 hsh, bTail_short 4 l2 hsh])
        have hlc : (n2 : Int) ≤ (c2 : Int) := by omega
        clear hsh
        go_wp2_with fail
        go_loop [9, 52] (fun hv i => ∃ k : Nat, k ≤ n2 ∧ i = .int .i64 (k : Int) ∧ hv = .int .u32 (W32 ((l2.take k).foldl byt32 cur))) (fun _ i => n2 - (intOf i).toNat)
        case atStart => exact ⟨0, Nat.zero_le _, rfl, rfl⟩
        case round =>
          obtain ⟨k, hk2, rfl, rfl⟩ := hrel
          by_cases hlt2 : (k : Int) < ((n2 : Nat) : Int)
          · obtain ⟨b2, off2, e2, hcell⟩ := HRW.out.addr (by omega)
            cases e2
            have hck := hcell k (by omega)
            have hk0 : (0 : Int) ≤ (k : Int) := by omega
            have hft := foldl_take byt32 cur l2 0#8 k (by have := HRW.out.len_eq; omega)
            obtain ⟨g0, hg⟩ : ∃ z, (l2.take k).foldl byt32 cur = z := ⟨_, rfl⟩
            rw [hg] at hft ⊢
            unfold byt32 at hft
            obtain ⟨bb, hbb⟩ : ∃ z, l2.getD k 0#8 = z := ⟨_, rfl⟩
            rw [hbb] at hft
            rw [show l2.getD k 0 = bb from hbb] at hck
            have HRB := Lib.hid (rot32r_n (g0 + bb.setWidth 32 * 374761393#32) 11 (by decide))
            obtain ⟨rb, hrb⟩ : ∃ z, (g0 + bb.setWidth 32 * 374761393#32).rotateLeft 11 = z := ⟨_, rfl⟩
            rw [hrb] at HRB hft
            have HFT := Lib.hid hft
            clear hg hbb hrb hft hcell
            go_wp2_with fail
            refine (HRB.out _).mono ?_
            rintro e w9 ⟨rfl, rfl⟩
            go_wp2
            exact ⟨⟨k + 1, by omega, by go_num, by unfold byt32; rw [HFT.out]⟩, by simp [intOf]; omega⟩
          · have hkn : k = n2 := by omega
            have htt : l2.take k = l2 := List.take_of_length_le (by rw [HRW.out.len_eq]; omega)
            rw [htt]
            clear htt
            have HF2 := HFIN.out
            obtain ⟨ff, hff⟩ : ∃ z, l2.foldl byt32 cur = z := ⟨_, rfl⟩
            rw [hff] at HF2 ⊢
            clear hff
            subst hkn
            clear hlt2
            go_wp2
            go_ret
            first | exact ⟨rfl, HN.out⟩ | exact ⟨by rw [HF2], HN.out⟩
  · have hb : base32 (s0, s1, s2, s3) sd lg = sd + 374761393#32 := by unfold base32; rw [if_neg h16]
    rw [hb]
    have hg1 : ¬ (16 : Int) ≤ W64 lg := by unfold W64; omega
    clear hb h16
    have HN := Lib.hid ((New.refl w).alloc (.cells #[.int .u64 (W64 (s0.setWidth 64)), .int .u64 (W64 (s1.setWidth 64)), .int .u64 (W64 (s2.setWidth 64)), .int .u64 (W64 (s3.setWidth 64))] 36))
    obtain ⟨h1, hh1⟩ : ∃ z, sd + 374761393#32 + lg.setWidth 32 = z := ⟨_, rfl⟩
    rw [hh1]
    go_enter Try.func38, Try.ntmps38
    go_wp2_with fail
    generalize w.alloc (.cells #[.int .u64 (W64 (s0.setWidth 64)), .int .u64 (W64 (s1.setWidth 64)), .int .u64 (W64 (s2.setWidth 64)), .int .u64 (W64 (s3.setWidth 64))] 36) = w9 at *
    clear HZ
    go_loop [2, 9] (fun sl hv => ∃ (a2 : Option Addr) (n2 c2 : Nat) (l2 : List (BitVec 8)) (cur : BitVec 32), sl = .slice a2 n2 c2 ∧ hv = .int .u32 (W32 cur) ∧ BRow w9 a2 n2 c2 l2 ∧ rest32 cur l2 = rest32 h1 tl) (fun sl _ => lenOf32 sl)
    case atStart => exact ⟨a, n, c, tl, h1, rfl, rfl, H.out.stay HN.out, rfl⟩
    case round =>
      obtain ⟨a2, n2, c2, l2, cur, rfl, rfl, hrow, hs⟩ := hrel
      have HRW := Lib.hid hrow
      have HS := Lib.hid hs
      have hle := hrow.le
      have hlen := hrow.len_eq
      have hmost := hrow.most
      have hroom := hrow.room
      clear hrow hs
      by_cases hlt : (4 : Int) ≤ (n2 : Int)
      · obtain ⟨b, off, rfl, _⟩ := HRW.out.addr (by omega)
        have hst : rest32 cur l2 = rest32 ((cur + (rd l2 0 4).setWidth 32 * 3266489917#32).rotateLeft 17 * 668265263#32) (l2.drop 4) := by
          conv => lhs; unfold rest32
          rw [bState_step 4 (by decide) wst32 cur l2 (by omega), bTail_step 4 (by decide) l2 (by omega)]
          have : wst32 cur (l2.take 4) = (cur + (rd l2 0 4).setWidth 32 * 3266489917#32).rotateLeft 17 * 668265263#32 := by unfold wst32; rw [rd_take32 l2 4 0 4 (by omega)]
          rw [this]
          rfl
        have HK := Lib.hid (num_ref (some ⟨b, off, none⟩) n2 c2 l2 0 4 w9 HRW.out (by omega) (by omega))
        obtain ⟨kk, hk⟩ : ∃ z, rd l2 0 4 = z := ⟨_, rfl⟩
        rw [hk] at HK hst
        have HQ := Lib.hid (rot32r_n (cur + kk.setWidth 32 * 3266489917#32) 17 (by decide))
        obtain ⟨q, hq⟩ : ∃ z, (cur + kk.setWidth 32 * 3266489917#32).rotateLeft 17 = z := ⟨_, rfl⟩
        rw [hq] at HQ hst
        obtain ⟨m1, hm⟩ : ∃ z, q * 668265263#32 = z := ⟨_, rfl⟩
        rw [hm] at hst
        have HM1 := Lib.hid hm
        have HST := Lib.hid (hst.symm.trans HS.out)
        clear hk hq hm hst
        have hi1 : (4 : Int) ≤ (c2 : Int) := by omega
        have hlc : (n2 : Int) ≤ (c2 : Int) := by omega
        by_cases hcm : c2 = 4
        · obtain rfl : n2 = 4 := by omega
          subst hcm
          have HR0 := Lib.hid (row_end HRW.out)
          go_wp2_with fail
          refine (HK.out).mono ?_
          rintro e w8 ⟨rfl, rfl⟩
          go_wp2_with fail
          refine (HQ.out _).mono ?_
          rintro e w8 ⟨rfl, rfl⟩
          have hm1 := HM1.out
          go_wp2
          exact ⟨⟨_, 0, 0, l2.drop 4, m1, rfl, rfl, HR0.out, HST.out⟩, by simp [lenOf32] <;> omega⟩
        · have hcm2 : ¬ (c2 : Int) = 4 := by omega
          obtain ⟨sp2, hadd, hsp⟩ := row_rest HRW.out (show 4 ≤ n2 by omega)
          obtain rfl : sp2 = none := by
            simp [Addr.add] at hadd
            first | exact hadd | exact hadd.symm
          have HR0 := Lib.hid hsp
          clear hsp hadd
          go_wp2_with fail
          refine (HK.out).mono ?_
          rintro e w8 ⟨rfl, rfl⟩
          go_wp2_with fail
          refine (HQ.out _).mono ?_
          rintro e w8 ⟨rfl, rfl⟩
          have hm1 := HM1.out
          go_wp2
          exact ⟨⟨_, (n2 - 4), (c2 - 4), l2.drop 4, m1, rfl, rfl, HR0.out, HST.out⟩, by simp [lenOf32] <;> omega⟩
      · have hsh : l2.length < 4 := by omega
        have HFIN := Lib.hid (show l2.foldl byt32 cur = rest32 h1 tl by rw [← HS.out]; unfold rest32; rw [bState_short 4 wst32 cur l2 hsh, bTail_short 4 l2 hsh])
        have hlc : (n2 : Int) ≤ (c2 : Int) := by omega
        clear hsh
        go_wp2_with fail
        go_loop [9, 52] (fun hv i => ∃ k : Nat, k ≤ n2 ∧ i = .int .i64 (k : Int) ∧ hv = .int .u32 (W32 ((l2.take k).foldl byt32 cur))) (fun _ i => n2 - (intOf i).toNat)
        case atStart => exact ⟨0, Nat.zero_le _, rfl, rfl⟩
        case round =>
          obtain ⟨k, hk2, rfl, rfl⟩ := hrel
          by_cases hlt2 : (k : Int) < ((n2 : Nat) : Int)
          · obtain ⟨b2, off2, e2, hcell⟩ := HRW.out.addr (by omega)
            cases e2
            have hck := hcell k (by omega)
            have hk0 : (0 : Int) ≤ (k : Int) := by omega
            have hft := foldl_take byt32 cur l2 0#8 k (by have := HRW.out.len_eq; omega)
            obtain ⟨g0, hg⟩ : ∃ z, (l2.take k).foldl byt32 cur = z := ⟨_, rfl⟩
            rw [hg] at hft ⊢
            unfold byt32 at hft
            obtain ⟨bb, hbb⟩ : ∃ z, l2.getD k 0#8 = z := ⟨_, rfl⟩
            rw [hbb] at hft
            rw [show l2.getD k 0 = bb from hbb] at hck
            have HRB := Lib.hid (rot32r_n (g0 + bb.setWidth 32 * 374761393#32) 11 (by decide))
            obtain ⟨rb, hrb⟩ : ∃ z, (g0 + bb.setWidth 32 * 374761393#32).rotateLeft 11 = z := ⟨_, rfl⟩
            rw [hrb] at HRB hft
            have HFT := Lib.hid hft
            clear hg hbb hrb hft hcell
            go_wp2_with fail
            refine (HRB.out _).mono ?_
            rintro e w9 ⟨rfl, rfl⟩
            go_wp2
            exact ⟨⟨k + 1, by omega, by go_num, by unfold byt32; rw [HFT.out]⟩, by simp [intOf]; omega⟩
          · have hkn : k = n2 := by omega
            have htt : l2.take k = l2 := List.take_of_length_le (by rw [HRW.out.len_eq]; omega)
            rw [htt]
            clear htt
            have HF2 := HFIN.out
            obtain ⟨ff, hff⟩ : ∃ z, l2.foldl byt32 cur = z := ⟨_, rfl⟩
            rw [hff] at HF2 ⊢
            clear hff
            subst hkn
            clear hlt2
            go_wp2
            go_ret
            first | exact ⟨rfl, HN.out⟩ | exact ⟨by rw [HF2], HN.out⟩
end Go.Proofs.Ytfeeecmcaakpkaa
