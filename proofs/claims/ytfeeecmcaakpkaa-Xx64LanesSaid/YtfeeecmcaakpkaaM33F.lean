/- Layer 33: widened, finish. -/
import Derived.Test.YtfeeecmcaakpkaaM33R
import Derived.Defers
import Derived.Recover
import Derived.Laws.Pointers
import Derived.Handy
import Derived.Laws.EntriesVeiled
import Derived.LoopN
namespace Go.Proofs.Ytfeeecmcaakpkaa
open Go.RowKit Go.Bv
set_option linter.unusedVariables false
set_option maxRecDepth 100000 in
set_option maxHeartbeats 2000000 in
theorem widened_33 (s : BitVec 64 × BitVec 64 × BitVec 64 × BitVec 64) (w : World) : Calls Try.prog 63 #[.agg #[.int .u64 (W64 (s.1)), .int .u64 (W64 (s.2.1)), .int .u64 (W64 (s.2.2.1)), .int .u64 (W64 (s.2.2.2))]] w fun e w' => e = .returned (.agg #[.int .u64 (W64 (s.1)), .int .u64 (W64 (s.2.1)), .int .u64 (W64 (s.2.2.1)), .int .u64 (W64 (s.2.2.2))]) ∧ New w w' := by
  obtain ⟨s0, s1, s2, s3⟩ := s
  have ix0 : ∀ w, (Instr.index 76 (.agg #[.int .u64 (W64 s0), .int .u64 (W64 s1), .int .u64 (W64 s2), .int .u64 (W64 s3)]) (.int .i64 0)).run Try.prog w = .ok (.int .u64 (W64 s0)) w := fun _ => rfl
  have ix1 : ∀ w, (Instr.index 76 (.agg #[.int .u64 (W64 s0), .int .u64 (W64 s1), .int .u64 (W64 s2), .int .u64 (W64 s3)]) (.int .i64 1)).run Try.prog w = .ok (.int .u64 (W64 s1)) w := fun _ => rfl
  have ix2 : ∀ w, (Instr.index 76 (.agg #[.int .u64 (W64 s0), .int .u64 (W64 s1), .int .u64 (W64 s2), .int .u64 (W64 s3)]) (.int .i64 2)).run Try.prog w = .ok (.int .u64 (W64 s2)) w := fun _ => rfl
  have ix3 : ∀ w, (Instr.index 76 (.agg #[.int .u64 (W64 s0), .int .u64 (W64 s1), .int .u64 (W64 s2), .int .u64 (W64 s3)]) (.int .i64 3)).run Try.prog w = .ok (.int .u64 (W64 s3)) w := fun _ => rfl
  go_enter Try.func63, Try.ntmps63
  go_wp2_with fail
  go_rounds 5
  go_returns
  exact ⟨rfl, (((New.refl w).alloc _).alloc _).alloc _⟩
set_option maxRecDepth 100000 in
set_option maxHeartbeats 4000000 in
theorem finish_33 (s : BitVec 64 × BitVec 64 × BitVec 64 × BitVec 64) (a : Option Addr) (n c : Nat) (tl : List (BitVec 8)) (lg : BitVec 64) (w : World) (h : BRow w a n c tl) :
    Calls Try.prog 54 #[.agg #[.int .u64 (W64 (s.1)), .int .u64 (W64 (s.2.1)), .int .u64 (W64 (s.2.2.1)), .int .u64 (W64 (s.2.2.2))], .slice a n c, .int .u64 (W64 lg)] w fun e w' => e = .returned (.int .u64 (W64 (end33 s tl lg))) ∧ New w w' := by
  obtain ⟨s0, s1, s2, s3⟩ := s
  have HWD := Lib.hid (widened_33 (s0, s1, s2, s3))
  have HZ := Lib.hid (heap_alloc_new w (.cells #[.int .u64 (W64 s0), .int .u64 (W64 s1), .int .u64 (W64 s2), .int .u64 (W64 s3)] 76))
  have HN := Lib.hid ((New.refl w).alloc (.cells #[.int .u64 (W64 s0), .int .u64 (W64 s1), .int .u64 (W64 s2), .int .u64 (W64 s3)] 76))
  have c0 := cell_of_row _ _ 0 _ _ _ HZ.out
  have c1 := cell_of_row _ _ 1 _ _ _ HZ.out
  have c2 := cell_of_row _ _ 2 _ _ _ HZ.out
  have c3 := cell_of_row _ _ 3 _ _ _ HZ.out
  unfold end33 endr33 last33 mixb33 mixa33
  by_cases h16 : 32 ≤ lg.toNat
  · have hb : base33 (s0, s1, s2, s3) (s0, s1, s2, s3).2.2.1 lg = ((((s0.rotateLeft 1 + s1.rotateLeft 7 + s2.rotateLeft 12 + s3.rotateLeft 18 ^^^ rnd33 0#64 s0) * 11400714785074694791#64 + 9650029242287828579#64 ^^^ rnd33 0#64 s1) * 11400714785074694791#64 + 9650029242287828579#64 ^^^ rnd33 0#64 s2) * 11400714785074694791#64 + 9650029242287828579#64 ^^^ rnd33 0#64 s3) * 11400714785074694791#64 + 9650029242287828579#64 := by unfold base33 all33 mrg33 sum33; rw [if_pos h16]
    rw [hb]
    have hg1 : (32 : Int) ≤ W64 lg := by unfold W64; omega
    clear hb h16
    have HR0 := Lib.hid (rot64_n s0 1 (by decide))
    obtain ⟨r0, hnm⟩ : ∃ z, s0.rotateLeft 1 = z := ⟨_, rfl⟩
    rw [hnm] at HR0
    rw [hnm]
    clear hnm
    have HR1 := Lib.hid (rot64_n s1 7 (by decide))
    obtain ⟨r1, hnm⟩ : ∃ z, s1.rotateLeft 7 = z := ⟨_, rfl⟩
    rw [hnm] at HR1
    rw [hnm]
    clear hnm
    have HR2 := Lib.hid (rot64_n s2 12 (by decide))
    obtain ⟨r2, hnm⟩ : ∃ z, s2.rotateLeft 12 = z := ⟨_, rfl⟩
    rw [hnm] at HR2
    rw [hnm]
    clear hnm
    have HR3 := Lib.hid (rot64_n s3 18 (by decide))
    obtain ⟨r3, hnm⟩ : ∃ z, s3.rotateLeft 18 = z := ⟨_, rfl⟩
    rw [hnm] at HR3
    rw [hnm]
    clear hnm
    obtain ⟨b0, hnm⟩ : ∃ z, r0 + r1 + r2 + r3 = z := ⟨_, rfl⟩
    rw [hnm]
    have HB0 := Lib.hid hnm
    clear hnm
    have HA0 := Lib.hid (alone_33 s0)
    obtain ⟨a0, hnm⟩ : ∃ z, rnd33 0#64 s0 = z := ⟨_, rfl⟩
    rw [hnm] at HA0
    rw [hnm]
    clear hnm
    obtain ⟨b1, hnm⟩ : ∃ z, (b0 ^^^ a0) * 11400714785074694791#64 + 9650029242287828579#64 = z := ⟨_, rfl⟩
    rw [hnm]
    have HB1 := Lib.hid hnm
    clear hnm
    have HA1 := Lib.hid (alone_33 s1)
    obtain ⟨a1, hnm⟩ : ∃ z, rnd33 0#64 s1 = z := ⟨_, rfl⟩
    rw [hnm] at HA1
    rw [hnm]
    clear hnm
    obtain ⟨b2, hnm⟩ : ∃ z, (b1 ^^^ a1) * 11400714785074694791#64 + 9650029242287828579#64 = z := ⟨_, rfl⟩
    rw [hnm]
    have HB2 := Lib.hid hnm
    clear hnm
    have HA2 := Lib.hid (alone_33 s2)
    obtain ⟨a2, hnm⟩ : ∃ z, rnd33 0#64 s2 = z := ⟨_, rfl⟩
    rw [hnm] at HA2
    rw [hnm]
    clear hnm
    obtain ⟨b3, hnm⟩ : ∃ z, (b2 ^^^ a2) * 11400714785074694791#64 + 9650029242287828579#64 = z := ⟨_, rfl⟩
    rw [hnm]
    have HB3 := Lib.hid hnm
    clear hnm
    have HA3 := Lib.hid (alone_33 s3)
    obtain ⟨a3, hnm⟩ : ∃ z, rnd33 0#64 s3 = z := ⟨_, rfl⟩
    rw [hnm] at HA3
    rw [hnm]
    clear hnm
    obtain ⟨b4, hnm⟩ : ∃ z, (b3 ^^^ a3) * 11400714785074694791#64 + 9650029242287828579#64 = z := ⟨_, rfl⟩
    rw [hnm]
    have HB4 := Lib.hid hnm
    clear hnm
    obtain ⟨h1, hnm⟩ : ∃ z, b4 + lg = z := ⟨_, rfl⟩
    rw [hnm]
    have HH1 := Lib.hid hnm
    clear hnm
    have HRE := Lib.hid (fun w' (hn : New w w') => rest_33 h1 a n c tl w' (h.stay hn))
    obtain ⟨rr, hnm⟩ : ∃ z, rest33 h1 tl = z := ⟨_, rfl⟩
    rw [hnm] at HRE
    rw [hnm]
    clear hnm
    clear h
    have ix0 : ∀ w, (Instr.index 36 (.agg #[.int .u64 (W64 s0), .int .u64 (W64 s1), .int .u64 (W64 s2), .int .u64 (W64 s3)]) (.int .i64 0)).run Try.prog w = .ok (.int .u64 (W64 s0)) w := fun _ => rfl
    have ix1 : ∀ w, (Instr.index 36 (.agg #[.int .u64 (W64 s0), .int .u64 (W64 s1), .int .u64 (W64 s2), .int .u64 (W64 s3)]) (.int .i64 1)).run Try.prog w = .ok (.int .u64 (W64 s1)) w := fun _ => rfl
    have ix2 : ∀ w, (Instr.index 36 (.agg #[.int .u64 (W64 s0), .int .u64 (W64 s1), .int .u64 (W64 s2), .int .u64 (W64 s3)]) (.int .i64 2)).run Try.prog w = .ok (.int .u64 (W64 s2)) w := fun _ => rfl
    have ix3 : ∀ w, (Instr.index 36 (.agg #[.int .u64 (W64 s0), .int .u64 (W64 s1), .int .u64 (W64 s2), .int .u64 (W64 s3)]) (.int .i64 3)).run Try.prog w = .ok (.int .u64 (W64 s3)) w := fun _ => rfl
    go_enter Try.func54, Try.ntmps54
    go_wp2_with fail
    refine (HWD.out _).mono ?_
    rintro e w9 ⟨rfl, hn⟩
    replace HN := Lib.hid (HN.out.trans hn)
    clear hn c0 c1 c2 c3 HZ HWD
    have hx := heap_alloc_new w9 (.cells #[.int .u64 (W64 s0), .int .u64 (W64 s1), .int .u64 (W64 s2), .int .u64 (W64 s3)] 36)
    have hn2 := (New.refl w9).alloc (.cells #[.int .u64 (W64 s0), .int .u64 (W64 s1), .int .u64 (W64 s2), .int .u64 (W64 s3)] 36)
    obtain ⟨qHM, hq⟩ : ∃ q, w9.heap.size = q := ⟨_, rfl⟩
    have hle := HN.out.le
    rw [hq] at hx hle
    have hw0 := And.intro (rfl : w9.alloc (.cells #[.int .u64 (W64 s0), .int .u64 (W64 s1), .int .u64 (W64 s2), .int .u64 (W64 s3)] 36) = w9.alloc (.cells #[.int .u64 (W64 s0), .int .u64 (W64 s1), .int .u64 (W64 s2), .int .u64 (W64 s3)] 36)) hq
    generalize hw2 : w9.alloc (.cells #[.int .u64 (W64 s0), .int .u64 (W64 s1), .int .u64 (W64 s2), .int .u64 (W64 s3)] 36) = w10 at hx hn2 hw0
    have HE := Lib.hid (show w9.alloc (.cells #[.int .u64 (W64 s0), .int .u64 (W64 s1), .int .u64 (W64 s2), .int .u64 (W64 s3)] 36) = w10 ∧ w9.heap.size = qHM from ⟨hw2, hq⟩)
    clear hw0 hw2
    replace HN := Lib.hid (HN.out.trans hn2)
    have HM := Lib.hid hx
    have HLHM := Lib.hid hle
    clear hx hn2 hq hle
    have x0 := cell_of_row _ _ 0 _ _ _ HM.out
    have x1 := cell_of_row _ _ 1 _ _ _ HM.out
    have x2 := cell_of_row _ _ 2 _ _ _ HM.out
    have x3 := cell_of_row _ _ 3 _ _ _ HM.out
    go_wp2_with (rw [HE.out.1, HE.out.2])
    clear HE x0 x1 x2 x3
    refine Gro3.wp_region_gro3S (fun w' => w'.heap[qHM]? = some (.cells #[.int .u64 (W64 s0), .int .u64 (W64 s1), .int .u64 (W64 s2), .int .u64 (W64 s3)] 36 (0, 0)) ∧ New w10 w') (fun w' => w'.heap[qHM]? = some (.cells #[.int .u64 (W64 s0), .int .u64 (W64 s1), .int .u64 (W64 s2), .int .u64 (W64 s3)] 36 (0, 0)) ∧ New w10 w') [0, 1, 2, 0, 1, 2, 0, 0, 1, 2, 0, 0, 1, 2, 0, 0] New (fun _ _ _ => True) (by kernel_rfl) (by kernel_rfl) (by kernel_rfl) (fun _ _ _ _ _ _ => trivial) (fun w' hw' => hw') (⟨HM.out, (New.refl _).drew⟩) ?_
    intro I J _ _ f g hfa hba hgb hbb
    have HFA := Lib.hid hfa
    have HBA := Lib.hid hba
    have HGB := Lib.hid hgb
    have HBB := Lib.hid hbb
    have s0 := fun n => cell_of_row _ _ 0 _ _ _ (hgb n).1
    have s1 := fun n => cell_of_row _ _ 1 _ _ _ (hgb n).1
    have s2 := fun n => cell_of_row _ _ 2 _ _ _ (hgb n).1
    have s3 := fun n => cell_of_row _ _ 3 _ _ _ (hgb n).1
    clear hfa hba hgb hbb
    refine Gro3.take0 1 (by kernel_rfl) ?_
    simp only [List.take, List.drop, List.length]
    repeat (go_big_quiet_step (fail))
    refine wpQuiet_nil ?_
    refine Gro3.take1 1 (by kernel_rfl) ?_
    simp only [List.take, List.drop, List.length]
    repeat (go_big_quiet_step (fail))
    refine wpQuiet_nil ?_
    refine Gro3.callt (fun v => v = .int .u64 (W64 r0)) (fun _ _ => True) rfl rfl (⟨_, rfl⟩) (fun _ _ _ _ _ => trivial) (fun w1 hB hG => ?_) (fun v1 A1 hv1 hA => ?_)
    · obtain ⟨nq, rfl⟩ := hB
      clear s0 s1 s2 s3
      go_simp
      refine (HR0.out _).mono ?_
      rintro e w2 ⟨rfl, rfl⟩
      have hn := New.refl (g nq)
      have HX := HBB.out _ ⟨(hn.block _ (lt_of_block (HGB.out nq).1)).trans (HGB.out nq).1, (HGB.out nq).2.trans hn⟩
      first | exact ⟨_, rfl, HX, hn, rfl⟩ | exact ⟨_, rfl, HX, hn, rfl, trivial⟩ | exact ⟨rfl, HX, hn⟩ | exact ⟨HX, hn, rfl⟩ | exact ⟨HX, hn⟩
    simp [Act.put] at hA
    subst hA
    obtain rfl := hv1
    refine Gro3.take0 1 (by kernel_rfl) ?_
    simp only [List.take, List.drop, List.length]
    repeat (go_big_quiet_step (fail))
    refine wpQuiet_nil ?_
    refine Gro3.take1 1 (by kernel_rfl) ?_
    simp only [List.take, List.drop, List.length]
    repeat (go_big_quiet_step (fail))
    refine wpQuiet_nil ?_
    refine Gro3.callt (fun v => v = .int .u64 (W64 r1)) (fun _ _ => True) rfl rfl (⟨_, rfl⟩) (fun _ _ _ _ _ => trivial) (fun w1 hB hG => ?_) (fun v2 A2 hv2 hA => ?_)
    · obtain ⟨nq, rfl⟩ := hB
      clear s0 s1 s2 s3
      go_simp
      refine (HR1.out _).mono ?_
      rintro e w2 ⟨rfl, rfl⟩
      have hn := New.refl (g nq)
      have HX := HBB.out _ ⟨(hn.block _ (lt_of_block (HGB.out nq).1)).trans (HGB.out nq).1, (HGB.out nq).2.trans hn⟩
      first | exact ⟨_, rfl, HX, hn, rfl⟩ | exact ⟨_, rfl, HX, hn, rfl, trivial⟩ | exact ⟨rfl, HX, hn⟩ | exact ⟨HX, hn, rfl⟩ | exact ⟨HX, hn⟩
    simp [Act.put] at hA
    subst hA
    obtain rfl := hv2
    refine Gro3.take0 1 (by kernel_rfl) ?_
    simp only [List.take, List.drop, List.length]
    repeat (go_big_quiet_step (fail))
    refine wpQuiet_nil ?_
    refine Gro3.take0 1 (by kernel_rfl) ?_
    simp only [List.take, List.drop, List.length]
    repeat (go_big_quiet_step (fail))
    refine wpQuiet_nil ?_
    refine Gro3.take1 1 (by kernel_rfl) ?_
    simp only [List.take, List.drop, List.length]
    repeat (go_big_quiet_step (fail))
    refine wpQuiet_nil ?_
    refine Gro3.callt (fun v => v = .int .u64 (W64 r2)) (fun _ _ => True) rfl rfl (⟨_, rfl⟩) (fun _ _ _ _ _ => trivial) (fun w1 hB hG => ?_) (fun v3 A3 hv3 hA => ?_)
    · obtain ⟨nq, rfl⟩ := hB
      clear s0 s1 s2 s3
      go_simp
      refine (HR2.out _).mono ?_
      rintro e w2 ⟨rfl, rfl⟩
      have hn := New.refl (g nq)
      have HX := HBB.out _ ⟨(hn.block _ (lt_of_block (HGB.out nq).1)).trans (HGB.out nq).1, (HGB.out nq).2.trans hn⟩
      first | exact ⟨_, rfl, HX, hn, rfl⟩ | exact ⟨_, rfl, HX, hn, rfl, trivial⟩ | exact ⟨rfl, HX, hn⟩ | exact ⟨HX, hn, rfl⟩ | exact ⟨HX, hn⟩
    simp [Act.put] at hA
    subst hA
    obtain rfl := hv3
    refine Gro3.take0 1 (by kernel_rfl) ?_
    simp only [List.take, List.drop, List.length]
    repeat (go_big_quiet_step (fail))
    refine wpQuiet_nil ?_
    refine Gro3.take0 1 (by kernel_rfl) ?_
    simp only [List.take, List.drop, List.length]
    repeat (go_big_quiet_step (fail))
    refine wpQuiet_nil ?_
    refine Gro3.take1 1 (by kernel_rfl) ?_
    simp only [List.take, List.drop, List.length]
    repeat (go_big_quiet_step (fail))
    refine wpQuiet_nil ?_
    refine Gro3.callt (fun v => v = .int .u64 (W64 r3)) (fun _ _ => True) rfl rfl (⟨_, rfl⟩) (fun _ _ _ _ _ => trivial) (fun w1 hB hG => ?_) (fun v4 A4 hv4 hA => ?_)
    · obtain ⟨nq, rfl⟩ := hB
      clear s0 s1 s2 s3
      go_simp
      refine (HR3.out _).mono ?_
      rintro e w2 ⟨rfl, rfl⟩
      have hn := New.refl (g nq)
      have HX := HBB.out _ ⟨(hn.block _ (lt_of_block (HGB.out nq).1)).trans (HGB.out nq).1, (HGB.out nq).2.trans hn⟩
      first | exact ⟨_, rfl, HX, hn, rfl⟩ | exact ⟨_, rfl, HX, hn, rfl, trivial⟩ | exact ⟨rfl, HX, hn⟩ | exact ⟨HX, hn, rfl⟩ | exact ⟨HX, hn⟩
    simp [Act.put] at hA
    subst hA
    obtain rfl := hv4
    refine Gro3.take0 1 (by kernel_rfl) ?_
    simp only [List.take, List.drop, List.length]
    repeat (go_big_quiet_step (fail))
    refine wpQuiet_nil ?_
    refine Gro3.take0 1 (by kernel_rfl) ?_
    simp only [List.take, List.drop, List.length]
    repeat (go_big_quiet_step (fail))
    refine wpQuiet_nil ?_
    refine Gro3.nil ?_
    rintro w9 ⟨n9, rfl⟩ hG
    have hn := (HGB.out n9).2
    clear HFA HBA HGB HBB s0 s1 s2 s3
    replace HM := Lib.hid ((hn.block _ (lt_of_block HM.out)).trans HM.out)
    replace HN := Lib.hid (HN.out.trans hn)
    clear hn hG
    generalize g n9 = w9 at *
    have x0 := cell_of_row _ _ 0 _ _ _ HM.out
    have x1 := cell_of_row _ _ 1 _ _ _ HM.out
    have x2 := cell_of_row _ _ 2 _ _ _ HM.out
    have x3 := cell_of_row _ _ 3 _ _ _ HM.out
    have hb0 := HB0.out
    go_wp2_with fail
    clear x0 x1 x2 x3
    refine wp_loop_rounds 5 ?_
    rw [rounds_succ]
    go_wp2_with fail
    refine (HA0.out _).mono ?_
    rintro e w8 ⟨rfl, hw8⟩
    replace hw8 := hw8.symm
    subst hw8
    have hb := HB1.out
    go_wp2_with fail
    clear hb hb0
    rw [rounds_succ]
    go_wp2_with fail
    refine (HA1.out _).mono ?_
    rintro e w8 ⟨rfl, hw8⟩
    replace hw8 := hw8.symm
    subst hw8
    have hb := HB2.out
    go_wp2_with fail
    clear hb
    rw [rounds_succ]
    go_wp2_with fail
    refine (HA2.out _).mono ?_
    rintro e w8 ⟨rfl, hw8⟩
    replace hw8 := hw8.symm
    subst hw8
    have hb := HB3.out
    go_wp2_with fail
    clear hb
    rw [rounds_succ]
    go_wp2_with fail
    refine (HA3.out _).mono ?_
    rintro e w8 ⟨rfl, hw8⟩
    replace hw8 := hw8.symm
    subst hw8
    have hb := HB4.out
    go_wp2_with fail
    clear hb
    rw [rounds_succ]
    have hh1 := HH1.out
    go_wp2_with fail
    clear hh1
    refine (HRE.out _ HN.out).mono ?_
    rintro e w9 ⟨rfl, rfl⟩
    go_wp2
    go_ret
    exact ⟨rfl, HN.out⟩
  · have hb : base33 (s0, s1, s2, s3) (s0, s1, s2, s3).2.2.1 lg = s2 + 2870177450012600261#64 := by unfold base33; rw [if_neg h16]
    rw [hb]
    have hg1 : ¬ (32 : Int) ≤ W64 lg := by unfold W64; omega
    clear hb h16
    have HRE := Lib.hid (fun w' (hn : New w w') => rest_33 (s2 + 2870177450012600261#64 + lg) a n c tl w' (h.stay hn))
    obtain ⟨rr, hnm⟩ : ∃ z, rest33 (s2 + 2870177450012600261#64 + lg) tl = z := ⟨_, rfl⟩
    rw [hnm] at HRE
    rw [hnm]
    clear hnm
    clear h
    go_enter Try.func54, Try.ntmps54
    go_wp2_with fail
    refine (HWD.out _).mono ?_
    rintro e w9 ⟨rfl, hn⟩
    replace HN := Lib.hid (HN.out.trans hn)
    clear hn c0 c1 c2 c3 HZ HWD
    have hx := heap_alloc_new w9 (.cells #[.int .u64 (W64 s0), .int .u64 (W64 s1), .int .u64 (W64 s2), .int .u64 (W64 s3)] 36)
    have hn2 := (New.refl w9).alloc (.cells #[.int .u64 (W64 s0), .int .u64 (W64 s1), .int .u64 (W64 s2), .int .u64 (W64 s3)] 36)
    obtain ⟨qHM, hq⟩ : ∃ q, w9.heap.size = q := ⟨_, rfl⟩
    have hle := HN.out.le
    rw [hq] at hx hle
    have hw0 := And.intro (rfl : w9.alloc (.cells #[.int .u64 (W64 s0), .int .u64 (W64 s1), .int .u64 (W64 s2), .int .u64 (W64 s3)] 36) = w9.alloc (.cells #[.int .u64 (W64 s0), .int .u64 (W64 s1), .int .u64 (W64 s2), .int .u64 (W64 s3)] 36)) hq
    generalize hw2 : w9.alloc (.cells #[.int .u64 (W64 s0), .int .u64 (W64 s1), .int .u64 (W64 s2), .int .u64 (W64 s3)] 36) = w10 at hx hn2 hw0
    have HE := Lib.hid (show w9.alloc (.cells #[.int .u64 (W64 s0), .int .u64 (W64 s1), .int .u64 (W64 s2), .int .u64 (W64 s3)] 36) = w10 ∧ w9.heap.size = qHM from ⟨hw2, hq⟩)
    clear hw0 hw2
    replace HN := Lib.hid (HN.out.trans hn2)
    have HM := Lib.hid hx
    have HLHM := Lib.hid hle
    clear hx hn2 hq hle
    have x0 := cell_of_row _ _ 0 _ _ _ HM.out
    have x1 := cell_of_row _ _ 1 _ _ _ HM.out
    have x2 := cell_of_row _ _ 2 _ _ _ HM.out
    have x3 := cell_of_row _ _ 3 _ _ _ HM.out
    go_wp2_with (rw [HE.out.1, HE.out.2])
    clear HE x0 x1 x2 x3
    refine (HRE.out _ HN.out).mono ?_
    rintro e w9 ⟨rfl, rfl⟩
    go_wp2
    go_ret
    exact ⟨rfl, HN.out⟩
end Go.Proofs.Ytfeeecmcaakpkaa
