/- Layer 32: finish. -/
import Derived.Test.YtfeeecmcaakpkaaM32R
import Derived.Defers
import Derived.Recover
import Derived.Laws.Pointers
import Derived.Handy
import Derived.Laws.EntriesVeiled
namespace Go.Proofs.Ytfeeecmcaakpkaa
open Go.RowKit Go.Bv
set_option linter.unusedVariables false
set_option maxRecDepth 100000 in
set_option maxHeartbeats 2000000 in
theorem finish_32 (s : BitVec 32 × BitVec 32 × BitVec 32 × BitVec 32) (a : Option Addr) (n c : Nat) (tl : List (BitVec 8)) (lg : BitVec 64) (w : World) (h : BRow w a n c tl) :
    Calls Try.prog 37 #[.agg #[.int .u32 (W32 (s.1)), .int .u32 (W32 (s.2.1)), .int .u32 (W32 (s.2.2.1)), .int .u32 (W32 (s.2.2.2))], .slice a n c, .int .u64 (W64 lg)] w fun e w' => e = .returned (.int .u32 (W32 (end32 s tl lg))) ∧ New w w' := by
  obtain ⟨s0, s1, s2, s3⟩ := s
  have hge : (W64 lg ≥ 16) = (16 ≤ lg.toNat) := by unfold W64; apply propext; omega
  have HZ := Lib.hid (heap_alloc_new w (.cells #[.int .u32 (W32 s0), .int .u32 (W32 s1), .int .u32 (W32 s2), .int .u32 (W32 s3)] 56))
  unfold end32 endr32 last32 mixb32 mixa32
  by_cases h16 : 16 ≤ lg.toNat
  · have hb : base32 (s0, s1, s2, s3) (s0, s1, s2, s3).2.2.1 lg = s0.rotateLeft 1 + s1.rotateLeft 7 + s2.rotateLeft 12 + s3.rotateLeft 18 := by unfold base32 sum32; rw [if_pos h16]
    rw [hb]
    have hg1 : (16 : Int) ≤ W64 lg := by unfold W64; omega
    clear hb
    have HR0 := Lib.hid (rot32_n s0 1 (by decide))
    obtain ⟨r0, hr⟩ : ∃ z, s0.rotateLeft 1 = z := ⟨_, rfl⟩
    rw [hr] at HR0
    rw [hr]
    clear hr
    have HR1 := Lib.hid (rot32_n s1 7 (by decide))
    obtain ⟨r1, hr⟩ : ∃ z, s1.rotateLeft 7 = z := ⟨_, rfl⟩
    rw [hr] at HR1
    rw [hr]
    clear hr
    have HR2 := Lib.hid (rot32_n s2 12 (by decide))
    obtain ⟨r2, hr⟩ : ∃ z, s2.rotateLeft 12 = z := ⟨_, rfl⟩
    rw [hr] at HR2
    rw [hr]
    clear hr
    have HR3 := Lib.hid (rot32_n s3 18 (by decide))
    obtain ⟨r3, hr⟩ : ∃ z, s3.rotateLeft 18 = z := ⟨_, rfl⟩
    rw [hr] at HR3
    rw [hr]
    clear hr
    obtain ⟨bs, hbs⟩ : ∃ z, r0 + r1 + r2 + r3 = z := ⟨_, rfl⟩
    have HBS := Lib.hid hbs
    rw [hbs]
    clear hbs
    have HRE := Lib.hid (fun w' (hn : New w w') => rest_32 (bs + lg.setWidth 32) a n c tl w' (h.stay hn))
    obtain ⟨rr, hrr⟩ : ∃ z, rest32 (bs + lg.setWidth 32) tl = z := ⟨_, rfl⟩
    rw [hrr] at HRE
    rw [hrr]
    clear hrr h hge h16
    go_enter Try.func37, Try.ntmps37
    go_wp2_with fail
    refine Gro3.wp_region_gro3S (fun w' => w'.heap[w.heap.size]? = some (.cells #[.int .u32 (W32 s0), .int .u32 (W32 s1), .int .u32 (W32 s2), .int .u32 (W32 s3)] 56 (0, 0)) ∧ New (w.alloc (.cells #[.int .u32 (W32 s0), .int .u32 (W32 s1), .int .u32 (W32 s2), .int .u32 (W32 s3)] 56)) w') (fun w' => w'.heap[w.heap.size]? = some (.cells #[.int .u32 (W32 s0), .int .u32 (W32 s1), .int .u32 (W32 s2), .int .u32 (W32 s3)] 56 (0, 0)) ∧ New (w.alloc (.cells #[.int .u32 (W32 s0), .int .u32 (W32 s1), .int .u32 (W32 s2), .int .u32 (W32 s3)] 56)) w') [0, 1, 2, 0, 1, 2, 0, 0, 1, 2, 0, 0, 1, 2, 0, 0] New (fun _ _ _ => True) (by kernel_rfl) (by kernel_rfl) (by kernel_rfl) (fun _ _ _ _ _ _ => trivial) (fun w' hw' => hw') (⟨HZ.out, (New.refl _).drew⟩) ?_
    intro I J _ _ f g hfa hba hgb hbb
    have HFA := Lib.hid hfa
    have HBA := Lib.hid hba
    have HGB := Lib.hid hgb
    have HBB := Lib.hid hbb
    have s0 := fun n => cell_of_row _ _ 0 _ _ _ (hgb n).1
    have s1 := fun n => cell_of_row _ _ 1 _ _ _ (hgb n).1
    have s2 := fun n => cell_of_row _ _ 2 _ _ _ (hgb n).1
    have s3 := fun n => cell_of_row _ _ 3 _ _ _ (hgb n).1
    clear hfa hba hgb hbb
    refine Gro3.take0 1 (by kernel_rfl) ?_
    simp only [List.take, List.drop, List.length]
    repeat (go_big_quiet_step (fail))
    refine wpQuiet_nil ?_
    refine Gro3.take1 1 (by kernel_rfl) ?_
    simp only [List.take, List.drop, List.length]
    repeat (go_big_quiet_step (fail))
    refine wpQuiet_nil ?_
    refine Gro3.callt (fun v => v = .int .u32 (W32 r0)) (fun _ _ => True) rfl rfl (⟨_, rfl⟩) (fun _ _ _ _ _ => trivial) (fun w1 hB hG => ?_) (fun v1 A1 hv1 hA => ?_)
    · obtain ⟨nq, rfl⟩ := hB
      clear s0 s1 s2 s3
      go_simp
      refine (HR0.out _).mono ?_
      rintro e w2 ⟨rfl, rfl⟩
      have hn := New.refl (g nq)
      have HX := HBB.out _ ⟨(hn.block _ (lt_of_block (HGB.out nq).1)).trans (HGB.out nq).1, (HGB.out nq).2.trans hn⟩
      first | exact ⟨_, rfl, HX, hn, rfl⟩ | exact ⟨_, rfl, HX, hn, rfl, trivial⟩ | exact ⟨rfl, HX, hn⟩ | exact ⟨HX, hn, rfl⟩ | exact ⟨HX, hn⟩
    simp [Act.put] at hA
    subst hA
    obtain rfl := hv1
    refine Gro3.take0 1 (by kernel_rfl) ?_
    simp only [List.take, List.drop, List.length]
    repeat (go_big_quiet_step (fail))
    refine wpQuiet_nil ?_
    refine Gro3.take1 1 (by kernel_rfl) ?_
    simp only [List.take, List.drop, List.length]
    repeat (go_big_quiet_step (fail))
    refine wpQuiet_nil ?_
    refine Gro3.callt (fun v => v = .int .u32 (W32 r1)) (fun _ _ => True) rfl rfl (⟨_, rfl⟩) (fun _ _ _ _ _ => trivial) (fun w1 hB hG => ?_) (fun v2 A2 hv2 hA => ?_)
    · obtain ⟨nq, rfl⟩ := hB
      clear s0 s1 s2 s3
      go_simp
      refine (HR1.out _).mono ?_
      rintro e w2 ⟨rfl, rfl⟩
      have hn := New.refl (g nq)
      have HX := HBB.out _ ⟨(hn.block _ (lt_of_block (HGB.out nq).1)).trans (HGB.out nq).1, (HGB.out nq).2.trans hn⟩
      first | exact ⟨_, rfl, HX, hn, rfl⟩ | exact ⟨_, rfl, HX, hn, rfl, trivial⟩ | exact ⟨rfl, HX, hn⟩ | exact ⟨HX, hn, rfl⟩ | exact ⟨HX, hn⟩
    simp [Act.put] at hA
    subst hA
    obtain rfl := hv2
    refine Gro3.take0 1 (by kernel_rfl) ?_
    simp only [List.take, List.drop, List.length]
    repeat (go_big_quiet_step (fail))
    refine wpQuiet_nil ?_
    refine Gro3.take0 1 (by kernel_rfl) ?_
    simp only [List.take, List.drop, List.length]
    repeat (go_big_quiet_step (fail))
    refine wpQuiet_nil ?_
    refine Gro3.take1 1 (by kernel_rfl) ?_
    simp only [List.take, List.drop, List.length]
    repeat (go_big_quiet_step (fail))
    refine wpQuiet_nil ?_
    refine Gro3.callt (fun v => v = .int .u32 (W32 r2)) (fun _ _ => True) rfl rfl (⟨_, rfl⟩) (fun _ _ _ _ _ => trivial) (fun w1 hB hG => ?_) (fun v3 A3 hv3 hA => ?_)
    · obtain ⟨nq, rfl⟩ := hB
      clear s0 s1 s2 s3
      go_simp
      refine (HR2.out _).mono ?_
      rintro e w2 ⟨rfl, rfl⟩
      have hn := New.refl (g nq)
      have HX := HBB.out _ ⟨(hn.block _ (lt_of_block (HGB.out nq).1)).trans (HGB.out nq).1, (HGB.out nq).2.trans hn⟩
      first | exact ⟨_, rfl, HX, hn, rfl⟩ | exact ⟨_, rfl, HX, hn, rfl, trivial⟩ | exact ⟨rfl, HX, hn⟩ | exact ⟨HX, hn, rfl⟩ | exact ⟨HX, hn⟩
    simp [Act.put] at hA
    subst hA
    obtain rfl := hv3
    refine Gro3.take0 1 (by kernel_rfl) ?_
    simp only [List.take, List.drop, List.length]
    repeat (go_big_quiet_step (fail))
    refine wpQuiet_nil ?_
    refine Gro3.take0 1 (by kernel_rfl) ?_
    simp only [List.take, List.drop, List.length]
    repeat (go_big_quiet_step (fail))
    refine wpQuiet_nil ?_
    refine Gro3.take1 1 (by kernel_rfl) ?_
    simp only [List.take, List.drop, List.length]
    repeat (go_big_quiet_step (fail))
    refine wpQuiet_nil ?_
    refine Gro3.callt (fun v => v = .int .u32 (W32 r3)) (fun _ _ => True) rfl rfl (⟨_, rfl⟩) (fun _ _ _ _ _ => trivial) (fun w1 hB hG => ?_) (fun v4 A4 hv4 hA => ?_)
    · obtain ⟨nq, rfl⟩ := hB
      clear s0 s1 s2 s3
      go_simp
      refine (HR3.out _).mono ?_
      rintro e w2 ⟨rfl, rfl⟩
      have hn := New.refl (g nq)
      have HX := HBB.out _ ⟨(hn.block _ (lt_of_block (HGB.out nq).1)).trans (HGB.out nq).1, (HGB.out nq).2.trans hn⟩
      first | exact ⟨_, rfl, HX, hn, rfl⟩ | exact ⟨_, rfl, HX, hn, rfl, trivial⟩ | exact ⟨rfl, HX, hn⟩ | exact ⟨HX, hn, rfl⟩ | exact ⟨HX, hn⟩
    simp [Act.put] at hA
    subst hA
    obtain rfl := hv4
    refine Gro3.take0 1 (by kernel_rfl) ?_
    simp only [List.take, List.drop, List.length]
    repeat (go_big_quiet_step (fail))
    refine wpQuiet_nil ?_
    refine Gro3.take0 1 (by kernel_rfl) ?_
    simp only [List.take, List.drop, List.length]
    repeat (go_big_quiet_step (fail))
    refine wpQuiet_nil ?_
    refine Gro3.nil ?_
    rintro w9 ⟨n9, rfl⟩ hG
    have hn := (HGB.out n9).2
    clear HFA HBA HGB HBB s0 s1 s2 s3
    have HN := Lib.hid (((New.refl w).alloc _).trans hn)
    clear hn hG
    generalize g n9 = w9 at *
    have hbs := HBS.out
    go_wp2_with fail
    clear hbs
    refine (HRE.out _ HN.out).mono ?_
    rintro e w9 ⟨rfl, rfl⟩
    go_wp2
    go_ret
    exact ⟨rfl, HN.out⟩
  · have hb : base32 (s0, s1, s2, s3) (s0, s1, s2, s3).2.2.1 lg = s2 + 374761393#32 := by unfold base32; rw [if_neg h16]
    rw [hb]
    have hg1 : ¬ (16 : Int) ≤ W64 lg := by unfold W64; omega
    clear hb
    have HRE := Lib.hid (fun w' (hn : New w w') => rest_32 (s2 + 374761393#32 + lg.setWidth 32) a n c tl w' (h.stay hn))
    obtain ⟨rr, hrr⟩ : ∃ z, rest32 (s2 + 374761393#32 + lg.setWidth 32) tl = z := ⟨_, rfl⟩
    rw [hrr] at HRE
    rw [hrr]
    clear hrr h hge h16
    have HN := Lib.hid ((New.refl w).alloc (.cells #[.int .u32 (W32 s0), .int .u32 (W32 s1), .int .u32 (W32 s2), .int .u32 (W32 s3)] 56))
    have c2 := cell_of_row _ _ 2 _ _ _ HZ.out
    go_enter Try.func37, Try.ntmps37
    go_wp2_with fail
    refine (HRE.out _ HN.out).mono ?_
    rintro e w9 ⟨rfl, rfl⟩
    go_wp2
    go_ret
    exact ⟨rfl, HN.out⟩
end Go.Proofs.Ytfeeecmcaakpkaa
