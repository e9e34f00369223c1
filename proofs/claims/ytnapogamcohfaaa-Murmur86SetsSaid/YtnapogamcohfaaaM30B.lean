/- Layer 30: a block. -/
import Derived.Test.YtnapogamcohfaaaM30W
import Derived.Defers
import Derived.Recover
import Derived.Laws.Pointers
import Derived.Handy
import Derived.Laws.EntriesVeiled
import Derived.LoopN
import Derived.BigRegion
namespace Go.Proofs.Ytnapogamcohfaaa
open Go.RowKit Go.Bv
set_option linter.unusedVariables false
set_option maxRecDepth 100000 in
set_option maxHeartbeats 8000000 in
theorem step_30s (kd : Nat × Nat) (s : BitVec 32 × BitVec 32 × BitVec 32 × BitVec 32) (a : Option Addr) (cap : Nat) (l : List (BitVec 8)) (w : World) (h : BRow w a 16 cap l) (hf : Fun30 w kd) :
    Calls Try.prog 45 #[.agg #[.int .u32 (W32 (s.1)), .int .u32 (W32 (s.2.1)), .int .u32 (W32 (s.2.2.1)), .int .u32 (W32 (s.2.2.2))], .slice a 16 cap, .pointer (some ⟨kd.1, 0, none⟩), .pointer (some ⟨kd.2, 0, none⟩)] w fun e w' => e = .returned (.agg #[.int .u32 (W32 ((stp30 s l).1)), .int .u32 (W32 ((stp30 s l).2.1)), .int .u32 (W32 ((stp30 s l).2.2.1)), .int .u32 (W32 ((stp30 s l).2.2.2))]) ∧ New w w' := by
  obtain ⟨s0, s1, s2, s3⟩ := s
  have HW := Lib.hid (fun w' (hn : New w w') => words_30s a 16 cap l w' (h.stay hn))
  clear h
  unfold stp30 stw30 ml30
  simp only
  obtain ⟨k0, hk⟩ : ∃ z, (rd l 0 4).setWidth 32 = z := ⟨_, rfl⟩
  rw [hk] at HW
  rw [hk]
  clear hk
  have HS0 := Lib.hid (scr0_p k0)
  obtain ⟨y0, hy⟩ : ∃ z, sa30 k0 = z := ⟨_, rfl⟩
  rw [hy] at HS0
  rw [hy]
  clear hy
  have HR0 := Lib.hid (rot32_n (s0 ^^^ y0) 19 (by decide))
  obtain ⟨r0, hr⟩ : ∃ z, (s0 ^^^ y0).rotateLeft 19 = z := ⟨_, rfl⟩
  rw [hr] at HR0
  rw [hr]
  clear hr
  obtain ⟨v0, hv⟩ : ∃ z, (r0 + s1) * 5#32 + 1444728091#32 = z := ⟨_, rfl⟩
  have HV0 := Lib.hid hv
  rw [hv]
  clear hv
  obtain ⟨k1, hk⟩ : ∃ z, (rd l 4 4).setWidth 32 = z := ⟨_, rfl⟩
  rw [hk] at HW
  rw [hk]
  clear hk
  have HS1 := Lib.hid (scr1_p k1)
  obtain ⟨y1, hy⟩ : ∃ z, sb30 k1 = z := ⟨_, rfl⟩
  rw [hy] at HS1
  rw [hy]
  clear hy
  have HR1 := Lib.hid (rot32_n (s1 ^^^ y1) 17 (by decide))
  obtain ⟨r1, hr⟩ : ∃ z, (s1 ^^^ y1).rotateLeft 17 = z := ⟨_, rfl⟩
  rw [hr] at HR1
  rw [hr]
  clear hr
  obtain ⟨v1, hv⟩ : ∃ z, (r1 + s2) * 5#32 + 197830471#32 = z := ⟨_, rfl⟩
  have HV1 := Lib.hid hv
  rw [hv]
  clear hv
  obtain ⟨k2, hk⟩ : ∃ z, (rd l 8 4).setWidth 32 = z := ⟨_, rfl⟩
  rw [hk] at HW
  rw [hk]
  clear hk
  have HS2 := Lib.hid (scr2_p k2)
  obtain ⟨y2, hy⟩ : ∃ z, sc30 k2 = z := ⟨_, rfl⟩
  rw [hy] at HS2
  rw [hy]
  clear hy
  have HR2 := Lib.hid (rot32_n (s2 ^^^ y2) 15 (by decide))
  obtain ⟨r2, hr⟩ : ∃ z, (s2 ^^^ y2).rotateLeft 15 = z := ⟨_, rfl⟩
  rw [hr] at HR2
  rw [hr]
  clear hr
  obtain ⟨v2, hv⟩ : ∃ z, (r2 + s3) * 5#32 + 2530024501#32 = z := ⟨_, rfl⟩
  have HV2 := Lib.hid hv
  rw [hv]
  clear hv
  obtain ⟨k3, hk⟩ : ∃ z, (rd l 12 4).setWidth 32 = z := ⟨_, rfl⟩
  rw [hk] at HW
  rw [hk]
  clear hk
  have HS3 := Lib.hid (scr3_p k3)
  obtain ⟨y3, hy⟩ : ∃ z, sd30 k3 = z := ⟨_, rfl⟩
  rw [hy] at HS3
  rw [hy]
  clear hy
  have HR3 := Lib.hid (rot32_n (s3 ^^^ y3) 13 (by decide))
  obtain ⟨r3, hr⟩ : ∃ z, (s3 ^^^ y3).rotateLeft 13 = z := ⟨_, rfl⟩
  rw [hr] at HR3
  rw [hr]
  clear hr
  obtain ⟨v3, hv⟩ : ∃ z, (r3 + v0) * 5#32 + 850148119#32 = z := ⟨_, rfl⟩
  have HV3 := Lib.hid hv
  rw [hv]
  clear hv
  have HZ := Lib.hid (two_blocks w (.cells #[.int .u32 (W32 s0), .int .u32 (W32 s1), .int .u32 (W32 s2), .int .u32 (W32 s3)] 52) (.cells #[.int .u32 0, .int .u32 0, .int .u32 0, .int .u32 0] 52))
  have ix0 : ∀ w, (Instr.index 52 (.agg #[.int .u32 (W32 k0), .int .u32 (W32 k1), .int .u32 (W32 k2), .int .u32 (W32 k3)]) (.int .i64 0)).run Try.prog w = .ok (.int .u32 (W32 k0)) w := fun _ => rfl
  have ix1 : ∀ w, (Instr.index 52 (.agg #[.int .u32 (W32 k0), .int .u32 (W32 k1), .int .u32 (W32 k2), .int .u32 (W32 k3)]) (.int .i64 1)).run Try.prog w = .ok (.int .u32 (W32 k1)) w := fun _ => rfl
  have ix2 : ∀ w, (Instr.index 52 (.agg #[.int .u32 (W32 k0), .int .u32 (W32 k1), .int .u32 (W32 k2), .int .u32 (W32 k3)]) (.int .i64 2)).run Try.prog w = .ok (.int .u32 (W32 k2)) w := fun _ => rfl
  have ix3 : ∀ w, (Instr.index 52 (.agg #[.int .u32 (W32 k0), .int .u32 (W32 k1), .int .u32 (W32 k2), .int .u32 (W32 k3)]) (.int .i64 3)).run Try.prog w = .ok (.int .u32 (W32 k3)) w := fun _ => rfl
  obtain ⟨qt, qp⟩ := kd
  have hft := hf.1
  have hfp := hf.2
  simp only at hft hfp
  clear hf
  have HT := Lib.hid ((HZ.out.2.2.block _ (lt_of_block hft)).trans hft)
  have HP := Lib.hid ((HZ.out.2.2.block _ (lt_of_block hfp)).trans hfp)
  have HLT := Lib.hid (lt_of_block hft)
  have HLP := Lib.hid (lt_of_block hfp)
  clear hft hfp
  go_enter Try.func45, Try.ntmps45
  go_wp2_with fail
  refine (HW.out _ HZ.out.2.2).mono ?_
  rintro e w9 ⟨rfl, hn⟩
  have HA := Lib.hid ((hn.block _ (lt_of_block HZ.out.1)).trans HZ.out.1)
  have HO := Lib.hid ((hn.block _ (lt_of_block HZ.out.2.1)).trans HZ.out.2.1)
  have HN := Lib.hid (HZ.out.2.2.trans hn)
  replace HT := Lib.hid ((hn.block _ (lt_of_block HT.out)).trans HT.out)
  replace HP := Lib.hid ((hn.block _ (lt_of_block HP.out)).trans HP.out)
  clear hn HZ HW
  go_wp2_with fail
  refine wp_loop_rounds 5 ?_
  rw [rounds_succ]
  go_wp2_with fail
  refine Gro3.wp_region_gro3S (fun w' => w'.heap[w.heap.size]? = some (.cells #[.int .u32 (W32 s0), .int .u32 (W32 s1), .int .u32 (W32 s2), .int .u32 (W32 s3)] 52 (0, 0)) ∧ w'.heap[(w.heap.size + 1)]? = some (.cells #[.int .u32 0, .int .u32 0, .int .u32 0, .int .u32 0] 52 (0, 0)) ∧ w'.heap[qt]? = some (.cells #[.int .i64 19, .int .i64 17, .int .i64 15, .int .i64 13] 77 (0, 0)) ∧ w'.heap[qp]? = some (.cells #[.int .u32 1444728091, .int .u32 197830471, .int .u32 2530024501, .int .u32 850148119] 51 (0, 0)) ∧ New w9 w') (fun w' => w'.heap[w.heap.size]? = some (.cells #[.int .u32 (W32 s0), .int .u32 (W32 s1), .int .u32 (W32 s2), .int .u32 (W32 s3)] 52 (0, 0)) ∧ w'.heap[(w.heap.size + 1)]? = some (.cells #[.int .u32 0, .int .u32 0, .int .u32 0, .int .u32 0] 52 (0, 0)) ∧ w'.heap[qt]? = some (.cells #[.int .i64 19, .int .i64 17, .int .i64 15, .int .i64 13] 77 (0, 0)) ∧ w'.heap[qp]? = some (.cells #[.int .u32 1444728091, .int .u32 197830471, .int .u32 2530024501, .int .u32 850148119] 51 (0, 0)) ∧ New w9 w') [0, 0, 1, 0, 0, 2, 0, 0, 0, 1, 2, 0] New (fun _ _ _ => True) (by kernel_rfl) (by kernel_rfl) (by kernel_rfl) (fun _ _ _ _ _ _ => trivial) (fun w' hw' => hw') (⟨HA.out, HO.out, HT.out, HP.out, (New.refl _).drew⟩) ?_
  intro I J _ _ f g hfa hba hgb hbb
  have HFA := Lib.hid hfa
  have HBA := Lib.hid hba
  have HGB := Lib.hid hgb
  have HBB := Lib.hid hbb
  have s0 := fun n => cell_of_row _ _ 0 _ _ _ (hgb n).1
  have s1 := fun n => cell_of_row _ _ 1 _ _ _ (hgb n).1
  have s2 := fun n => cell_of_row _ _ 2 _ _ _ (hgb n).1
  have s3 := fun n => cell_of_row _ _ 3 _ _ _ (hgb n).1
  have s4 := fun n => cell_of_row _ _ 0 _ _ _ (hgb n).2.1
  have s5 := fun n => cell_of_row _ _ 1 _ _ _ (hgb n).2.1
  have s6 := fun n => cell_of_row _ _ 2 _ _ _ (hgb n).2.1
  have s7 := fun n => cell_of_row _ _ 3 _ _ _ (hgb n).2.1
  have s8 := fun n => cell_of_row _ _ 0 _ _ _ (hgb n).2.2.1
  have s9 := fun n => cell_of_row _ _ 1 _ _ _ (hgb n).2.2.1
  have s10 := fun n => cell_of_row _ _ 2 _ _ _ (hgb n).2.2.1
  have s11 := fun n => cell_of_row _ _ 3 _ _ _ (hgb n).2.2.1
  have s12 := fun n => cell_of_row _ _ 0 _ _ _ (hgb n).2.2.2.1
  have s13 := fun n => cell_of_row _ _ 1 _ _ _ (hgb n).2.2.2.1
  have s14 := fun n => cell_of_row _ _ 2 _ _ _ (hgb n).2.2.2.1
  have s15 := fun n => cell_of_row _ _ 3 _ _ _ (hgb n).2.2.2.1
  clear hfa hba hgb hbb
  refine Gro3.take0 2 (by kernel_rfl) ?_
  simp only [List.take, List.drop, List.length]
  repeat (go_big_quiet_step (fail))
  refine wpQuiet_nil ?_
  refine Gro3.take1 1 (by kernel_rfl) ?_
  simp only [List.take, List.drop, List.length]
  repeat (go_big_quiet_step (fail))
  refine wpQuiet_nil ?_
  refine Gro3.take0 2 (by kernel_rfl) ?_
  simp only [List.take, List.drop, List.length]
  repeat (go_big_quiet_step (fail))
  refine wpQuiet_nil ?_
  refine Gro3.callt (fun v => v = .int .u32 (W32 y0)) (fun _ _ => True) rfl rfl (⟨_, rfl⟩) (fun _ _ _ _ _ => trivial) (fun w1 hB hG => ?_) (fun v1 A1 hv1 hA => ?_)
  · obtain ⟨nq, rfl⟩ := hB
    clear s0 s1 s2 s3 s4 s5 s6 s7 s8 s9 s10 s11 s12 s13 s14 s15
    go_simp
    refine (HS0.out _).mono ?_
    rintro e w2 ⟨rfl, hn⟩
    have HX := HBB.out _ ⟨(hn.block _ (lt_of_block (HGB.out nq).1)).trans (HGB.out nq).1, (hn.block _ (lt_of_block (HGB.out nq).2.1)).trans (HGB.out nq).2.1, (hn.block _ (lt_of_block (HGB.out nq).2.2.1)).trans (HGB.out nq).2.2.1, (hn.block _ (lt_of_block (HGB.out nq).2.2.2.1)).trans (HGB.out nq).2.2.2.1, (HGB.out nq).2.2.2.2.trans hn⟩
    first | exact ⟨_, rfl, HX, hn, rfl⟩ | exact ⟨_, rfl, HX, hn, rfl, trivial⟩ | exact ⟨rfl, HX, hn⟩ | exact ⟨HX, hn, rfl⟩ | exact ⟨HX, hn⟩
  simp [Act.put] at hA
  subst hA
  obtain rfl := hv1
  refine Gro3.take0 3 (by kernel_rfl) ?_
  simp only [List.take, List.drop, List.length]
  repeat (go_big_quiet_step (fail))
  refine wpQuiet_nil ?_
  refine Gro3.take1 1 (by kernel_rfl) ?_
  simp only [List.take, List.drop, List.length]
  repeat (go_big_quiet_step (fail))
  refine wpQuiet_nil ?_
  refine Gro3.callt (fun v => v = .int .u32 (W32 r0)) (fun _ _ => True) rfl rfl (⟨_, rfl⟩) (fun _ _ _ _ _ => trivial) (fun w1 hB hG => ?_) (fun v2 A2 hv2 hA => ?_)
  · obtain ⟨nq, rfl⟩ := hB
    clear s0 s1 s2 s3 s4 s5 s6 s7 s8 s9 s10 s11 s12 s13 s14 s15
    go_simp
    refine (HR0.out _).mono ?_
    rintro e w2 ⟨rfl, rfl⟩
    have hn := New.refl (g nq)
    have HX := HBB.out _ ⟨(hn.block _ (lt_of_block (HGB.out nq).1)).trans (HGB.out nq).1, (hn.block _ (lt_of_block (HGB.out nq).2.1)).trans (HGB.out nq).2.1, (hn.block _ (lt_of_block (HGB.out nq).2.2.1)).trans (HGB.out nq).2.2.1, (hn.block _ (lt_of_block (HGB.out nq).2.2.2.1)).trans (HGB.out nq).2.2.2.1, (HGB.out nq).2.2.2.2.trans hn⟩
    first | exact ⟨_, rfl, HX, hn, rfl⟩ | exact ⟨_, rfl, HX, hn, rfl, trivial⟩ | exact ⟨rfl, HX, hn⟩ | exact ⟨HX, hn, rfl⟩ | exact ⟨HX, hn⟩
  simp [Act.put] at hA
  subst hA
  obtain rfl := hv2
  refine Gro3.take0 1 (by kernel_rfl) ?_
  simp only [List.take, List.drop, List.length]
  repeat (go_big_quiet_step (fail))
  refine wpQuiet_nil ?_
  refine Gro3.nil ?_
  rintro w9 ⟨n9, rfl⟩ hG
  have hn := (HGB.out n9).2.2.2.2
  clear HFA HBA HGB HBB s0 s1 s2 s3 s4 s5 s6 s7 s8 s9 s10 s11 s12 s13 s14 s15
  replace HA := Lib.hid ((hn.block _ (lt_of_block HA.out)).trans HA.out)
  replace HO := Lib.hid ((hn.block _ (lt_of_block HO.out)).trans HO.out)
  replace HT := Lib.hid ((hn.block _ (lt_of_block HT.out)).trans HT.out)
  replace HP := Lib.hid ((hn.block _ (lt_of_block HP.out)).trans HP.out)
  replace HN := Lib.hid (HN.out.trans hn)
  clear hn hG HS0 HR0
  generalize g n9 = w9 at *
  have cn := cell_of_row _ _ 1 _ _ _ HA.out
  have cp := cell_of_row _ _ 0 _ _ _ HP.out
  have cs := cell_of_row _ _ 0 _ _ _ HA.out
  have cf := fun i => frozen_of_row _ _ i _ _ HA.out
  have hv := HV0.out
  go_wp2_with fail
  go_region
  clear cn cp cs cf hv HV0
  have h0 := heap_setCell_same w9 w.heap.size 0 _ _ (.int .u32 (W32 v0)) HA.out
  have ho := fun q (hq : q ≠ w.heap.size) => heap_setCell_other w9 ⟨w.heap.size, 0, none⟩ q (.int .u32 (W32 v0)) hq
  have h2 := (HN.out.setCell (p := ⟨w.heap.size, 0, none⟩) (Nat.le_refl _) (.int .u32 (W32 v0))).drew
  replace HA := Lib.hid (show ((w9.setCell ⟨w.heap.size, 0, none⟩ (.int .u32 (W32 v0))).drew).heap[w.heap.size]? = some (.cells #[.int .u32 (W32 v0), .int .u32 (W32 s1), .int .u32 (W32 s2), .int .u32 (W32 s3)] 52 (0, 0)) from h0)
  replace HO := Lib.hid (show ((w9.setCell ⟨w.heap.size, 0, none⟩ (.int .u32 (W32 v0))).drew).heap[w.heap.size + 1]? = _ from (ho _ (by omega)).trans HO.out)
  replace HT := Lib.hid (show ((w9.setCell ⟨w.heap.size, 0, none⟩ (.int .u32 (W32 v0))).drew).heap[qt]? = _ from (ho _ (by have := HLT.out; omega)).trans HT.out)
  replace HP := Lib.hid (show ((w9.setCell ⟨w.heap.size, 0, none⟩ (.int .u32 (W32 v0))).drew).heap[qp]? = _ from (ho _ (by have := HLP.out; omega)).trans HP.out)
  replace HN := Lib.hid h2
  clear h0 ho h2
  generalize (w9.setCell ⟨w.heap.size, 0, none⟩ (.int .u32 (W32 v0))).drew = w8 at *
  obtain ⟨w9, hw9⟩ : ∃ z, w8 = z := ⟨_, rfl⟩
  rw [hw9] at HA HO HN HT HP ⊢
  clear hw9 w8
  first | go_wp2_with fail | skip
  rw [rounds_succ]
  go_wp2_with fail
  refine Gro3.wp_region_gro3S (fun w' => w'.heap[w.heap.size]? = some (.cells #[.int .u32 (W32 v0), .int .u32 (W32 s1), .int .u32 (W32 s2), .int .u32 (W32 s3)] 52 (0, 0)) ∧ w'.heap[(w.heap.size + 1)]? = some (.cells #[.int .u32 0, .int .u32 0, .int .u32 0, .int .u32 0] 52 (0, 0)) ∧ w'.heap[qt]? = some (.cells #[.int .i64 19, .int .i64 17, .int .i64 15, .int .i64 13] 77 (0, 0)) ∧ w'.heap[qp]? = some (.cells #[.int .u32 1444728091, .int .u32 197830471, .int .u32 2530024501, .int .u32 850148119] 51 (0, 0)) ∧ New w9 w') (fun w' => w'.heap[w.heap.size]? = some (.cells #[.int .u32 (W32 v0), .int .u32 (W32 s1), .int .u32 (W32 s2), .int .u32 (W32 s3)] 52 (0, 0)) ∧ w'.heap[(w.heap.size + 1)]? = some (.cells #[.int .u32 0, .int .u32 0, .int .u32 0, .int .u32 0] 52 (0, 0)) ∧ w'.heap[qt]? = some (.cells #[.int .i64 19, .int .i64 17, .int .i64 15, .int .i64 13] 77 (0, 0)) ∧ w'.heap[qp]? = some (.cells #[.int .u32 1444728091, .int .u32 197830471, .int .u32 2530024501, .int .u32 850148119] 51 (0, 0)) ∧ New w9 w') [0, 0, 1, 0, 0, 2, 0, 0, 0, 1, 2, 0] New (fun _ _ _ => True) (by kernel_rfl) (by kernel_rfl) (by kernel_rfl) (fun _ _ _ _ _ _ => trivial) (fun w' hw' => hw') (⟨HA.out, HO.out, HT.out, HP.out, (New.refl _).drew⟩) ?_
  intro I J _ _ f g hfa hba hgb hbb
  have HFA := Lib.hid hfa
  have HBA := Lib.hid hba
  have HGB := Lib.hid hgb
  have HBB := Lib.hid hbb
  have s0 := fun n => cell_of_row _ _ 0 _ _ _ (hgb n).1
  have s1 := fun n => cell_of_row _ _ 1 _ _ _ (hgb n).1
  have s2 := fun n => cell_of_row _ _ 2 _ _ _ (hgb n).1
  have s3 := fun n => cell_of_row _ _ 3 _ _ _ (hgb n).1
  have s4 := fun n => cell_of_row _ _ 0 _ _ _ (hgb n).2.1
  have s5 := fun n => cell_of_row _ _ 1 _ _ _ (hgb n).2.1
  have s6 := fun n => cell_of_row _ _ 2 _ _ _ (hgb n).2.1
  have s7 := fun n => cell_of_row _ _ 3 _ _ _ (hgb n).2.1
  have s8 := fun n => cell_of_row _ _ 0 _ _ _ (hgb n).2.2.1
  have s9 := fun n => cell_of_row _ _ 1 _ _ _ (hgb n).2.2.1
  have s10 := fun n => cell_of_row _ _ 2 _ _ _ (hgb n).2.2.1
  have s11 := fun n => cell_of_row _ _ 3 _ _ _ (hgb n).2.2.1
  have s12 := fun n => cell_of_row _ _ 0 _ _ _ (hgb n).2.2.2.1
  have s13 := fun n => cell_of_row _ _ 1 _ _ _ (hgb n).2.2.2.1
  have s14 := fun n => cell_of_row _ _ 2 _ _ _ (hgb n).2.2.2.1
  have s15 := fun n => cell_of_row _ _ 3 _ _ _ (hgb n).2.2.2.1
  clear hfa hba hgb hbb
  refine Gro3.take0 2 (by kernel_rfl) ?_
  simp only [List.take, List.drop, List.length]
  repeat (go_big_quiet_step (fail))
  refine wpQuiet_nil ?_
  refine Gro3.take1 1 (by kernel_rfl) ?_
  simp only [List.take, List.drop, List.length]
  repeat (go_big_quiet_step (fail))
  refine wpQuiet_nil ?_
  refine Gro3.take0 2 (by kernel_rfl) ?_
  simp only [List.take, List.drop, List.length]
  repeat (go_big_quiet_step (fail))
  refine wpQuiet_nil ?_
  refine Gro3.callt (fun v => v = .int .u32 (W32 y1)) (fun _ _ => True) rfl rfl (⟨_, rfl⟩) (fun _ _ _ _ _ => trivial) (fun w1 hB hG => ?_) (fun v1 A1 hv1 hA => ?_)
  · obtain ⟨nq, rfl⟩ := hB
    clear s0 s1 s2 s3 s4 s5 s6 s7 s8 s9 s10 s11 s12 s13 s14 s15
    go_simp
    refine (HS1.out _).mono ?_
    rintro e w2 ⟨rfl, hn⟩
    have HX := HBB.out _ ⟨(hn.block _ (lt_of_block (HGB.out nq).1)).trans (HGB.out nq).1, (hn.block _ (lt_of_block (HGB.out nq).2.1)).trans (HGB.out nq).2.1, (hn.block _ (lt_of_block (HGB.out nq).2.2.1)).trans (HGB.out nq).2.2.1, (hn.block _ (lt_of_block (HGB.out nq).2.2.2.1)).trans (HGB.out nq).2.2.2.1, (HGB.out nq).2.2.2.2.trans hn⟩
    first | exact ⟨_, rfl, HX, hn, rfl⟩ | exact ⟨_, rfl, HX, hn, rfl, trivial⟩ | exact ⟨rfl, HX, hn⟩ | exact ⟨HX, hn, rfl⟩ | exact ⟨HX, hn⟩
  simp [Act.put] at hA
  subst hA
  obtain rfl := hv1
  refine Gro3.take0 3 (by kernel_rfl) ?_
  simp only [List.take, List.drop, List.length]
  repeat (go_big_quiet_step (fail))
  refine wpQuiet_nil ?_
  refine Gro3.take1 1 (by kernel_rfl) ?_
  simp only [List.take, List.drop, List.length]
  repeat (go_big_quiet_step (fail))
  refine wpQuiet_nil ?_
  refine Gro3.callt (fun v => v = .int .u32 (W32 r1)) (fun _ _ => True) rfl rfl (⟨_, rfl⟩) (fun _ _ _ _ _ => trivial) (fun w1 hB hG => ?_) (fun v2 A2 hv2 hA => ?_)
  · obtain ⟨nq, rfl⟩ := hB
    clear s0 s1 s2 s3 s4 s5 s6 s7 s8 s9 s10 s11 s12 s13 s14 s15
    go_simp
    refine (HR1.out _).mono ?_
    rintro e w2 ⟨rfl, rfl⟩
    have hn := New.refl (g nq)
    have HX := HBB.out _ ⟨(hn.block _ (lt_of_block (HGB.out nq).1)).trans (HGB.out nq).1, (hn.block _ (lt_of_block (HGB.out nq).2.1)).trans (HGB.out nq).2.1, (hn.block _ (lt_of_block (HGB.out nq).2.2.1)).trans (HGB.out nq).2.2.1, (hn.block _ (lt_of_block (HGB.out nq).2.2.2.1)).trans (HGB.out nq).2.2.2.1, (HGB.out nq).2.2.2.2.trans hn⟩
    first | exact ⟨_, rfl, HX, hn, rfl⟩ | exact ⟨_, rfl, HX, hn, rfl, trivial⟩ | exact ⟨rfl, HX, hn⟩ | exact ⟨HX, hn, rfl⟩ | exact ⟨HX, hn⟩
  simp [Act.put] at hA
  subst hA
  obtain rfl := hv2
  refine Gro3.take0 1 (by kernel_rfl) ?_
  simp only [List.take, List.drop, List.length]
  repeat (go_big_quiet_step (fail))
  refine wpQuiet_nil ?_
  refine Gro3.nil ?_
  rintro w9 ⟨n9, rfl⟩ hG
  have hn := (HGB.out n9).2.2.2.2
  clear HFA HBA HGB HBB s0 s1 s2 s3 s4 s5 s6 s7 s8 s9 s10 s11 s12 s13 s14 s15
  replace HA := Lib.hid ((hn.block _ (lt_of_block HA.out)).trans HA.out)
  replace HO := Lib.hid ((hn.block _ (lt_of_block HO.out)).trans HO.out)
  replace HT := Lib.hid ((hn.block _ (lt_of_block HT.out)).trans HT.out)
  replace HP := Lib.hid ((hn.block _ (lt_of_block HP.out)).trans HP.out)
  replace HN := Lib.hid (HN.out.trans hn)
  clear hn hG HS1 HR1
  generalize g n9 = w9 at *
  have cn := cell_of_row _ _ 2 _ _ _ HA.out
  have cp := cell_of_row _ _ 1 _ _ _ HP.out
  have cs := cell_of_row _ _ 1 _ _ _ HA.out
  have cf := fun i => frozen_of_row _ _ i _ _ HA.out
  have hv := HV1.out
  go_wp2_with fail
  go_region
  clear cn cp cs cf hv HV1
  have h0 := heap_setCell_same w9 w.heap.size 1 _ _ (.int .u32 (W32 v1)) HA.out
  have ho := fun q (hq : q ≠ w.heap.size) => heap_setCell_other w9 ⟨w.heap.size, 1, none⟩ q (.int .u32 (W32 v1)) hq
  have h2 := (HN.out.setCell (p := ⟨w.heap.size, 1, none⟩) (Nat.le_refl _) (.int .u32 (W32 v1))).drew
  replace HA := Lib.hid (show ((w9.setCell ⟨w.heap.size, 1, none⟩ (.int .u32 (W32 v1))).drew).heap[w.heap.size]? = some (.cells #[.int .u32 (W32 v0), .int .u32 (W32 v1), .int .u32 (W32 s2), .int .u32 (W32 s3)] 52 (0, 0)) from h0)
  replace HO := Lib.hid (show ((w9.setCell ⟨w.heap.size, 1, none⟩ (.int .u32 (W32 v1))).drew).heap[w.heap.size + 1]? = _ from (ho _ (by omega)).trans HO.out)
  replace HT := Lib.hid (show ((w9.setCell ⟨w.heap.size, 1, none⟩ (.int .u32 (W32 v1))).drew).heap[qt]? = _ from (ho _ (by have := HLT.out; omega)).trans HT.out)
  replace HP := Lib.hid (show ((w9.setCell ⟨w.heap.size, 1, none⟩ (.int .u32 (W32 v1))).drew).heap[qp]? = _ from (ho _ (by have := HLP.out; omega)).trans HP.out)
  replace HN := Lib.hid h2
  clear h0 ho h2
  generalize (w9.setCell ⟨w.heap.size, 1, none⟩ (.int .u32 (W32 v1))).drew = w8 at *
  obtain ⟨w9, hw9⟩ : ∃ z, w8 = z := ⟨_, rfl⟩
  rw [hw9] at HA HO HN HT HP ⊢
  clear hw9 w8
  first | go_wp2_with fail | skip
  rw [rounds_succ]
  go_wp2_with fail
  refine Gro3.wp_region_gro3S (fun w' => w'.heap[w.heap.size]? = some (.cells #[.int .u32 (W32 v0), .int .u32 (W32 v1), .int .u32 (W32 s2), .int .u32 (W32 s3)] 52 (0, 0)) ∧ w'.heap[(w.heap.size + 1)]? = some (.cells #[.int .u32 0, .int .u32 0, .int .u32 0, .int .u32 0] 52 (0, 0)) ∧ w'.heap[qt]? = some (.cells #[.int .i64 19, .int .i64 17, .int .i64 15, .int .i64 13] 77 (0, 0)) ∧ w'.heap[qp]? = some (.cells #[.int .u32 1444728091, .int .u32 197830471, .int .u32 2530024501, .int .u32 850148119] 51 (0, 0)) ∧ New w9 w') (fun w' => w'.heap[w.heap.size]? = some (.cells #[.int .u32 (W32 v0), .int .u32 (W32 v1), .int .u32 (W32 s2), .int .u32 (W32 s3)] 52 (0, 0)) ∧ w'.heap[(w.heap.size + 1)]? = some (.cells #[.int .u32 0, .int .u32 0, .int .u32 0, .int .u32 0] 52 (0, 0)) ∧ w'.heap[qt]? = some (.cells #[.int .i64 19, .int .i64 17, .int .i64 15, .int .i64 13] 77 (0, 0)) ∧ w'.heap[qp]? = some (.cells #[.int .u32 1444728091, .int .u32 197830471, .int .u32 2530024501, .int .u32 850148119] 51 (0, 0)) ∧ New w9 w') [0, 0, 1, 0, 0, 2, 0, 0, 0, 1, 2, 0] New (fun _ _ _ => True) (by kernel_rfl) (by kernel_rfl) (by kernel_rfl) (fun _ _ _ _ _ _ => trivial) (fun w' hw' => hw') (⟨HA.out, HO.out, HT.out, HP.out, (New.refl _).drew⟩) ?_
  intro I J _ _ f g hfa hba hgb hbb
  have HFA := Lib.hid hfa
  have HBA := Lib.hid hba
  have HGB := Lib.hid hgb
  have HBB := Lib.hid hbb
  have s0 := fun n => cell_of_row _ _ 0 _ _ _ (hgb n).1
  have s1 := fun n => cell_of_row _ _ 1 _ _ _ (hgb n).1
  have s2 := fun n => cell_of_row _ _ 2 _ _ _ (hgb n).1
  have s3 := fun n => cell_of_row _ _ 3 _ _ _ (hgb n).1
  have s4 := fun n => cell_of_row _ _ 0 _ _ _ (hgb n).2.1
  have s5 := fun n => cell_of_row _ _ 1 _ _ _ (hgb n).2.1
  have s6 := fun n => cell_of_row _ _ 2 _ _ _ (hgb n).2.1
  have s7 := fun n => cell_of_row _ _ 3 _ _ _ (hgb n).2.1
  have s8 := fun n => cell_of_row _ _ 0 _ _ _ (hgb n).2.2.1
  have s9 := fun n => cell_of_row _ _ 1 _ _ _ (hgb n).2.2.1
  have s10 := fun n => cell_of_row _ _ 2 _ _ _ (hgb n).2.2.1
  have s11 := fun n => cell_of_row _ _ 3 _ _ _ (hgb n).2.2.1
  have s12 := fun n => cell_of_row _ _ 0 _ _ _ (hgb n).2.2.2.1
  have s13 := fun n => cell_of_row _ _ 1 _ _ _ (hgb n).2.2.2.1
  have s14 := fun n => cell_of_row _ _ 2 _ _ _ (hgb n).2.2.2.1
  have s15 := fun n => cell_of_row _ _ 3 _ _ _ (hgb n).2.2.2.1
  clear hfa hba hgb hbb
  refine Gro3.take0 2 (by kernel_rfl) ?_
  simp only [List.take, List.drop, List.length]
  repeat (go_big_quiet_step (fail))
  refine wpQuiet_nil ?_
  refine Gro3.take1 1 (by kernel_rfl) ?_
  simp only [List.take, List.drop, List.length]
  repeat (go_big_quiet_step (fail))
  refine wpQuiet_nil ?_
  refine Gro3.take0 2 (by kernel_rfl) ?_
  simp only [List.take, List.drop, List.length]
  repeat (go_big_quiet_step (fail))
  refine wpQuiet_nil ?_
  refine Gro3.callt (fun v => v = .int .u32 (W32 y2)) (fun _ _ => True) rfl rfl (⟨_, rfl⟩) (fun _ _ _ _ _ => trivial) (fun w1 hB hG => ?_) (fun v1 A1 hv1 hA => ?_)
  · obtain ⟨nq, rfl⟩ := hB
    clear s0 s1 s2 s3 s4 s5 s6 s7 s8 s9 s10 s11 s12 s13 s14 s15
    go_simp
    refine (HS2.out _).mono ?_
    rintro e w2 ⟨rfl, hn⟩
    have HX := HBB.out _ ⟨(hn.block _ (lt_of_block (HGB.out nq).1)).trans (HGB.out nq).1, (hn.block _ (lt_of_block (HGB.out nq).2.1)).trans (HGB.out nq).2.1, (hn.block _ (lt_of_block (HGB.out nq).2.2.1)).trans (HGB.out nq).2.2.1, (hn.block _ (lt_of_block (HGB.out nq).2.2.2.1)).trans (HGB.out nq).2.2.2.1, (HGB.out nq).2.2.2.2.trans hn⟩
    first | exact ⟨_, rfl, HX, hn, rfl⟩ | exact ⟨_, rfl, HX, hn, rfl, trivial⟩ | exact ⟨rfl, HX, hn⟩ | exact ⟨HX, hn, rfl⟩ | exact ⟨HX, hn⟩
  simp [Act.put] at hA
  subst hA
  obtain rfl := hv1
  refine Gro3.take0 3 (by kernel_rfl) ?_
  simp only [List.take, List.drop, List.length]
  repeat (go_big_quiet_step (fail))
  refine wpQuiet_nil ?_
  refine Gro3.take1 1 (by kernel_rfl) ?_
  simp only [List.take, List.drop, List.length]
  repeat (go_big_quiet_step (fail))
  refine wpQuiet_nil ?_
  refine Gro3.callt (fun v => v = .int .u32 (W32 r2)) (fun _ _ => True) rfl rfl (⟨_, rfl⟩) (fun _ _ _ _ _ => trivial) (fun w1 hB hG => ?_) (fun v2 A2 hv2 hA => ?_)
  · obtain ⟨nq, rfl⟩ := hB
    clear s0 s1 s2 s3 s4 s5 s6 s7 s8 s9 s10 s11 s12 s13 s14 s15
    go_simp
    refine (HR2.out _).mono ?_
    rintro e w2 ⟨rfl, rfl⟩
    have hn := New.refl (g nq)
    have HX := HBB.out _ ⟨(hn.block _ (lt_of_block (HGB.out nq).1)).trans (HGB.out nq).1, (hn.block _ (lt_of_block (HGB.out nq).2.1)).trans (HGB.out nq).2.1, (hn.block _ (lt_of_block (HGB.out nq).2.2.1)).trans (HGB.out nq).2.2.1, (hn.block _ (lt_of_block (HGB.out nq).2.2.2.1)).trans (HGB.out nq).2.2.2.1, (HGB.out nq).2.2.2.2.trans hn⟩
    first | exact ⟨_, rfl, HX, hn, rfl⟩ | exact ⟨_, rfl, HX, hn, rfl, trivial⟩ | exact ⟨rfl, HX, hn⟩ | exact ⟨HX, hn, rfl⟩ | exact ⟨HX, hn⟩
  simp [Act.put] at hA
  subst hA
  obtain rfl := hv2
  refine Gro3.take0 1 (by kernel_rfl) ?_
  simp only [List.take, List.drop, List.length]
  repeat (go_big_quiet_step (fail))
  refine wpQuiet_nil ?_
  refine Gro3.nil ?_
  rintro w9 ⟨n9, rfl⟩ hG
  have hn := (HGB.out n9).2.2.2.2
  clear HFA HBA HGB HBB s0 s1 s2 s3 s4 s5 s6 s7 s8 s9 s10 s11 s12 s13 s14 s15
  replace HA := Lib.hid ((hn.block _ (lt_of_block HA.out)).trans HA.out)
  replace HO := Lib.hid ((hn.block _ (lt_of_block HO.out)).trans HO.out)
  replace HT := Lib.hid ((hn.block _ (lt_of_block HT.out)).trans HT.out)
  replace HP := Lib.hid ((hn.block _ (lt_of_block HP.out)).trans HP.out)
  replace HN := Lib.hid (HN.out.trans hn)
  clear hn hG HS2 HR2
  generalize g n9 = w9 at *
  have cn := cell_of_row _ _ 3 _ _ _ HA.out
  have cp := cell_of_row _ _ 2 _ _ _ HP.out
  have cs := cell_of_row _ _ 2 _ _ _ HA.out
  have cf := fun i => frozen_of_row _ _ i _ _ HA.out
  have hv := HV2.out
  go_wp2_with fail
  go_region
  clear cn cp cs cf hv HV2
  have h0 := heap_setCell_same w9 w.heap.size 2 _ _ (.int .u32 (W32 v2)) HA.out
  have ho := fun q (hq : q ≠ w.heap.size) => heap_setCell_other w9 ⟨w.heap.size, 2, none⟩ q (.int .u32 (W32 v2)) hq
  have h2 := (HN.out.setCell (p := ⟨w.heap.size, 2, none⟩) (Nat.le_refl _) (.int .u32 (W32 v2))).drew
  replace HA := Lib.hid (show ((w9.setCell ⟨w.heap.size, 2, none⟩ (.int .u32 (W32 v2))).drew).heap[w.heap.size]? = some (.cells #[.int .u32 (W32 v0), .int .u32 (W32 v1), .int .u32 (W32 v2), .int .u32 (W32 s3)] 52 (0, 0)) from h0)
  replace HO := Lib.hid (show ((w9.setCell ⟨w.heap.size, 2, none⟩ (.int .u32 (W32 v2))).drew).heap[w.heap.size + 1]? = _ from (ho _ (by omega)).trans HO.out)
  replace HT := Lib.hid (show ((w9.setCell ⟨w.heap.size, 2, none⟩ (.int .u32 (W32 v2))).drew).heap[qt]? = _ from (ho _ (by have := HLT.out; omega)).trans HT.out)
  replace HP := Lib.hid (show ((w9.setCell ⟨w.heap.size, 2, none⟩ (.int .u32 (W32 v2))).drew).heap[qp]? = _ from (ho _ (by have := HLP.out; omega)).trans HP.out)
  replace HN := Lib.hid h2
  clear h0 ho h2
  generalize (w9.setCell ⟨w.heap.size, 2, none⟩ (.int .u32 (W32 v2))).drew = w8 at *
  obtain ⟨w9, hw9⟩ : ∃ z, w8 = z := ⟨_, rfl⟩
  rw [hw9] at HA HO HN HT HP ⊢
  clear hw9 w8
  first | go_wp2_with fail | skip
  rw [rounds_succ]
  go_wp2_with fail
  refine Gro3.wp_region_gro3S (fun w' => w'.heap[w.heap.size]? = some (.cells #[.int .u32 (W32 v0), .int .u32 (W32 v1), .int .u32 (W32 v2), .int .u32 (W32 s3)] 52 (0, 0)) ∧ w'.heap[(w.heap.size + 1)]? = some (.cells #[.int .u32 0, .int .u32 0, .int .u32 0, .int .u32 0] 52 (0, 0)) ∧ w'.heap[qt]? = some (.cells #[.int .i64 19, .int .i64 17, .int .i64 15, .int .i64 13] 77 (0, 0)) ∧ w'.heap[qp]? = some (.cells #[.int .u32 1444728091, .int .u32 197830471, .int .u32 2530024501, .int .u32 850148119] 51 (0, 0)) ∧ New w9 w') (fun w' => w'.heap[w.heap.size]? = some (.cells #[.int .u32 (W32 v0), .int .u32 (W32 v1), .int .u32 (W32 v2), .int .u32 (W32 s3)] 52 (0, 0)) ∧ w'.heap[(w.heap.size + 1)]? = some (.cells #[.int .u32 0, .int .u32 0, .int .u32 0, .int .u32 0] 52 (0, 0)) ∧ w'.heap[qt]? = some (.cells #[.int .i64 19, .int .i64 17, .int .i64 15, .int .i64 13] 77 (0, 0)) ∧ w'.heap[qp]? = some (.cells #[.int .u32 1444728091, .int .u32 197830471, .int .u32 2530024501, .int .u32 850148119] 51 (0, 0)) ∧ New w9 w') [0, 0, 1, 0, 0, 2, 0, 0, 0, 1, 2, 0] New (fun _ _ _ => True) (by kernel_rfl) (by kernel_rfl) (by kernel_rfl) (fun _ _ _ _ _ _ => trivial) (fun w' hw' => hw') (⟨HA.out, HO.out, HT.out, HP.out, (New.refl _).drew⟩) ?_
  intro I J _ _ f g hfa hba hgb hbb
  have HFA := Lib.hid hfa
  have HBA := Lib.hid hba
  have HGB := Lib.hid hgb
  have HBB := Lib.hid hbb
  have s0 := fun n => cell_of_row _ _ 0 _ _ _ (hgb n).1
  have s1 := fun n => cell_of_row _ _ 1 _ _ _ (hgb n).1
  have s2 := fun n => cell_of_row _ _ 2 _ _ _ (hgb n).1
  have s3 := fun n => cell_of_row _ _ 3 _ _ _ (hgb n).1
  have s4 := fun n => cell_of_row _ _ 0 _ _ _ (hgb n).2.1
  have s5 := fun n => cell_of_row _ _ 1 _ _ _ (hgb n).2.1
  have s6 := fun n => cell_of_row _ _ 2 _ _ _ (hgb n).2.1
  have s7 := fun n => cell_of_row _ _ 3 _ _ _ (hgb n).2.1
  have s8 := fun n => cell_of_row _ _ 0 _ _ _ (hgb n).2.2.1
  have s9 := fun n => cell_of_row _ _ 1 _ _ _ (hgb n).2.2.1
  have s10 := fun n => cell_of_row _ _ 2 _ _ _ (hgb n).2.2.1
  have s11 := fun n => cell_of_row _ _ 3 _ _ _ (hgb n).2.2.1
  have s12 := fun n => cell_of_row _ _ 0 _ _ _ (hgb n).2.2.2.1
  have s13 := fun n => cell_of_row _ _ 1 _ _ _ (hgb n).2.2.2.1
  have s14 := fun n => cell_of_row _ _ 2 _ _ _ (hgb n).2.2.2.1
  have s15 := fun n => cell_of_row _ _ 3 _ _ _ (hgb n).2.2.2.1
  clear hfa hba hgb hbb
  refine Gro3.take0 2 (by kernel_rfl) ?_
  simp only [List.take, List.drop, List.length]
  repeat (go_big_quiet_step (fail))
  refine wpQuiet_nil ?_
  refine Gro3.take1 1 (by kernel_rfl) ?_
  simp only [List.take, List.drop, List.length]
  repeat (go_big_quiet_step (fail))
  refine wpQuiet_nil ?_
  refine Gro3.take0 2 (by kernel_rfl) ?_
  simp only [List.take, List.drop, List.length]
  repeat (go_big_quiet_step (fail))
  refine wpQuiet_nil ?_
  refine Gro3.callt (fun v => v = .int .u32 (W32 y3)) (fun _ _ => True) rfl rfl (⟨_, rfl⟩) (fun _ _ _ _ _ => trivial) (fun w1 hB hG => ?_) (fun v1 A1 hv1 hA => ?_)
  · obtain ⟨nq, rfl⟩ := hB
    clear s0 s1 s2 s3 s4 s5 s6 s7 s8 s9 s10 s11 s12 s13 s14 s15
    go_simp
    refine (HS3.out _).mono ?_
    rintro e w2 ⟨rfl, hn⟩
    have HX := HBB.out _ ⟨(hn.block _ (lt_of_block (HGB.out nq).1)).trans (HGB.out nq).1, (hn.block _ (lt_of_block (HGB.out nq).2.1)).trans (HGB.out nq).2.1, (hn.block _ (lt_of_block (HGB.out nq).2.2.1)).trans (HGB.out nq).2.2.1, (hn.block _ (lt_of_block (HGB.out nq).2.2.2.1)).trans (HGB.out nq).2.2.2.1, (HGB.out nq).2.2.2.2.trans hn⟩
    first | exact ⟨_, rfl, HX, hn, rfl⟩ | exact ⟨_, rfl, HX, hn, rfl, trivial⟩ | exact ⟨rfl, HX, hn⟩ | exact ⟨HX, hn, rfl⟩ | exact ⟨HX, hn⟩
  simp [Act.put] at hA
  subst hA
  obtain rfl := hv1
  refine Gro3.take0 3 (by kernel_rfl) ?_
  simp only [List.take, List.drop, List.length]
  repeat (go_big_quiet_step (fail))
  refine wpQuiet_nil ?_
  refine Gro3.take1 1 (by kernel_rfl) ?_
  simp only [List.take, List.drop, List.length]
  repeat (go_big_quiet_step (fail))
  refine wpQuiet_nil ?_
  refine Gro3.callt (fun v => v = .int .u32 (W32 r3)) (fun _ _ => True) rfl rfl (⟨_, rfl⟩) (fun _ _ _ _ _ => trivial) (fun w1 hB hG => ?_) (fun v2 A2 hv2 hA => ?_)
  · obtain ⟨nq, rfl⟩ := hB
    clear s0 s1 s2 s3 s4 s5 s6 s7 s8 s9 s10 s11 s12 s13 s14 s15
    go_simp
    refine (HR3.out _).mono ?_
    rintro e w2 ⟨rfl, rfl⟩
    have hn := New.refl (g nq)
    have HX := HBB.out _ ⟨(hn.block _ (lt_of_block (HGB.out nq).1)).trans (HGB.out nq).1, (hn.block _ (lt_of_block (HGB.out nq).2.1)).trans (HGB.out nq).2.1, (hn.block _ (lt_of_block (HGB.out nq).2.2.1)).trans (HGB.out nq).2.2.1, (hn.block _ (lt_of_block (HGB.out nq).2.2.2.1)).trans (HGB.out nq).2.2.2.1, (HGB.out nq).2.2.2.2.trans hn⟩
    first | exact ⟨_, rfl, HX, hn, rfl⟩ | exact ⟨_, rfl, HX, hn, rfl, trivial⟩ | exact ⟨rfl, HX, hn⟩ | exact ⟨HX, hn, rfl⟩ | exact ⟨HX, hn⟩
  simp [Act.put] at hA
  subst hA
  obtain rfl := hv2
  refine Gro3.take0 1 (by kernel_rfl) ?_
  simp only [List.take, List.drop, List.length]
  repeat (go_big_quiet_step (fail))
  refine wpQuiet_nil ?_
  refine Gro3.nil ?_
  rintro w9 ⟨n9, rfl⟩ hG
  have hn := (HGB.out n9).2.2.2.2
  clear HFA HBA HGB HBB s0 s1 s2 s3 s4 s5 s6 s7 s8 s9 s10 s11 s12 s13 s14 s15
  replace HA := Lib.hid ((hn.block _ (lt_of_block HA.out)).trans HA.out)
  replace HO := Lib.hid ((hn.block _ (lt_of_block HO.out)).trans HO.out)
  replace HT := Lib.hid ((hn.block _ (lt_of_block HT.out)).trans HT.out)
  replace HP := Lib.hid ((hn.block _ (lt_of_block HP.out)).trans HP.out)
  replace HN := Lib.hid (HN.out.trans hn)
  clear hn hG HS3 HR3
  generalize g n9 = w9 at *
  have cn := cell_of_row _ _ 0 _ _ _ HA.out
  have cp := cell_of_row _ _ 3 _ _ _ HP.out
  have cs := cell_of_row _ _ 3 _ _ _ HA.out
  have cf := fun i => frozen_of_row _ _ i _ _ HA.out
  have hv := HV3.out
  go_wp2_with fail
  go_region
  clear cn cp cs cf hv HV3
  have h0 := heap_setCell_same w9 w.heap.size 3 _ _ (.int .u32 (W32 v3)) HA.out
  have ho := fun q (hq : q ≠ w.heap.size) => heap_setCell_other w9 ⟨w.heap.size, 3, none⟩ q (.int .u32 (W32 v3)) hq
  have h2 := (HN.out.setCell (p := ⟨w.heap.size, 3, none⟩) (Nat.le_refl _) (.int .u32 (W32 v3))).drew
  replace HA := Lib.hid (show ((w9.setCell ⟨w.heap.size, 3, none⟩ (.int .u32 (W32 v3))).drew).heap[w.heap.size]? = some (.cells #[.int .u32 (W32 v0), .int .u32 (W32 v1), .int .u32 (W32 v2), .int .u32 (W32 v3)] 52 (0, 0)) from h0)
  replace HO := Lib.hid (show ((w9.setCell ⟨w.heap.size, 3, none⟩ (.int .u32 (W32 v3))).drew).heap[w.heap.size + 1]? = _ from (ho _ (by omega)).trans HO.out)
  replace HT := Lib.hid (show ((w9.setCell ⟨w.heap.size, 3, none⟩ (.int .u32 (W32 v3))).drew).heap[qt]? = _ from (ho _ (by have := HLT.out; omega)).trans HT.out)
  replace HP := Lib.hid (show ((w9.setCell ⟨w.heap.size, 3, none⟩ (.int .u32 (W32 v3))).drew).heap[qp]? = _ from (ho _ (by have := HLP.out; omega)).trans HP.out)
  replace HN := Lib.hid h2
  clear h0 ho h2
  generalize (w9.setCell ⟨w.heap.size, 3, none⟩ (.int .u32 (W32 v3))).drew = w8 at *
  obtain ⟨w9, hw9⟩ : ∃ z, w8 = z := ⟨_, rfl⟩
  rw [hw9] at HA HO HN HT HP ⊢
  clear hw9 w8
  first | go_wp2_with fail | skip
  rw [rounds_succ]
  have z0 := cell_of_row _ _ 0 _ _ _ HO.out
  have c0 := cell_of_row _ _ 0 _ _ _ HA.out
  have z1 := cell_of_row _ _ 1 _ _ _ HO.out
  have c1 := cell_of_row _ _ 1 _ _ _ HA.out
  have z2 := cell_of_row _ _ 2 _ _ _ HO.out
  have c2 := cell_of_row _ _ 2 _ _ _ HA.out
  have z3 := cell_of_row _ _ 3 _ _ _ HO.out
  have c3 := cell_of_row _ _ 3 _ _ _ HA.out
  have zf := fun i => frozen_of_row _ _ i _ _ HO.out
  go_wp2
  refine bodyPost_ret (by simp [results, Try.results45, go_sem, z0, z1, z2, z3]; try rfl) rfl ?_
  exact ⟨rfl, ((((HN.out.setCell (by show w.heap.size ≤ w.heap.size + 1; omega) _).setCell (by show w.heap.size ≤ w.heap.size + 1; omega) _).setCell (by show w.heap.size ≤ w.heap.size + 1; omega) _).setCell (by show w.heap.size ≤ w.heap.size + 1; omega) _)⟩
end Go.Proofs.Ytnapogamcohfaaa
