/- Layer 30: the document's own End. -/
import Derived.Test.YtnapogamcohfaaaM30C
import Derived.Test.YtnapogamcohfaaaM30V
import Derived.Defers
import Derived.Recover
import Derived.Laws.Pointers
import Derived.Handy
import Derived.Laws.EntriesVeiled
import Derived.LoopN
import Derived.BigRegion
namespace Go.Proofs.Ytnapogamcohfaaa
open Go.RowKit Go.Bv
set_option linter.unusedVariables false
theorem or32 (x y : BitVec 32) : y.setWidth 64 * 4294967296#64 + x.setWidth 64 = x.setWidth 64 ||| y.setWidth 64 <<< 32 := by
  have e : (4294967296#64 : BitVec 64) = 1#64 <<< 32 := by decide
  rw [e, mul_shl, BitVec.or_comm]
  apply BitVec.add_eq_or_of_and_eq_zero
  apply BitVec.eq_of_getLsbD_eq
  intro i hi
  simp only [BitVec.getLsbD_and, BitVec.getLsbD_shiftLeft, BitVec.getLsbD_setWidth, hi, decide_true, Bool.true_and, BitVec.getLsbD_zero]
  by_cases h : i < 32
  · simp [h]
  · rw [BitVec.getLsbD_of_ge x i (by omega)]; simp
theorem lg32 (lg : BitVec 64) : (lg % 4294967296#64).setWidth 32 = lg.setWidth 32 := by
  apply BitVec.eq_of_toNat_eq
  rw [BitVec.toNat_setWidth, BitVec.toNat_setWidth, BitVec.toNat_umod]
  have e : (4294967296#64 : BitVec 64).toNat = 4294967296 := by decide
  rw [e]
  omega
set_option maxRecDepth 100000 in
set_option maxHeartbeats 8000000 in
theorem end_ref30 (sd : Value) (s : BitVec 32 × BitVec 32 × BitVec 32 × BitVec 32) (a : Option Addr) (n c : Nat) (tl : List (BitVec 8)) (lg : BitVec 64) (w : World) (h : BRow w a n c tl) :
    Calls Try.prog 22 #[sd, .agg #[.int .u64 (W64 ((s).1.setWidth 64)), .int .u64 (W64 ((s).2.1.setWidth 64)), .int .u64 (W64 ((s).2.2.1.setWidth 64)), .int .u64 (W64 ((s).2.2.2.setWidth 64))], .slice a n c, .int .u64 (W64 lg)] w fun e w' => e = .returned (.agg #[.int .u64 (W64 (end30 s tl lg).2), .int .u64 (W64 (end30 s tl lg).1)]) ∧ New w w' := by
  obtain ⟨s0, s1, s2, s3⟩ := s
  have hmo := h.most
  have sw0 := sw30 s0
  have sw1 := sw30 s1
  have sw2 := sw30 s2
  have sw3 := sw30 s3
  have hlg := lg32 lg
  unfold end30 endw30 out30 join30 fm30 xl30 xw30
  simp only
  obtain ⟨g0, hg⟩ : ∃ z, lg.setWidth 32 = z := ⟨_, rfl⟩
  rw [hg] at hlg ⊢
  clear hg
  have HLG := Lib.hid hlg
  clear hlg
  have HK0 := Lib.hid (fun w' (hn : New w w') => num_ref a n c tl 0 4 w' (h.stay hn) (by omega) (by omega))
  obtain ⟨k0, hk⟩ : ∃ z, rd tl 0 4 = z := ⟨_, rfl⟩
  rw [hk] at HK0 ⊢
  clear hk
  have HW0 := Lib.hid (word0_r k0)
  obtain ⟨y0, hy⟩ : ∃ z, sa30 (k0.setWidth 32) = z := ⟨_, rfl⟩
  rw [hy] at HW0 ⊢
  clear hy
  obtain ⟨z0, hz⟩ : ∃ z, s0 ^^^ y0 ^^^ g0 = z := ⟨_, rfl⟩
  have HX0 := Lib.hid hz
  rw [hz]
  clear hz
  have HK1 := Lib.hid (fun w' (hn : New w w') => num_ref a n c tl 4 4 w' (h.stay hn) (by omega) (by omega))
  obtain ⟨k1, hk⟩ : ∃ z, rd tl 4 4 = z := ⟨_, rfl⟩
  rw [hk] at HK1 ⊢
  clear hk
  have HW1 := Lib.hid (word1_r k1)
  obtain ⟨y1, hy⟩ : ∃ z, sb30 (k1.setWidth 32) = z := ⟨_, rfl⟩
  rw [hy] at HW1 ⊢
  clear hy
  obtain ⟨z1, hz⟩ : ∃ z, s1 ^^^ y1 ^^^ g0 = z := ⟨_, rfl⟩
  have HX1 := Lib.hid hz
  rw [hz]
  clear hz
  have HK2 := Lib.hid (fun w' (hn : New w w') => num_ref a n c tl 8 4 w' (h.stay hn) (by omega) (by omega))
  obtain ⟨k2, hk⟩ : ∃ z, rd tl 8 4 = z := ⟨_, rfl⟩
  rw [hk] at HK2 ⊢
  clear hk
  have HW2 := Lib.hid (word2_r k2)
  obtain ⟨y2, hy⟩ : ∃ z, sc30 (k2.setWidth 32) = z := ⟨_, rfl⟩
  rw [hy] at HW2 ⊢
  clear hy
  obtain ⟨z2, hz⟩ : ∃ z, s2 ^^^ y2 ^^^ g0 = z := ⟨_, rfl⟩
  have HX2 := Lib.hid hz
  rw [hz]
  clear hz
  have HK3 := Lib.hid (fun w' (hn : New w w') => num_ref a n c tl 12 4 w' (h.stay hn) (by omega) (by omega))
  obtain ⟨k3, hk⟩ : ∃ z, rd tl 12 4 = z := ⟨_, rfl⟩
  rw [hk] at HK3 ⊢
  clear hk
  have HW3 := Lib.hid (word3_r k3)
  obtain ⟨y3, hy⟩ : ∃ z, sd30 (k3.setWidth 32) = z := ⟨_, rfl⟩
  rw [hy] at HW3 ⊢
  clear hy
  obtain ⟨z3, hz⟩ : ∃ z, s3 ^^^ y3 ^^^ g0 = z := ⟨_, rfl⟩
  have HX3 := Lib.hid hz
  rw [hz]
  clear hz
  obtain ⟨j0, hq⟩ : ∃ z, z0 + z1 + z2 + z3 = z := ⟨_, rfl⟩
  have HJ0 := Lib.hid hq
  rw [hq]
  clear hq
  obtain ⟨j1, hq⟩ : ∃ z, z1 + j0 = z := ⟨_, rfl⟩
  have HJ1 := Lib.hid hq
  rw [hq]
  clear hq
  obtain ⟨j2, hq⟩ : ∃ z, z2 + j0 = z := ⟨_, rfl⟩
  have HJ2 := Lib.hid hq
  rw [hq]
  clear hq
  obtain ⟨j3, hq⟩ : ∃ z, z3 + j0 = z := ⟨_, rfl⟩
  have HJ3 := Lib.hid hq
  rw [hq]
  clear hq
  have HF0 := Lib.hid (fmix32r_n j0)
  obtain ⟨f0, hf⟩ : ∃ z, fmix32 j0 = z := ⟨_, rfl⟩
  rw [hf] at HF0 ⊢
  clear hf
  have HF1 := Lib.hid (fmix32r_n j1)
  obtain ⟨f1, hf⟩ : ∃ z, fmix32 j1 = z := ⟨_, rfl⟩
  rw [hf] at HF1 ⊢
  clear hf
  have HF2 := Lib.hid (fmix32r_n j2)
  obtain ⟨f2, hf⟩ : ∃ z, fmix32 j2 = z := ⟨_, rfl⟩
  rw [hf] at HF2 ⊢
  clear hf
  have HF3 := Lib.hid (fmix32r_n j3)
  obtain ⟨f3, hf⟩ : ∃ z, fmix32 j3 = z := ⟨_, rfl⟩
  rw [hf] at HF3 ⊢
  clear hf
  obtain ⟨o0, hq⟩ : ∃ z, f0 + f1 + f2 + f3 = z := ⟨_, rfl⟩
  have HP0 := Lib.hid hq
  rw [hq]
  clear hq
  obtain ⟨o1, hq⟩ : ∃ z, f1 + o0 = z := ⟨_, rfl⟩
  have HP1 := Lib.hid hq
  rw [hq]
  clear hq
  obtain ⟨o2, hq⟩ : ∃ z, f2 + o0 = z := ⟨_, rfl⟩
  have HP2 := Lib.hid hq
  rw [hq]
  clear hq
  obtain ⟨o3, hq⟩ : ∃ z, f3 + o0 = z := ⟨_, rfl⟩
  have HP3 := Lib.hid hq
  rw [hq]
  clear hq
  have HLO := Lib.hid (or32 o0 o1)
  have HHI := Lib.hid (or32 o2 o3)
  obtain ⟨lo, hq⟩ : ∃ z, o0.setWidth 64 ||| o1.setWidth 64 <<< 32 = z := ⟨_, rfl⟩
  rw [hq] at HLO ⊢
  clear hq
  obtain ⟨hi, hq⟩ : ∃ z, o2.setWidth 64 ||| o3.setWidth 64 <<< 32 = z := ⟨_, rfl⟩
  rw [hq] at HHI ⊢
  clear hq h hmo
  have HB := Lib.hid (three_all30 w (.cells #[.int .u64 (W64 (s0.setWidth 64)), .int .u64 (W64 (s1.setWidth 64)), .int .u64 (W64 (s2.setWidth 64)), .int .u64 (W64 (s3.setWidth 64))] 38) (.cells #[.int .u64 0, .int .u64 0] 27) (.cells #[.int .u32 0, .int .u32 0, .int .u32 0, .int .u32 0] 51))
  have HSW := Lib.hid (And.intro sw0 (And.intro sw1 (And.intro sw2 sw3)))
  clear sw0 sw1 sw2 sw3
  go_enter Try.func22, Try.ntmps22
  go_wp2_with fail
  refine wp_loop_rounds 5 ?_
  have HL := Lib.hid HB.out.1
  have HO := Lib.hid HB.out.2.1
  have HV := Lib.hid HB.out.2.2.1
  have HN := Lib.hid HB.out.2.2.2
  clear HB
  generalize ((w.alloc (.cells #[.int .u64 (W64 (s0.setWidth 64)), .int .u64 (W64 (s1.setWidth 64)), .int .u64 (W64 (s2.setWidth 64)), .int .u64 (W64 (s3.setWidth 64))] 38)).alloc (.cells #[.int .u64 0, .int .u64 0] 27)).alloc (.cells #[.int .u32 0, .int .u32 0, .int .u32 0, .int .u32 0] 51) = w9 at *
  rw [rounds_succ]
  go_wp2_with fail
  refine Gro3.wp_region_gro3S (fun w' => (∃ u0 u1 u2 u3 : Value, w'.heap[(w.heap.size + 1 + 1)]? = some (.cells #[u0, u1, u2, u3] 51 (0, 0))) ∧ w'.heap[w.heap.size]? = some (.cells #[.int .u64 (W64 (s0.setWidth 64)), .int .u64 (W64 (s1.setWidth 64)), .int .u64 (W64 (s2.setWidth 64)), .int .u64 (W64 (s3.setWidth 64))] 38 (0, 0)) ∧ w'.heap[w.heap.size + 1]? = some (.cells #[.int .u64 0, .int .u64 0] 27 (0, 0)) ∧ New w w') (fun w' => w'.heap[(w.heap.size + 1 + 1)]? = some (.cells #[.int .u32 0, .int .u32 0, .int .u32 0, .int .u32 0] 51 (0, 0)) ∧ w'.heap[w.heap.size]? = some (.cells #[.int .u64 (W64 (s0.setWidth 64)), .int .u64 (W64 (s1.setWidth 64)), .int .u64 (W64 (s2.setWidth 64)), .int .u64 (W64 (s3.setWidth 64))] 38 (0, 0)) ∧ w'.heap[w.heap.size + 1]? = some (.cells #[.int .u64 0, .int .u64 0] 27 (0, 0)) ∧ New w w') [0,0,0,1,0,0,0,0,2,0,2,0,0,0,0,0,0,3] New (fun _ _ _ => True) (by kernel_rfl) (by kernel_rfl) (by kernel_rfl) (fun _ _ _ _ _ _ => trivial) (fun w' hw' => ⟨⟨_, _, _, _, hw'.1⟩, hw'.2⟩) (⟨HV.out, HL.out, HO.out, HN.out.drew⟩) ?_
  intro I J _ _ f g hfa hba hgb hbb
  have HFA := Lib.hid hfa
  have HBA := Lib.hid hba
  have HGB := Lib.hid hgb
  have HBB := Lib.hid hbb
  have q0 := fun n => cell_of_row _ _ 0 _ _ _ (hgb n).2.1
  clear hfa hba hgb hbb
  refine Gro3.take0 3 (by kernel_rfl) ?_
  simp only [List.take, List.drop, List.length]
  repeat (go_big_quiet_step (fail))
  refine wpQuiet_nil ?_
  refine Gro3.take1 1 (by kernel_rfl) ?_
  simp only [List.take, List.drop, List.length]
  repeat (go_big_quiet_step (fail))
  refine wpQuiet_nil ?_
  have sw := HSW.out.1
  refine Gro3.take0 4 (by kernel_rfl) ?_
  simp only [List.take, List.drop, List.length]
  repeat (go_big_quiet_step (fail))
  refine wpQuiet_nil ?_
  clear sw
  refine Gro3.callt (fun v => v = .int .u64 (W64 k0)) (fun _ _ => True) rfl rfl (⟨_, rfl⟩) (fun _ _ _ _ _ => trivial) (fun w1 hB hG => ?_) (fun v1 A1 hv1 hA => ?_)
  · obtain ⟨nq, rfl⟩ := hB
    clear q0
    go_simp
    refine (HK0.out _ (HGB.out nq).2.2.2).mono ?_
    rintro e w2 ⟨rfl, rfl⟩
    first | exact ⟨_, rfl, ⟨nq, rfl⟩, New.refl _, rfl⟩ | exact ⟨_, rfl, ⟨nq, rfl⟩, New.refl _, rfl, trivial⟩ | exact ⟨⟨nq, rfl⟩, New.refl _⟩
  simp [Act.put] at hA
  subst hA
  obtain rfl := hv1
  refine Gro3.take0 1 (by kernel_rfl) ?_
  simp only [List.take, List.drop, List.length]
  repeat (go_big_quiet_step (fail))
  refine wpQuiet_nil ?_
  refine Gro3.callt (fun v => v = .int .u32 (W32 y0)) (fun _ _ => True) rfl rfl (⟨_, rfl⟩) (fun _ _ _ _ _ => trivial) (fun w1 hB hG => ?_) (fun v2 A2 hv2 hA => ?_)
  · obtain ⟨nq, rfl⟩ := hB
    clear q0
    go_simp
    refine (HW0.out _).mono ?_
    rintro e w2 ⟨rfl, hn⟩
    have HX := HBB.out _ ⟨(hn.block _ (lt_of_block (HGB.out nq).1)).trans (HGB.out nq).1, (hn.block _ (lt_of_block (HGB.out nq).2.1)).trans (HGB.out nq).2.1, (hn.block _ (lt_of_block (HGB.out nq).2.2.1)).trans (HGB.out nq).2.2.1, (HGB.out nq).2.2.2.trans hn⟩
    first | exact ⟨_, rfl, HX, hn, rfl⟩ | exact ⟨_, rfl, HX, hn, rfl, trivial⟩ | exact ⟨rfl, HX, hn⟩ | exact ⟨HX, hn, rfl⟩ | exact ⟨HX, hn⟩
  simp [Act.put] at hA
  subst hA
  obtain rfl := hv2
  have hv := HX0.out
  have hlg := HLG.out
  refine Gro3.take0 6 (by kernel_rfl) ?_
  simp only [List.take, List.drop, List.length]
  repeat (go_big_quiet_step (fail))
  refine wpQuiet_nil ?_
  clear hv hlg
  refine Gro3.turn (fun v => v = undef) (fun _ w9 => Lies w9 (w.heap.size + 1 + 1) (.cells #[.int .u32 (W32 z0), .int .u32 0, .int .u32 0, .int .u32 0] 51 (0, 0))) rfl rfl ⟨_, rfl⟩ (fun w1 hB hG => ?_) (fun v3 A3 hv3 hA => ?_)
  · obtain ⟨nq, rfl⟩ : ∃ nq, w1 = g nq := hB
    have HX := Lib.hid (HGB.out nq)
    have c0 := cell_of_row _ _ 0 _ _ _ HX.out.1
    have cf := fun i => frozen_of_row _ _ i _ _ HX.out.1
    have h0 := heap_setCell_same _ (w.heap.size + 1 + 1) 0 _ _ (.int .u32 (W32 z0)) HX.out.1
    have HLI := Lib.hid (show Lies _ _ _ from h0)
    have HOT := Lib.hid (fun q (hq : q ≠ (w.heap.size + 1 + 1)) => heap_setCell_other (g nq) ⟨(w.heap.size + 1 + 1), 0, none⟩ q (.int .u32 (W32 z0)) hq)
    clear h0 q0
    go_simp
    exact ⟨HBA.out _ ⟨⟨_, _, _, _, HLI.out⟩, (HOT.out _ (by omega)).trans HX.out.2.1, (HOT.out _ (by omega)).trans HX.out.2.2.1, HX.out.2.2.2.setCell (by show w.heap.size ≤ w.heap.size + 1 + 1; omega) _⟩, HLI.out⟩
  simp [Act.put] at hA
  subst hA
  refine Gro3.nil ?_
  rintro w11 ⟨n9, rfl⟩ hG
  have hF := HFA.out n9
  replace HV := Lib.hid (show (f n9).heap[(w.heap.size + 1 + 1)]? = _ from hG)
  replace HL := Lib.hid hF.2.1
  replace HO := Lib.hid hF.2.2.1
  replace HN := Lib.hid hF.2.2.2
  clear HFA HBA HGB HBB hG hF q0 HK0 HW0 HX0
  generalize f n9 = w9 at *
  first | go_wp2_with fail | skip
  rw [rounds_succ]
  go_wp2_with fail
  refine Gro3.wp_region_gro3S (fun w' => (∃ u0 u1 u2 u3 : Value, w'.heap[(w.heap.size + 1 + 1)]? = some (.cells #[u0, u1, u2, u3] 51 (0, 0))) ∧ w'.heap[w.heap.size]? = some (.cells #[.int .u64 (W64 (s0.setWidth 64)), .int .u64 (W64 (s1.setWidth 64)), .int .u64 (W64 (s2.setWidth 64)), .int .u64 (W64 (s3.setWidth 64))] 38 (0, 0)) ∧ w'.heap[w.heap.size + 1]? = some (.cells #[.int .u64 0, .int .u64 0] 27 (0, 0)) ∧ New w w') (fun w' => w'.heap[(w.heap.size + 1 + 1)]? = some (.cells #[.int .u32 (W32 z0), .int .u32 0, .int .u32 0, .int .u32 0] 51 (0, 0)) ∧ w'.heap[w.heap.size]? = some (.cells #[.int .u64 (W64 (s0.setWidth 64)), .int .u64 (W64 (s1.setWidth 64)), .int .u64 (W64 (s2.setWidth 64)), .int .u64 (W64 (s3.setWidth 64))] 38 (0, 0)) ∧ w'.heap[w.heap.size + 1]? = some (.cells #[.int .u64 0, .int .u64 0] 27 (0, 0)) ∧ New w w') [0,0,0,1,0,0,0,0,2,0,2,0,0,0,0,0,0,3] New (fun _ _ _ => True) (by kernel_rfl) (by kernel_rfl) (by kernel_rfl) (fun _ _ _ _ _ _ => trivial) (fun w' hw' => ⟨⟨_, _, _, _, hw'.1⟩, hw'.2⟩) (⟨HV.out, HL.out, HO.out, HN.out.drew⟩) ?_
  intro I J _ _ f g hfa hba hgb hbb
  have HFA := Lib.hid hfa
  have HBA := Lib.hid hba
  have HGB := Lib.hid hgb
  have HBB := Lib.hid hbb
  have q0 := fun n => cell_of_row _ _ 1 _ _ _ (hgb n).2.1
  clear hfa hba hgb hbb
  refine Gro3.take0 3 (by kernel_rfl) ?_
  simp only [List.take, List.drop, List.length]
  repeat (go_big_quiet_step (fail))
  refine wpQuiet_nil ?_
  refine Gro3.take1 1 (by kernel_rfl) ?_
  simp only [List.take, List.drop, List.length]
  repeat (go_big_quiet_step (fail))
  refine wpQuiet_nil ?_
  have sw := HSW.out.2.1
  refine Gro3.take0 4 (by kernel_rfl) ?_
  simp only [List.take, List.drop, List.length]
  repeat (go_big_quiet_step (fail))
  refine wpQuiet_nil ?_
  clear sw
  refine Gro3.callt (fun v => v = .int .u64 (W64 k1)) (fun _ _ => True) rfl rfl (⟨_, rfl⟩) (fun _ _ _ _ _ => trivial) (fun w1 hB hG => ?_) (fun v1 A1 hv1 hA => ?_)
  · obtain ⟨nq, rfl⟩ := hB
    clear q0
    go_simp
    refine (HK1.out _ (HGB.out nq).2.2.2).mono ?_
    rintro e w2 ⟨rfl, rfl⟩
    first | exact ⟨_, rfl, ⟨nq, rfl⟩, New.refl _, rfl⟩ | exact ⟨_, rfl, ⟨nq, rfl⟩, New.refl _, rfl, trivial⟩ | exact ⟨⟨nq, rfl⟩, New.refl _⟩
  simp [Act.put] at hA
  subst hA
  obtain rfl := hv1
  refine Gro3.take0 1 (by kernel_rfl) ?_
  simp only [List.take, List.drop, List.length]
  repeat (go_big_quiet_step (fail))
  refine wpQuiet_nil ?_
  refine Gro3.callt (fun v => v = .int .u32 (W32 y1)) (fun _ _ => True) rfl rfl (⟨_, rfl⟩) (fun _ _ _ _ _ => trivial) (fun w1 hB hG => ?_) (fun v2 A2 hv2 hA => ?_)
  · obtain ⟨nq, rfl⟩ := hB
    clear q0
    go_simp
    refine (HW1.out _).mono ?_
    rintro e w2 ⟨rfl, hn⟩
    have HX := HBB.out _ ⟨(hn.block _ (lt_of_block (HGB.out nq).1)).trans (HGB.out nq).1, (hn.block _ (lt_of_block (HGB.out nq).2.1)).trans (HGB.out nq).2.1, (hn.block _ (lt_of_block (HGB.out nq).2.2.1)).trans (HGB.out nq).2.2.1, (HGB.out nq).2.2.2.trans hn⟩
    first | exact ⟨_, rfl, HX, hn, rfl⟩ | exact ⟨_, rfl, HX, hn, rfl, trivial⟩ | exact ⟨rfl, HX, hn⟩ | exact ⟨HX, hn, rfl⟩ | exact ⟨HX, hn⟩
  simp [Act.put] at hA
  subst hA
  obtain rfl := hv2
  have hv := HX1.out
  have hlg := HLG.out
  refine Gro3.take0 6 (by kernel_rfl) ?_
  simp only [List.take, List.drop, List.length]
  repeat (go_big_quiet_step (fail))
  refine wpQuiet_nil ?_
  clear hv hlg
  refine Gro3.turn (fun v => v = undef) (fun _ w9 => Lies w9 (w.heap.size + 1 + 1) (.cells #[.int .u32 (W32 z0), .int .u32 (W32 z1), .int .u32 0, .int .u32 0] 51 (0, 0))) rfl rfl ⟨_, rfl⟩ (fun w1 hB hG => ?_) (fun v3 A3 hv3 hA => ?_)
  · obtain ⟨nq, rfl⟩ : ∃ nq, w1 = g nq := hB
    have HX := Lib.hid (HGB.out nq)
    have c0 := cell_of_row _ _ 1 _ _ _ HX.out.1
    have cf := fun i => frozen_of_row _ _ i _ _ HX.out.1
    have h0 := heap_setCell_same _ (w.heap.size + 1 + 1) 1 _ _ (.int .u32 (W32 z1)) HX.out.1
    have HLI := Lib.hid (show Lies _ _ _ from h0)
    have HOT := Lib.hid (fun q (hq : q ≠ (w.heap.size + 1 + 1)) => heap_setCell_other (g nq) ⟨(w.heap.size + 1 + 1), 1, none⟩ q (.int .u32 (W32 z1)) hq)
    clear h0 q0
    go_simp
    exact ⟨HBA.out _ ⟨⟨_, _, _, _, HLI.out⟩, (HOT.out _ (by omega)).trans HX.out.2.1, (HOT.out _ (by omega)).trans HX.out.2.2.1, HX.out.2.2.2.setCell (by show w.heap.size ≤ w.heap.size + 1 + 1; omega) _⟩, HLI.out⟩
  simp [Act.put] at hA
  subst hA
  refine Gro3.nil ?_
  rintro w11 ⟨n9, rfl⟩ hG
  have hF := HFA.out n9
  replace HV := Lib.hid (show (f n9).heap[(w.heap.size + 1 + 1)]? = _ from hG)
  replace HL := Lib.hid hF.2.1
  replace HO := Lib.hid hF.2.2.1
  replace HN := Lib.hid hF.2.2.2
  clear HFA HBA HGB HBB hG hF q0 HK1 HW1 HX1
  generalize f n9 = w9 at *
  first | go_wp2_with fail | skip
  rw [rounds_succ]
  go_wp2_with fail
  refine Gro3.wp_region_gro3S (fun w' => (∃ u0 u1 u2 u3 : Value, w'.heap[(w.heap.size + 1 + 1)]? = some (.cells #[u0, u1, u2, u3] 51 (0, 0))) ∧ w'.heap[w.heap.size]? = some (.cells #[.int .u64 (W64 (s0.setWidth 64)), .int .u64 (W64 (s1.setWidth 64)), .int .u64 (W64 (s2.setWidth 64)), .int .u64 (W64 (s3.setWidth 64))] 38 (0, 0)) ∧ w'.heap[w.heap.size + 1]? = some (.cells #[.int .u64 0, .int .u64 0] 27 (0, 0)) ∧ New w w') (fun w' => w'.heap[(w.heap.size + 1 + 1)]? = some (.cells #[.int .u32 (W32 z0), .int .u32 (W32 z1), .int .u32 0, .int .u32 0] 51 (0, 0)) ∧ w'.heap[w.heap.size]? = some (.cells #[.int .u64 (W64 (s0.setWidth 64)), .int .u64 (W64 (s1.setWidth 64)), .int .u64 (W64 (s2.setWidth 64)), .int .u64 (W64 (s3.setWidth 64))] 38 (0, 0)) ∧ w'.heap[w.heap.size + 1]? = some (.cells #[.int .u64 0, .int .u64 0] 27 (0, 0)) ∧ New w w') [0,0,0,1,0,0,0,0,2,0,2,0,0,0,0,0,0,3] New (fun _ _ _ => True) (by kernel_rfl) (by kernel_rfl) (by kernel_rfl) (fun _ _ _ _ _ _ => trivial) (fun w' hw' => ⟨⟨_, _, _, _, hw'.1⟩, hw'.2⟩) (⟨HV.out, HL.out, HO.out, HN.out.drew⟩) ?_
  intro I J _ _ f g hfa hba hgb hbb
  have HFA := Lib.hid hfa
  have HBA := Lib.hid hba
  have HGB := Lib.hid hgb
  have HBB := Lib.hid hbb
  have q0 := fun n => cell_of_row _ _ 2 _ _ _ (hgb n).2.1
  clear hfa hba hgb hbb
  refine Gro3.take0 3 (by kernel_rfl) ?_
  simp only [List.take, List.drop, List.length]
  repeat (go_big_quiet_step (fail))
  refine wpQuiet_nil ?_
  refine Gro3.take1 1 (by kernel_rfl) ?_
  simp only [List.take, List.drop, List.length]
  repeat (go_big_quiet_step (fail))
  refine wpQuiet_nil ?_
  have sw := HSW.out.2.2.1
  refine Gro3.take0 4 (by kernel_rfl) ?_
  simp only [List.take, List.drop, List.length]
  repeat (go_big_quiet_step (fail))
  refine wpQuiet_nil ?_
  clear sw
  refine Gro3.callt (fun v => v = .int .u64 (W64 k2)) (fun _ _ => True) rfl rfl (⟨_, rfl⟩) (fun _ _ _ _ _ => trivial) (fun w1 hB hG => ?_) (fun v1 A1 hv1 hA => ?_)
  · obtain ⟨nq, rfl⟩ := hB
    clear q0
    go_simp
    refine (HK2.out _ (HGB.out nq).2.2.2).mono ?_
    rintro e w2 ⟨rfl, rfl⟩
    first | exact ⟨_, rfl, ⟨nq, rfl⟩, New.refl _, rfl⟩ | exact ⟨_, rfl, ⟨nq, rfl⟩, New.refl _, rfl, trivial⟩ | exact ⟨⟨nq, rfl⟩, New.refl _⟩
  simp [Act.put] at hA
  subst hA
  obtain rfl := hv1
  refine Gro3.take0 1 (by kernel_rfl) ?_
  simp only [List.take, List.drop, List.length]
  repeat (go_big_quiet_step (fail))
  refine wpQuiet_nil ?_
  refine Gro3.callt (fun v => v = .int .u32 (W32 y2)) (fun _ _ => True) rfl rfl (⟨_, rfl⟩) (fun _ _ _ _ _ => trivial) (fun w1 hB hG => ?_) (fun v2 A2 hv2 hA => ?_)
  · obtain ⟨nq, rfl⟩ := hB
    clear q0
    go_simp
    refine (HW2.out _).mono ?_
    rintro e w2 ⟨rfl, hn⟩
    have HX := HBB.out _ ⟨(hn.block _ (lt_of_block (HGB.out nq).1)).trans (HGB.out nq).1, (hn.block _ (lt_of_block (HGB.out nq).2.1)).trans (HGB.out nq).2.1, (hn.block _ (lt_of_block (HGB.out nq).2.2.1)).trans (HGB.out nq).2.2.1, (HGB.out nq).2.2.2.trans hn⟩
    first | exact ⟨_, rfl, HX, hn, rfl⟩ | exact ⟨_, rfl, HX, hn, rfl, trivial⟩ | exact ⟨rfl, HX, hn⟩ | exact ⟨HX, hn, rfl⟩ | exact ⟨HX, hn⟩
  simp [Act.put] at hA
  subst hA
  obtain rfl := hv2
  have hv := HX2.out
  have hlg := HLG.out
  refine Gro3.take0 6 (by kernel_rfl) ?_
  simp only [List.take, List.drop, List.length]
  repeat (go_big_quiet_step (fail))
  refine wpQuiet_nil ?_
  clear hv hlg
  refine Gro3.turn (fun v => v = undef) (fun _ w9 => Lies w9 (w.heap.size + 1 + 1) (.cells #[.int .u32 (W32 z0), .int .u32 (W32 z1), .int .u32 (W32 z2), .int .u32 0] 51 (0, 0))) rfl rfl ⟨_, rfl⟩ (fun w1 hB hG => ?_) (fun v3 A3 hv3 hA => ?_)
  · obtain ⟨nq, rfl⟩ : ∃ nq, w1 = g nq := hB
    have HX := Lib.hid (HGB.out nq)
    have c0 := cell_of_row _ _ 2 _ _ _ HX.out.1
    have cf := fun i => frozen_of_row _ _ i _ _ HX.out.1
    have h0 := heap_setCell_same _ (w.heap.size + 1 + 1) 2 _ _ (.int .u32 (W32 z2)) HX.out.1
    have HLI := Lib.hid (show Lies _ _ _ from h0)
    have HOT := Lib.hid (fun q (hq : q ≠ (w.heap.size + 1 + 1)) => heap_setCell_other (g nq) ⟨(w.heap.size + 1 + 1), 2, none⟩ q (.int .u32 (W32 z2)) hq)
    clear h0 q0
    go_simp
    exact ⟨HBA.out _ ⟨⟨_, _, _, _, HLI.out⟩, (HOT.out _ (by omega)).trans HX.out.2.1, (HOT.out _ (by omega)).trans HX.out.2.2.1, HX.out.2.2.2.setCell (by show w.heap.size ≤ w.heap.size + 1 + 1; omega) _⟩, HLI.out⟩
  simp [Act.put] at hA
  subst hA
  refine Gro3.nil ?_
  rintro w11 ⟨n9, rfl⟩ hG
  have hF := HFA.out n9
  replace HV := Lib.hid (show (f n9).heap[(w.heap.size + 1 + 1)]? = _ from hG)
  replace HL := Lib.hid hF.2.1
  replace HO := Lib.hid hF.2.2.1
  replace HN := Lib.hid hF.2.2.2
  clear HFA HBA HGB HBB hG hF q0 HK2 HW2 HX2
  generalize f n9 = w9 at *
  first | go_wp2_with fail | skip
  rw [rounds_succ]
  go_wp2_with fail
  refine Gro3.wp_region_gro3S (fun w' => (∃ u0 u1 u2 u3 : Value, w'.heap[(w.heap.size + 1 + 1)]? = some (.cells #[u0, u1, u2, u3] 51 (0, 0))) ∧ w'.heap[w.heap.size]? = some (.cells #[.int .u64 (W64 (s0.setWidth 64)), .int .u64 (W64 (s1.setWidth 64)), .int .u64 (W64 (s2.setWidth 64)), .int .u64 (W64 (s3.setWidth 64))] 38 (0, 0)) ∧ w'.heap[w.heap.size + 1]? = some (.cells #[.int .u64 0, .int .u64 0] 27 (0, 0)) ∧ New w w') (fun w' => w'.heap[(w.heap.size + 1 + 1)]? = some (.cells #[.int .u32 (W32 z0), .int .u32 (W32 z1), .int .u32 (W32 z2), .int .u32 0] 51 (0, 0)) ∧ w'.heap[w.heap.size]? = some (.cells #[.int .u64 (W64 (s0.setWidth 64)), .int .u64 (W64 (s1.setWidth 64)), .int .u64 (W64 (s2.setWidth 64)), .int .u64 (W64 (s3.setWidth 64))] 38 (0, 0)) ∧ w'.heap[w.heap.size + 1]? = some (.cells #[.int .u64 0, .int .u64 0] 27 (0, 0)) ∧ New w w') [0,0,0,1,0,0,0,0,2,0,2,0,0,0,0,0,0,3] New (fun _ _ _ => True) (by kernel_rfl) (by kernel_rfl) (by kernel_rfl) (fun _ _ _ _ _ _ => trivial) (fun w' hw' => ⟨⟨_, _, _, _, hw'.1⟩, hw'.2⟩) (⟨HV.out, HL.out, HO.out, HN.out.drew⟩) ?_
  intro I J _ _ f g hfa hba hgb hbb
  have HFA := Lib.hid hfa
  have HBA := Lib.hid hba
  have HGB := Lib.hid hgb
  have HBB := Lib.hid hbb
  have q0 := fun n => cell_of_row _ _ 3 _ _ _ (hgb n).2.1
  clear hfa hba hgb hbb
  refine Gro3.take0 3 (by kernel_rfl) ?_
  simp only [List.take, List.drop, List.length]
  repeat (go_big_quiet_step (fail))
  refine wpQuiet_nil ?_
  refine Gro3.take1 1 (by kernel_rfl) ?_
  simp only [List.take, List.drop, List.length]
  repeat (go_big_quiet_step (fail))
  refine wpQuiet_nil ?_
  have sw := HSW.out.2.2.2
  refine Gro3.take0 4 (by kernel_rfl) ?_
  simp only [List.take, List.drop, List.length]
  repeat (go_big_quiet_step (fail))
  refine wpQuiet_nil ?_
  clear sw
  refine Gro3.callt (fun v => v = .int .u64 (W64 k3)) (fun _ _ => True) rfl rfl (⟨_, rfl⟩) (fun _ _ _ _ _ => trivial) (fun w1 hB hG => ?_) (fun v1 A1 hv1 hA => ?_)
  · obtain ⟨nq, rfl⟩ := hB
    clear q0
    go_simp
    refine (HK3.out _ (HGB.out nq).2.2.2).mono ?_
    rintro e w2 ⟨rfl, rfl⟩
    first | exact ⟨_, rfl, ⟨nq, rfl⟩, New.refl _, rfl⟩ | exact ⟨_, rfl, ⟨nq, rfl⟩, New.refl _, rfl, trivial⟩ | exact ⟨⟨nq, rfl⟩, New.refl _⟩
  simp [Act.put] at hA
  subst hA
  obtain rfl := hv1
  refine Gro3.take0 1 (by kernel_rfl) ?_
  simp only [List.take, List.drop, List.length]
  repeat (go_big_quiet_step (fail))
  refine wpQuiet_nil ?_
  refine Gro3.callt (fun v => v = .int .u32 (W32 y3)) (fun _ _ => True) rfl rfl (⟨_, rfl⟩) (fun _ _ _ _ _ => trivial) (fun w1 hB hG => ?_) (fun v2 A2 hv2 hA => ?_)
  · obtain ⟨nq, rfl⟩ := hB
    clear q0
    go_simp
    refine (HW3.out _).mono ?_
    rintro e w2 ⟨rfl, hn⟩
    have HX := HBB.out _ ⟨(hn.block _ (lt_of_block (HGB.out nq).1)).trans (HGB.out nq).1, (hn.block _ (lt_of_block (HGB.out nq).2.1)).trans (HGB.out nq).2.1, (hn.block _ (lt_of_block (HGB.out nq).2.2.1)).trans (HGB.out nq).2.2.1, (HGB.out nq).2.2.2.trans hn⟩
    first | exact ⟨_, rfl, HX, hn, rfl⟩ | exact ⟨_, rfl, HX, hn, rfl, trivial⟩ | exact ⟨rfl, HX, hn⟩ | exact ⟨HX, hn, rfl⟩ | exact ⟨HX, hn⟩
  simp [Act.put] at hA
  subst hA
  obtain rfl := hv2
  have hv := HX3.out
  have hlg := HLG.out
  refine Gro3.take0 6 (by kernel_rfl) ?_
  simp only [List.take, List.drop, List.length]
  repeat (go_big_quiet_step (fail))
  refine wpQuiet_nil ?_
  clear hv hlg
  refine Gro3.turn (fun v => v = undef) (fun _ w9 => Lies w9 (w.heap.size + 1 + 1) (.cells #[.int .u32 (W32 z0), .int .u32 (W32 z1), .int .u32 (W32 z2), .int .u32 (W32 z3)] 51 (0, 0))) rfl rfl ⟨_, rfl⟩ (fun w1 hB hG => ?_) (fun v3 A3 hv3 hA => ?_)
  · obtain ⟨nq, rfl⟩ : ∃ nq, w1 = g nq := hB
    have HX := Lib.hid (HGB.out nq)
    have c0 := cell_of_row _ _ 3 _ _ _ HX.out.1
    have cf := fun i => frozen_of_row _ _ i _ _ HX.out.1
    have h0 := heap_setCell_same _ (w.heap.size + 1 + 1) 3 _ _ (.int .u32 (W32 z3)) HX.out.1
    have HLI := Lib.hid (show Lies _ _ _ from h0)
    have HOT := Lib.hid (fun q (hq : q ≠ (w.heap.size + 1 + 1)) => heap_setCell_other (g nq) ⟨(w.heap.size + 1 + 1), 3, none⟩ q (.int .u32 (W32 z3)) hq)
    clear h0 q0
    go_simp
    exact ⟨HBA.out _ ⟨⟨_, _, _, _, HLI.out⟩, (HOT.out _ (by omega)).trans HX.out.2.1, (HOT.out _ (by omega)).trans HX.out.2.2.1, HX.out.2.2.2.setCell (by show w.heap.size ≤ w.heap.size + 1 + 1; omega) _⟩, HLI.out⟩
  simp [Act.put] at hA
  subst hA
  refine Gro3.nil ?_
  rintro w11 ⟨n9, rfl⟩ hG
  have hF := HFA.out n9
  replace HV := Lib.hid (show (f n9).heap[(w.heap.size + 1 + 1)]? = _ from hG)
  replace HL := Lib.hid hF.2.1
  replace HO := Lib.hid hF.2.2.1
  replace HN := Lib.hid hF.2.2.2
  clear HFA HBA HGB HBB hG hF q0 HK3 HW3 HX3
  generalize f n9 = w9 at *
  first | go_wp2_with fail | skip
  rw [rounds_succ]
  clear HL HSW HLG
  go_wp2_with fail
  refine wp_loop_rounds 3 ?_
  rw [rounds_succ]
  have c0 := cell_of_row _ _ 0 _ _ _ HV.out
  have c1 := cell_of_row _ _ 1 _ _ _ HV.out
  have c2 := cell_of_row _ _ 2 _ _ _ HV.out
  have c3 := cell_of_row _ _ 3 _ _ _ HV.out
  have cf := fun i => frozen_of_row _ _ i _ _ HV.out
  have hv := HJ0.out
  go_wp2_with fail
  clear c0 c1 c2 c3 cf hv
  refine wp_loop_rounds 4 ?_
  have h0 := heap_setCell_same w9 (w.heap.size + 1 + 1) 0 _ _ (.int .u32 (W32 j0)) HV.out
  have ho := heap_setCell_other w9 ⟨w.heap.size + 1 + 1, 0, none⟩ (w.heap.size + 1) (.int .u32 (W32 j0)) (by show w.heap.size + 1 ≠ w.heap.size + 1 + 1; omega)
  have h2 := (HN.out.setCell (p := ⟨w.heap.size + 1 + 1, 0, none⟩) (by show w.heap.size ≤ w.heap.size + 1 + 1; omega) (.int .u32 (W32 j0)))
  replace HV := Lib.hid (show ((w9.setCell ⟨w.heap.size + 1 + 1, 0, none⟩ (.int .u32 (W32 j0)))).heap[w.heap.size + 1 + 1]? = some (.cells #[.int .u32 (W32 j0), .int .u32 (W32 z1), .int .u32 (W32 z2), .int .u32 (W32 z3)] 51 (0, 0)) from h0)
  replace HO := Lib.hid (show ((w9.setCell ⟨w.heap.size + 1 + 1, 0, none⟩ (.int .u32 (W32 j0)))).heap[w.heap.size + 1]? = _ from ho.trans HO.out)
  replace HN := Lib.hid h2
  clear h0 ho h2
  generalize (w9.setCell ⟨w.heap.size + 1 + 1, 0, none⟩ (.int .u32 (W32 j0))) = w8 at *
  obtain ⟨w9, hw9⟩ : ∃ z, w8 = z := ⟨_, rfl⟩
  rw [hw9] at HV HO HN ⊢
  clear hw9 w8
  rw [rounds_succ]
  have c0 := cell_of_row _ _ 0 _ _ _ HV.out
  have c1 := cell_of_row _ _ 1 _ _ _ HV.out
  have cf := fun i => frozen_of_row _ _ i _ _ HV.out
  have hv := HJ1.out
  go_wp2_with fail
  go_region
  clear c0 c1 cf hv
  have h0 := heap_setCell_same w9 (w.heap.size + 1 + 1) 1 _ _ (.int .u32 (W32 j1)) HV.out
  have ho := heap_setCell_other w9 ⟨w.heap.size + 1 + 1, 1, none⟩ (w.heap.size + 1) (.int .u32 (W32 j1)) (by show w.heap.size + 1 ≠ w.heap.size + 1 + 1; omega)
  have h2 := (HN.out.setCell (p := ⟨w.heap.size + 1 + 1, 1, none⟩) (by show w.heap.size ≤ w.heap.size + 1 + 1; omega) (.int .u32 (W32 j1))).drew
  replace HV := Lib.hid (show ((w9.setCell ⟨w.heap.size + 1 + 1, 1, none⟩ (.int .u32 (W32 j1))).drew).heap[w.heap.size + 1 + 1]? = some (.cells #[.int .u32 (W32 j0), .int .u32 (W32 j1), .int .u32 (W32 z2), .int .u32 (W32 z3)] 51 (0, 0)) from h0)
  replace HO := Lib.hid (show ((w9.setCell ⟨w.heap.size + 1 + 1, 1, none⟩ (.int .u32 (W32 j1))).drew).heap[w.heap.size + 1]? = _ from ho.trans HO.out)
  replace HN := Lib.hid h2
  clear h0 ho h2
  generalize (w9.setCell ⟨w.heap.size + 1 + 1, 1, none⟩ (.int .u32 (W32 j1))).drew = w8 at *
  obtain ⟨w9, hw9⟩ : ∃ z, w8 = z := ⟨_, rfl⟩
  rw [hw9] at HV HO HN ⊢
  clear hw9 w8
  first | go_wp2_with fail | skip
  rw [rounds_succ]
  have c0 := cell_of_row _ _ 0 _ _ _ HV.out
  have c2 := cell_of_row _ _ 2 _ _ _ HV.out
  have cf := fun i => frozen_of_row _ _ i _ _ HV.out
  have hv := HJ2.out
  go_wp2_with fail
  go_region
  clear c0 c2 cf hv
  have h0 := heap_setCell_same w9 (w.heap.size + 1 + 1) 2 _ _ (.int .u32 (W32 j2)) HV.out
  have ho := heap_setCell_other w9 ⟨w.heap.size + 1 + 1, 2, none⟩ (w.heap.size + 1) (.int .u32 (W32 j2)) (by show w.heap.size + 1 ≠ w.heap.size + 1 + 1; omega)
  have h2 := (HN.out.setCell (p := ⟨w.heap.size + 1 + 1, 2, none⟩) (by show w.heap.size ≤ w.heap.size + 1 + 1; omega) (.int .u32 (W32 j2))).drew
  replace HV := Lib.hid (show ((w9.setCell ⟨w.heap.size + 1 + 1, 2, none⟩ (.int .u32 (W32 j2))).drew).heap[w.heap.size + 1 + 1]? = some (.cells #[.int .u32 (W32 j0), .int .u32 (W32 j1), .int .u32 (W32 j2), .int .u32 (W32 z3)] 51 (0, 0)) from h0)
  replace HO := Lib.hid (show ((w9.setCell ⟨w.heap.size + 1 + 1, 2, none⟩ (.int .u32 (W32 j2))).drew).heap[w.heap.size + 1]? = _ from ho.trans HO.out)
  replace HN := Lib.hid h2
  clear h0 ho h2
  generalize (w9.setCell ⟨w.heap.size + 1 + 1, 2, none⟩ (.int .u32 (W32 j2))).drew = w8 at *
  obtain ⟨w9, hw9⟩ : ∃ z, w8 = z := ⟨_, rfl⟩
  rw [hw9] at HV HO HN ⊢
  clear hw9 w8
  first | go_wp2_with fail | skip
  rw [rounds_succ]
  have c0 := cell_of_row _ _ 0 _ _ _ HV.out
  have c3 := cell_of_row _ _ 3 _ _ _ HV.out
  have cf := fun i => frozen_of_row _ _ i _ _ HV.out
  have hv := HJ3.out
  go_wp2_with fail
  go_region
  clear c0 c3 cf hv
  have h0 := heap_setCell_same w9 (w.heap.size + 1 + 1) 3 _ _ (.int .u32 (W32 j3)) HV.out
  have ho := heap_setCell_other w9 ⟨w.heap.size + 1 + 1, 3, none⟩ (w.heap.size + 1) (.int .u32 (W32 j3)) (by show w.heap.size + 1 ≠ w.heap.size + 1 + 1; omega)
  have h2 := (HN.out.setCell (p := ⟨w.heap.size + 1 + 1, 3, none⟩) (by show w.heap.size ≤ w.heap.size + 1 + 1; omega) (.int .u32 (W32 j3))).drew
  replace HV := Lib.hid (show ((w9.setCell ⟨w.heap.size + 1 + 1, 3, none⟩ (.int .u32 (W32 j3))).drew).heap[w.heap.size + 1 + 1]? = some (.cells #[.int .u32 (W32 j0), .int .u32 (W32 j1), .int .u32 (W32 j2), .int .u32 (W32 j3)] 51 (0, 0)) from h0)
  replace HO := Lib.hid (show ((w9.setCell ⟨w.heap.size + 1 + 1, 3, none⟩ (.int .u32 (W32 j3))).drew).heap[w.heap.size + 1]? = _ from ho.trans HO.out)
  replace HN := Lib.hid h2
  clear h0 ho h2
  generalize (w9.setCell ⟨w.heap.size + 1 + 1, 3, none⟩ (.int .u32 (W32 j3))).drew = w8 at *
  obtain ⟨w9, hw9⟩ : ∃ z, w8 = z := ⟨_, rfl⟩
  rw [hw9] at HV HO HN ⊢
  clear hw9 w8
  first | go_wp2_with fail | skip
  rw [rounds_succ]
  go_wp2_with fail
  refine wp_loop_rounds 5 ?_
  rw [rounds_succ]
  have c0 := cell_of_row _ _ 0 _ _ _ HV.out
  have cf := fun i => frozen_of_row _ _ i _ _ HV.out
  go_wp2_with fail
  refine (HF0.out _).mono ?_
  rintro e w8 ⟨rfl, hw8⟩
  replace hw8 := hw8.symm
  subst hw8
  go_wp2_with fail
  clear c0 cf
  have h0 := heap_setCell_same w9 (w.heap.size + 1 + 1) 0 _ _ (.int .u32 (W32 f0)) HV.out
  have ho := heap_setCell_other w9 ⟨w.heap.size + 1 + 1, 0, none⟩ (w.heap.size + 1) (.int .u32 (W32 f0)) (by show w.heap.size + 1 ≠ w.heap.size + 1 + 1; omega)
  have h2 := (HN.out.setCell (p := ⟨w.heap.size + 1 + 1, 0, none⟩) (by show w.heap.size ≤ w.heap.size + 1 + 1; omega) (.int .u32 (W32 f0)))
  replace HV := Lib.hid (show ((w9.setCell ⟨w.heap.size + 1 + 1, 0, none⟩ (.int .u32 (W32 f0)))).heap[w.heap.size + 1 + 1]? = some (.cells #[.int .u32 (W32 f0), .int .u32 (W32 j1), .int .u32 (W32 j2), .int .u32 (W32 j3)] 51 (0, 0)) from h0)
  replace HO := Lib.hid (show ((w9.setCell ⟨w.heap.size + 1 + 1, 0, none⟩ (.int .u32 (W32 f0)))).heap[w.heap.size + 1]? = _ from ho.trans HO.out)
  replace HN := Lib.hid h2
  clear h0 ho h2
  generalize (w9.setCell ⟨w.heap.size + 1 + 1, 0, none⟩ (.int .u32 (W32 f0))) = w8 at *
  obtain ⟨w9, hw9⟩ : ∃ z, w8 = z := ⟨_, rfl⟩
  rw [hw9] at HV HO HN ⊢
  clear hw9 w8
  rw [rounds_succ]
  have c1 := cell_of_row _ _ 1 _ _ _ HV.out
  have cf := fun i => frozen_of_row _ _ i _ _ HV.out
  go_wp2_with fail
  refine (HF1.out _).mono ?_
  rintro e w8 ⟨rfl, hw8⟩
  replace hw8 := hw8.symm
  subst hw8
  go_wp2_with fail
  clear c1 cf
  have h0 := heap_setCell_same w9 (w.heap.size + 1 + 1) 1 _ _ (.int .u32 (W32 f1)) HV.out
  have ho := heap_setCell_other w9 ⟨w.heap.size + 1 + 1, 1, none⟩ (w.heap.size + 1) (.int .u32 (W32 f1)) (by show w.heap.size + 1 ≠ w.heap.size + 1 + 1; omega)
  have h2 := (HN.out.setCell (p := ⟨w.heap.size + 1 + 1, 1, none⟩) (by show w.heap.size ≤ w.heap.size + 1 + 1; omega) (.int .u32 (W32 f1)))
  replace HV := Lib.hid (show ((w9.setCell ⟨w.heap.size + 1 + 1, 1, none⟩ (.int .u32 (W32 f1)))).heap[w.heap.size + 1 + 1]? = some (.cells #[.int .u32 (W32 f0), .int .u32 (W32 f1), .int .u32 (W32 j2), .int .u32 (W32 j3)] 51 (0, 0)) from h0)
  replace HO := Lib.hid (show ((w9.setCell ⟨w.heap.size + 1 + 1, 1, none⟩ (.int .u32 (W32 f1)))).heap[w.heap.size + 1]? = _ from ho.trans HO.out)
  replace HN := Lib.hid h2
  clear h0 ho h2
  generalize (w9.setCell ⟨w.heap.size + 1 + 1, 1, none⟩ (.int .u32 (W32 f1))) = w8 at *
  obtain ⟨w9, hw9⟩ : ∃ z, w8 = z := ⟨_, rfl⟩
  rw [hw9] at HV HO HN ⊢
  clear hw9 w8
  rw [rounds_succ]
  have c2 := cell_of_row _ _ 2 _ _ _ HV.out
  have cf := fun i => frozen_of_row _ _ i _ _ HV.out
  go_wp2_with fail
  refine (HF2.out _).mono ?_
  rintro e w8 ⟨rfl, hw8⟩
  replace hw8 := hw8.symm
  subst hw8
  go_wp2_with fail
  clear c2 cf
  have h0 := heap_setCell_same w9 (w.heap.size + 1 + 1) 2 _ _ (.int .u32 (W32 f2)) HV.out
  have ho := heap_setCell_other w9 ⟨w.heap.size + 1 + 1, 2, none⟩ (w.heap.size + 1) (.int .u32 (W32 f2)) (by show w.heap.size + 1 ≠ w.heap.size + 1 + 1; omega)
  have h2 := (HN.out.setCell (p := ⟨w.heap.size + 1 + 1, 2, none⟩) (by show w.heap.size ≤ w.heap.size + 1 + 1; omega) (.int .u32 (W32 f2)))
  replace HV := Lib.hid (show ((w9.setCell ⟨w.heap.size + 1 + 1, 2, none⟩ (.int .u32 (W32 f2)))).heap[w.heap.size + 1 + 1]? = some (.cells #[.int .u32 (W32 f0), .int .u32 (W32 f1), .int .u32 (W32 f2), .int .u32 (W32 j3)] 51 (0, 0)) from h0)
  replace HO := Lib.hid (show ((w9.setCell ⟨w.heap.size + 1 + 1, 2, none⟩ (.int .u32 (W32 f2)))).heap[w.heap.size + 1]? = _ from ho.trans HO.out)
  replace HN := Lib.hid h2
  clear h0 ho h2
  generalize (w9.setCell ⟨w.heap.size + 1 + 1, 2, none⟩ (.int .u32 (W32 f2))) = w8 at *
  obtain ⟨w9, hw9⟩ : ∃ z, w8 = z := ⟨_, rfl⟩
  rw [hw9] at HV HO HN ⊢
  clear hw9 w8
  rw [rounds_succ]
  have c3 := cell_of_row _ _ 3 _ _ _ HV.out
  have cf := fun i => frozen_of_row _ _ i _ _ HV.out
  go_wp2_with fail
  refine (HF3.out _).mono ?_
  rintro e w8 ⟨rfl, hw8⟩
  replace hw8 := hw8.symm
  subst hw8
  go_wp2_with fail
  clear c3 cf
  have h0 := heap_setCell_same w9 (w.heap.size + 1 + 1) 3 _ _ (.int .u32 (W32 f3)) HV.out
  have ho := heap_setCell_other w9 ⟨w.heap.size + 1 + 1, 3, none⟩ (w.heap.size + 1) (.int .u32 (W32 f3)) (by show w.heap.size + 1 ≠ w.heap.size + 1 + 1; omega)
  have h2 := (HN.out.setCell (p := ⟨w.heap.size + 1 + 1, 3, none⟩) (by show w.heap.size ≤ w.heap.size + 1 + 1; omega) (.int .u32 (W32 f3)))
  replace HV := Lib.hid (show ((w9.setCell ⟨w.heap.size + 1 + 1, 3, none⟩ (.int .u32 (W32 f3)))).heap[w.heap.size + 1 + 1]? = some (.cells #[.int .u32 (W32 f0), .int .u32 (W32 f1), .int .u32 (W32 f2), .int .u32 (W32 f3)] 51 (0, 0)) from h0)
  replace HO := Lib.hid (show ((w9.setCell ⟨w.heap.size + 1 + 1, 3, none⟩ (.int .u32 (W32 f3)))).heap[w.heap.size + 1]? = _ from ho.trans HO.out)
  replace HN := Lib.hid h2
  clear h0 ho h2
  generalize (w9.setCell ⟨w.heap.size + 1 + 1, 3, none⟩ (.int .u32 (W32 f3))) = w8 at *
  obtain ⟨w9, hw9⟩ : ∃ z, w8 = z := ⟨_, rfl⟩
  rw [hw9] at HV HO HN ⊢
  clear hw9 w8
  rw [rounds_succ]
  go_wp2_with fail
  rw [rounds_succ]
  have c0 := cell_of_row _ _ 0 _ _ _ HV.out
  have c1 := cell_of_row _ _ 1 _ _ _ HV.out
  have c2 := cell_of_row _ _ 2 _ _ _ HV.out
  have c3 := cell_of_row _ _ 3 _ _ _ HV.out
  have cf := fun i => frozen_of_row _ _ i _ _ HV.out
  have hv := HP0.out
  go_wp2_with fail
  clear c0 c1 c2 c3 cf hv
  refine wp_loop_rounds 4 ?_
  have h0 := heap_setCell_same w9 (w.heap.size + 1 + 1) 0 _ _ (.int .u32 (W32 o0)) HV.out
  have ho := heap_setCell_other w9 ⟨w.heap.size + 1 + 1, 0, none⟩ (w.heap.size + 1) (.int .u32 (W32 o0)) (by show w.heap.size + 1 ≠ w.heap.size + 1 + 1; omega)
  have h2 := (HN.out.setCell (p := ⟨w.heap.size + 1 + 1, 0, none⟩) (by show w.heap.size ≤ w.heap.size + 1 + 1; omega) (.int .u32 (W32 o0)))
  replace HV := Lib.hid (show ((w9.setCell ⟨w.heap.size + 1 + 1, 0, none⟩ (.int .u32 (W32 o0)))).heap[w.heap.size + 1 + 1]? = some (.cells #[.int .u32 (W32 o0), .int .u32 (W32 f1), .int .u32 (W32 f2), .int .u32 (W32 f3)] 51 (0, 0)) from h0)
  replace HO := Lib.hid (show ((w9.setCell ⟨w.heap.size + 1 + 1, 0, none⟩ (.int .u32 (W32 o0)))).heap[w.heap.size + 1]? = _ from ho.trans HO.out)
  replace HN := Lib.hid h2
  clear h0 ho h2
  generalize (w9.setCell ⟨w.heap.size + 1 + 1, 0, none⟩ (.int .u32 (W32 o0))) = w8 at *
  obtain ⟨w9, hw9⟩ : ∃ z, w8 = z := ⟨_, rfl⟩
  rw [hw9] at HV HO HN ⊢
  clear hw9 w8
  rw [rounds_succ]
  have c0 := cell_of_row _ _ 0 _ _ _ HV.out
  have c1 := cell_of_row _ _ 1 _ _ _ HV.out
  have cf := fun i => frozen_of_row _ _ i _ _ HV.out
  have hv := HP1.out
  go_wp2_with fail
  go_region
  clear c0 c1 cf hv
  have h0 := heap_setCell_same w9 (w.heap.size + 1 + 1) 1 _ _ (.int .u32 (W32 o1)) HV.out
  have ho := heap_setCell_other w9 ⟨w.heap.size + 1 + 1, 1, none⟩ (w.heap.size + 1) (.int .u32 (W32 o1)) (by show w.heap.size + 1 ≠ w.heap.size + 1 + 1; omega)
  have h2 := (HN.out.setCell (p := ⟨w.heap.size + 1 + 1, 1, none⟩) (by show w.heap.size ≤ w.heap.size + 1 + 1; omega) (.int .u32 (W32 o1))).drew
  replace HV := Lib.hid (show ((w9.setCell ⟨w.heap.size + 1 + 1, 1, none⟩ (.int .u32 (W32 o1))).drew).heap[w.heap.size + 1 + 1]? = some (.cells #[.int .u32 (W32 o0), .int .u32 (W32 o1), .int .u32 (W32 f2), .int .u32 (W32 f3)] 51 (0, 0)) from h0)
  replace HO := Lib.hid (show ((w9.setCell ⟨w.heap.size + 1 + 1, 1, none⟩ (.int .u32 (W32 o1))).drew).heap[w.heap.size + 1]? = _ from ho.trans HO.out)
  replace HN := Lib.hid h2
  clear h0 ho h2
  generalize (w9.setCell ⟨w.heap.size + 1 + 1, 1, none⟩ (.int .u32 (W32 o1))).drew = w8 at *
  obtain ⟨w9, hw9⟩ : ∃ z, w8 = z := ⟨_, rfl⟩
  rw [hw9] at HV HO HN ⊢
  clear hw9 w8
  first | go_wp2_with fail | skip
  rw [rounds_succ]
  have c0 := cell_of_row _ _ 0 _ _ _ HV.out
  have c2 := cell_of_row _ _ 2 _ _ _ HV.out
  have cf := fun i => frozen_of_row _ _ i _ _ HV.out
  have hv := HP2.out
  go_wp2_with fail
  go_region
  clear c0 c2 cf hv
  have h0 := heap_setCell_same w9 (w.heap.size + 1 + 1) 2 _ _ (.int .u32 (W32 o2)) HV.out
  have ho := heap_setCell_other w9 ⟨w.heap.size + 1 + 1, 2, none⟩ (w.heap.size + 1) (.int .u32 (W32 o2)) (by show w.heap.size + 1 ≠ w.heap.size + 1 + 1; omega)
  have h2 := (HN.out.setCell (p := ⟨w.heap.size + 1 + 1, 2, none⟩) (by show w.heap.size ≤ w.heap.size + 1 + 1; omega) (.int .u32 (W32 o2))).drew
  replace HV := Lib.hid (show ((w9.setCell ⟨w.heap.size + 1 + 1, 2, none⟩ (.int .u32 (W32 o2))).drew).heap[w.heap.size + 1 + 1]? = some (.cells #[.int .u32 (W32 o0), .int .u32 (W32 o1), .int .u32 (W32 o2), .int .u32 (W32 f3)] 51 (0, 0)) from h0)
  replace HO := Lib.hid (show ((w9.setCell ⟨w.heap.size + 1 + 1, 2, none⟩ (.int .u32 (W32 o2))).drew).heap[w.heap.size + 1]? = _ from ho.trans HO.out)
  replace HN := Lib.hid h2
  clear h0 ho h2
  generalize (w9.setCell ⟨w.heap.size + 1 + 1, 2, none⟩ (.int .u32 (W32 o2))).drew = w8 at *
  obtain ⟨w9, hw9⟩ : ∃ z, w8 = z := ⟨_, rfl⟩
  rw [hw9] at HV HO HN ⊢
  clear hw9 w8
  first | go_wp2_with fail | skip
  rw [rounds_succ]
  have c0 := cell_of_row _ _ 0 _ _ _ HV.out
  have c3 := cell_of_row _ _ 3 _ _ _ HV.out
  have cf := fun i => frozen_of_row _ _ i _ _ HV.out
  have hv := HP3.out
  go_wp2_with fail
  go_region
  clear c0 c3 cf hv
  have h0 := heap_setCell_same w9 (w.heap.size + 1 + 1) 3 _ _ (.int .u32 (W32 o3)) HV.out
  have ho := heap_setCell_other w9 ⟨w.heap.size + 1 + 1, 3, none⟩ (w.heap.size + 1) (.int .u32 (W32 o3)) (by show w.heap.size + 1 ≠ w.heap.size + 1 + 1; omega)
  have h2 := (HN.out.setCell (p := ⟨w.heap.size + 1 + 1, 3, none⟩) (by show w.heap.size ≤ w.heap.size + 1 + 1; omega) (.int .u32 (W32 o3))).drew
  replace HV := Lib.hid (show ((w9.setCell ⟨w.heap.size + 1 + 1, 3, none⟩ (.int .u32 (W32 o3))).drew).heap[w.heap.size + 1 + 1]? = some (.cells #[.int .u32 (W32 o0), .int .u32 (W32 o1), .int .u32 (W32 o2), .int .u32 (W32 o3)] 51 (0, 0)) from h0)
  replace HO := Lib.hid (show ((w9.setCell ⟨w.heap.size + 1 + 1, 3, none⟩ (.int .u32 (W32 o3))).drew).heap[w.heap.size + 1]? = _ from ho.trans HO.out)
  replace HN := Lib.hid h2
  clear h0 ho h2
  generalize (w9.setCell ⟨w.heap.size + 1 + 1, 3, none⟩ (.int .u32 (W32 o3))).drew = w8 at *
  obtain ⟨w9, hw9⟩ : ∃ z, w8 = z := ⟨_, rfl⟩
  rw [hw9] at HV HO HN ⊢
  clear hw9 w8
  first | go_wp2_with fail | skip
  rw [rounds_succ]
  go_wp2_with fail
  refine wp_loop_rounds 5 ?_
  rw [rounds_succ]
  go_wp2_with fail
  rw [rounds_succ]
  have c0 := cell_of_row _ _ 0 _ _ _ HV.out
  have c1 := cell_of_row _ _ 1 _ _ _ HV.out
  have c2 := cell_of_row _ _ 2 _ _ _ HV.out
  have c3 := cell_of_row _ _ 3 _ _ _ HV.out
  have cf := fun i => frozen_of_row _ _ i _ _ HV.out
  have r0 := cell_of_row _ _ 0 _ _ _ HO.out
  have r1 := cell_of_row _ _ 1 _ _ _ HO.out
  have rf := fun i => frozen_of_row _ _ i _ _ HO.out
  have hlo := HLO.out
  have hhi := HHI.out
  go_simp
  first | go_skip | go_guarded | go_step | go_upon | go_in | go_back
  first | go_skip | go_guarded | go_step | go_upon | go_in | go_back
  first | go_skip | go_guarded | go_step | go_upon | go_in | go_back
  first | go_skip | go_guarded | go_step | go_upon | go_in | go_back
  first | go_skip | go_guarded | go_step | go_upon | go_in | go_back
  first | go_skip | go_guarded | go_step | go_upon | go_in | go_back
  first | go_skip | go_guarded | go_step | go_upon | go_in | go_back
  first | go_skip | go_guarded | go_step | go_upon | go_in | go_back
  first | go_skip | go_guarded | go_step | go_upon | go_in | go_back
  first | go_skip | go_guarded | go_step | go_upon | go_in | go_back
  first | go_skip | go_guarded | go_step | go_upon | go_in | go_back
  first | go_skip | go_guarded | go_step | go_upon | go_in | go_back
  first | go_skip | go_guarded | go_step | go_upon | go_in | go_back
  first | go_skip | go_guarded | go_step | go_upon | go_in | go_back
  first | go_skip | go_guarded | go_step | go_upon | go_in | go_back
  first | go_skip | go_guarded | go_step | go_upon | go_in | go_back
  first | go_skip | go_guarded | go_step | go_upon | go_in | go_back
  first | go_skip | go_guarded | go_step | go_upon | go_in | go_back
  first | go_skip | go_guarded | go_step | go_upon | go_in | go_back
  first | go_skip | go_guarded | go_step | go_upon | go_in | go_back
  first | go_skip | go_guarded | go_step | go_upon | go_in | go_back
  first | go_skip | go_guarded | go_step | go_upon | go_in | go_back
  first | go_skip | go_guarded | go_step | go_upon | go_in | go_back
  first | go_skip | go_guarded | go_step | go_upon | go_in | go_back
  first | go_skip | go_guarded | go_step | go_upon | go_in | go_back
  first | go_skip | go_guarded | go_step | go_upon | go_in | go_back
  first | go_skip | go_guarded | go_step | go_upon | go_in | go_back
  first | go_skip | go_guarded | go_step | go_upon | go_in | go_back
  first | go_skip | go_guarded | go_step | go_upon | go_in | go_back
  first | go_skip | go_guarded | go_step | go_upon | go_in | go_back
  first | go_skip | go_guarded | go_step | go_upon | go_in | go_back
  first | go_skip | go_guarded | go_step | go_upon | go_in | go_back
  first | go_skip | go_guarded | go_step | go_upon | go_in | go_back
  first | go_skip | go_guarded | go_step | go_upon | go_in | go_back
  first | go_skip | go_guarded | go_step | go_upon | go_in | go_back
  first | go_skip | go_guarded | go_step | go_upon | go_in | go_back
  first | go_skip | go_guarded | go_step | go_upon | go_in | go_back
  first | go_skip | go_guarded | go_step | go_upon | go_in | go_back
  first | go_skip | go_guarded | go_step | go_upon | go_in | go_back
  first | go_skip | go_guarded | go_step | go_upon | go_in | go_back
  first | go_skip | go_guarded | go_step | go_upon | go_in | go_back
  first | go_skip | go_guarded | go_step | go_upon | go_in | go_back
  first | go_skip | go_guarded | go_step | go_upon | go_in | go_back
  first | go_skip | go_guarded | go_step | go_upon | go_in | go_back
  first | go_skip | go_guarded | go_step | go_upon | go_in | go_back
  first | go_skip | go_guarded | go_step | go_upon | go_in | go_back
  first | go_skip | go_guarded | go_step | go_upon | go_in | go_back
  first | go_skip | go_guarded | go_step | go_upon | go_in | go_back
  first | go_skip | go_guarded | go_step | go_upon | go_in | go_back
  first | go_skip | go_guarded | go_step | go_upon | go_in | go_back
  first | go_skip | go_guarded | go_step | go_upon | go_in | go_back
  first | go_skip | go_guarded | go_step | go_upon | go_in | go_back
  first | go_skip | go_guarded | go_step | go_upon | go_in | go_back
  first | go_skip | go_guarded | go_step | go_upon | go_in | go_back
  first | go_skip | go_guarded | go_step | go_upon | go_in | go_back
  first | go_skip | go_guarded | go_step | go_upon | go_in | go_back
  first | go_skip | go_guarded | go_step | go_upon | go_in | go_back
  first | go_skip | go_guarded | go_step | go_upon | go_in | go_back
  first | go_skip | go_guarded | go_step | go_upon | go_in | go_back
  first | go_skip | go_guarded | go_step | go_upon | go_in | go_back
  first | go_skip | go_guarded | go_step | go_upon | go_in | go_back
  first | go_skip | go_guarded | go_step | go_upon | go_in | go_back
  first | go_skip | go_guarded | go_step | go_upon | go_in | go_back
  first | go_skip | go_guarded | go_step | go_upon | go_in | go_back
  first | go_skip | go_guarded | go_step | go_upon | go_in | go_back
  first | go_skip | go_guarded | go_step | go_upon | go_in | go_back
  first | go_skip | go_guarded | go_step | go_upon | go_in | go_back
  first | go_skip | go_guarded | go_step | go_upon | go_in | go_back
  first | go_skip | go_guarded | go_step | go_upon | go_in | go_back
  first | go_skip | go_guarded | go_step | go_upon | go_in | go_back
  first | go_skip | go_guarded | go_step | go_upon | go_in | go_back
  first | go_skip | go_guarded | go_step | go_upon | go_in | go_back
  first | go_skip | go_guarded | go_step | go_upon | go_in | go_back
  first | go_skip | go_guarded | go_step | go_upon | go_in | go_back
  first | go_skip | go_guarded | go_step | go_upon | go_in | go_back
  first | go_skip | go_guarded | go_step | go_upon | go_in | go_back
  refine bodyPost_ret (by simp [results, Try.results22, go_sem, r0, r1]; try rfl) rfl ?_
  exact ⟨rfl, ((HN.out.setCell (by show w.heap.size ≤ w.heap.size + 1; omega) _).setCell (by show w.heap.size ≤ w.heap.size + 1; omega) _)⟩
end Go.Proofs.Ytnapogamcohfaaa
