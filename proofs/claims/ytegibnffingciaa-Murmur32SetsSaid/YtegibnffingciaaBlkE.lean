/- Contracts of layer 28: Write. -/
import Derived.Test.YtegibnffingciaaBlkD
import Derived.Defers
import Derived.Recover
import Derived.Laws.Pointers
import Derived.Handy
namespace Go.Proofs.Ytegibnffingciaa
open Go.RowKit Go.Bv
set_option linter.unusedVariables false
set_option maxRecDepth 100000 in
set_option maxHeartbeats 4000000 in
theorem write_28 (p : Nat) (n : Nat) (hn : 1 ≤ n ∧ n ≤ 64) (fs st : BitVec 64 × Int) (tl : List (BitVec 8)) (long : BitVec 64) (b : Option Addr) (lb cb : Nat) (m : List (BitVec 8)) (w : World) (hs : Strm_28 w p n fs st tl long) (hm : BRow w b lb cb m) (hsum : tl.length + lb ≤ 140737488355328) :
    Calls Try.prog 22 #[.pointer (some ⟨p, 0, none⟩), .slice b lb cb] w fun e w' => e = .returned (.tuple #[]) ∧ Strm_28 w' p n fs (bState n stp28 st (tl ++ m)) (bTail n (tl ++ m)) (long + BitVec.ofNat 64 lb) ∧ But p w w' := by
  have HM := Lib.hid (made_28 p n fs st tl long w (by omega) hs)
  have hlb := hm.len_eq
  have hlbm := hm.most
  obtain ⟨a, cap, hbx, hr⟩ := hs
  obtain ⟨L, hL⟩ : ∃ L, tl.length = L := ⟨_, rfl⟩
  rw [hL] at hbx hr hsum
  have HB := Lib.hid hbx
  have HR := Lib.hid hr
  have HMR := Lib.hid hm
  have HSUM := Lib.hid hsum
  have HNL : Hid ((bTail n (tl ++ m)).length = (L + lb) % n) := Lib.hid (by rw [bTail_len, List.length_append, hL, hlb])
  have HPS := Lib.hid (fun (w' : World) r c (hrw : BRow w' r (L + lb) c (tl ++ m)) => pass_28 st n hn r (L + lb) c (tl ++ m) w' hrw)
  clear hbx hr hm hsum hlb hL hn
  generalize (bState n stp28 st (tl ++ m)) = nst at *
  generalize (bTail n (tl ++ m)) = ntl at *
  go_enter Try.func22, Try.ntmps22
  go_wp2_with fail
  refine HM.out.mono ?_
  rintro e w9 ⟨rfl, rfl⟩
  clear HM
  go_wp2_with fail
  refine Gro2.wp_region_gro2S (fun w' => (∃ (u0 u1 ta lo : Value), w'.heap[p]? = some (.cells #[.int .i64 (n : Int), .int .u64 (W64 (fs.1)), .int .i64 (fs.2), u0, u1, (.func (Fn.func 20) #[] #[]), ta, lo] 82 (0, 0))) ∧ But p w9 w') (fun w' => w'.heap[p]? = some (.cells #[.int .i64 (n : Int), .int .u64 (W64 (fs.1)), .int .i64 (fs.2), .int .u64 (W64 (st.1)), .int .i64 (st.2), (.func (Fn.func 20) #[] #[]), .slice a (L : Nat) cap, .int .u64 (W64 long)] 82 (0, 0)) ∧ New w9 w') [0,0,0,0,0,1, 0,0,0,1, 0,0,0,1, 0,0,0,1, 0,2,2,2, 0,0,0, 0,0,3, 0,0,3] (by kernel_rfl) (by kernel_rfl) (by kernel_rfl) (fun w' hw' => ⟨⟨_, _, _, _, hw'.1⟩, But.of_new hw'.2⟩) (⟨HB.out, (New.refl _).drew⟩) ?_
  intro I J _ _ f g hfa hba hgb hbb
  have HFA := Lib.hid hfa
  have HBA := Lib.hid hba
  have HGB := Lib.hid hgb
  have HBB := Lib.hid hbb
  have s0 := fun n => cell_of_row _ _ 0 _ _ _ (hgb n).1
  have s3 := fun n => cell_of_row _ _ 3 _ _ _ (hgb n).1
  have s4 := fun n => cell_of_row _ _ 4 _ _ _ (hgb n).1
  have s5 := fun n => cell_of_row _ _ 5 _ _ _ (hgb n).1
  have s6 := fun n => cell_of_row _ _ 6 _ _ _ (hgb n).1
  clear hfa hba hgb hbb
  refine Gro2.take0 3 (by kernel_rfl) ?_
  simp only [List.take, List.drop, List.length]
  repeat (go_big_quiet_step (fail))
  refine wpQuiet_nil ?_
  refine Gro2.check (.tmp 10) (⟨p, 0, none⟩) rfl rfl rfl rfl (fun A1 hA => ?_)
  simp [Act.put] at hA
  subst hA
  refine Gro2.take0 1 (by kernel_rfl) ?_
  simp only [List.take, List.drop, List.length]
  repeat (go_big_quiet_step (fail))
  refine wpQuiet_nil ?_
  refine Gro2.take1 1 (by kernel_rfl) ?_
  simp only [List.take, List.drop, List.length]
  repeat (go_big_quiet_step (fail))
  refine wpQuiet_nil ?_
  refine Gro2.take0 1 (by kernel_rfl) ?_
  simp only [List.take, List.drop, List.length]
  repeat (go_big_quiet_step (fail))
  refine wpQuiet_nil ?_
  refine Gro2.check (.tmp 14) (⟨p, 0, none⟩) rfl rfl rfl rfl (fun A2 hA => ?_)
  simp [Act.put] at hA
  subst hA
  refine Gro2.take0 1 (by kernel_rfl) ?_
  simp only [List.take, List.drop, List.length]
  repeat (go_big_quiet_step (fail))
  refine wpQuiet_nil ?_
  refine Gro2.take1 1 (by kernel_rfl) ?_
  simp only [List.take, List.drop, List.length]
  repeat (go_big_quiet_step (fail))
  refine wpQuiet_nil ?_
  refine Gro2.take0 1 (by kernel_rfl) ?_
  simp only [List.take, List.drop, List.length]
  repeat (go_big_quiet_step (fail))
  refine wpQuiet_nil ?_
  refine Gro2.check (.tmp 18) (⟨p, 0, none⟩) rfl rfl rfl rfl (fun A3 hA => ?_)
  simp [Act.put] at hA
  subst hA
  refine Gro2.take0 1 (by kernel_rfl) ?_
  simp only [List.take, List.drop, List.length]
  repeat (go_big_quiet_step (fail))
  refine wpQuiet_nil ?_
  refine Gro2.take1 1 (by kernel_rfl) ?_
  simp only [List.take, List.drop, List.length]
  repeat (go_big_quiet_step (fail))
  refine wpQuiet_nil ?_
  refine Gro2.take0 1 (by kernel_rfl) ?_
  simp only [List.take, List.drop, List.length]
  repeat (go_big_quiet_step (fail))
  refine wpQuiet_nil ?_
  refine Gro2.check (.tmp 22) (⟨p, 0, none⟩) rfl rfl rfl rfl (fun A4 hA => ?_)
  simp [Act.put] at hA
  subst hA
  refine Gro2.take0 1 (by kernel_rfl) ?_
  simp only [List.take, List.drop, List.length]
  repeat (go_big_quiet_step (fail))
  refine wpQuiet_nil ?_
  refine Gro2.take1 1 (by kernel_rfl) ?_
  simp only [List.take, List.drop, List.length]
  repeat (go_big_quiet_step (fail))
  refine wpQuiet_nil ?_
  refine Gro2.take0 1 (by kernel_rfl) ?_
  simp only [List.take, List.drop, List.length]
  repeat (go_big_quiet_step (fail))
  refine wpQuiet_nil ?_
  refine Gro2.callt (fun v => ∃ q, v = .slice (some ⟨q, 0, none⟩) 2 2) (fun v w' => ∃ q, v = .slice (some ⟨q, 0, none⟩) 2 2 ∧ Lies w' q (.cells #[.slice a (L : Nat) cap, .slice b lb cb] 23 (0, 0))) rfl rfl (⟨_, 0, rfl⟩) (fun w1 hB hG => ?_) (fun v5 A5 hv5 hA => ?_)
  · obtain ⟨nq, rfl⟩ := hB
    have hal := (New.refl (g nq)).alloc (.cells #[.slice a (L : Nat) cap, .slice b lb cb] 23)
    have HX := Lib.hid (HBB.out _ ⟨(hal.block _ (lt_of_block (HGB.out nq).1)).trans (HGB.out nq).1, (HGB.out nq).2.trans hal⟩)
    have HZ := Lib.hid (show Lies _ _ _ from heap_alloc_new (g nq) (.cells #[.slice a (L : Nat) cap, .slice b lb cb] 23))
    clear hal s0 s3 s4 s5 s6
    go_simp
    first | exact ⟨HX.out, HZ.out⟩ | exact ⟨HX.out, ⟨_, rfl, HZ.out⟩⟩ | exact ⟨HX.out, ⟨_, rfl⟩, ⟨_, rfl, HZ.out⟩⟩
  simp [Act.put] at hA
  subst hA
  obtain ⟨q1, rfl⟩ := hv5
  refine Gro2.callt (fun v => ∃ r c, v = .slice r (L + lb : Nat) c) (fun v w' => ∃ r c, v = .slice r (L + lb : Nat) c ∧ BRow w' r (L + lb) c (tl ++ m)) rfl rfl (⟨_, none, 0, rfl⟩) (fun w1 hB hG => ?_) (fun v6 A6 hv6 hA => ?_)
  · obtain ⟨nq, rfl⟩ := hB
    obtain ⟨q2, e2, hz⟩ := hG
    cases e2
    have HZ := Lib.hid hz
    clear hz s0 s3 s4 s5 s6
    go_simp
    refine (concat_b q1 _ _ _ _ _ _ _ _ _ HZ.out (HR.out.stay (HGB.out nq).2) (HMR.out.stay (HGB.out nq).2) HSUM.out).mono ?_
    rintro e w2 ⟨r, c, rfl, hrow, hfr, hn⟩
    have HX := HBB.out _ ⟨(hn.block _ (lt_of_block (HGB.out nq).1)).trans (HGB.out nq).1, (HGB.out nq).2.trans hn⟩
    exact ⟨_, rfl, HX, ⟨_, _, rfl⟩, ⟨_, _, rfl, hrow⟩⟩
  simp [Act.put] at hA
  subst hA
  obtain ⟨r2, c2, rfl⟩ := hv6
  refine Gro2.callt (fun v => ∃ r c, v = .tuple #[.agg #[.int .u64 (W64 (nst.1)), .int .i64 (nst.2)], .slice r ((L + lb) % n : Nat) c]) (fun v w' => ∃ r c, v = .tuple #[.agg #[.int .u64 (W64 (nst.1)), .int .i64 (nst.2)], .slice r ((L + lb) % n : Nat) c] ∧ BRow w' r ((L + lb) % n) c ntl ∧ ∀ y, r = some y → p < y.block) rfl rfl (⟨_, none, 0, rfl⟩) (fun w1 hB hG => ?_) (fun v7 A7 hv7 hA => ?_)
  · obtain ⟨nq, rfl⟩ := hB
    obtain ⟨r3, c3, e2, hz⟩ := hG
    cases e2
    have HZ := Lib.hid hz
    clear hz s0 s3 s4 s5 s6
    go_simp
    refine (HPS.out _ _ _ HZ.out).mono ?_
    rintro e w2 ⟨r, c, rfl, hrow, hfr, hn⟩
    have HX := HBB.out _ ⟨(hn.block _ (lt_of_block (HGB.out nq).1)).trans (HGB.out nq).1, (HGB.out nq).2.trans hn⟩
    have hlt := lt_of_block (HGB.out nq).1
    have HR2 : ∀ y, r = some y → p < y.block := fun y e => by have := hfr y e; omega
    exact ⟨_, rfl, HX, ⟨_, _, rfl⟩, ⟨_, _, rfl, hrow, HR2⟩⟩
  simp [Act.put] at hA
  subst hA
  obtain ⟨r3, c3, rfl⟩ := hv7
  refine Gro2.take0 3 (by kernel_rfl) ?_
  simp only [List.take, List.drop, List.length]
  repeat (go_big_quiet_step (fail))
  refine wpQuiet_nil ?_
  refine Gro2.check (.tmp 8) (⟨p, 0, none⟩) rfl rfl rfl rfl (fun A8 hA => ?_)
  simp [Act.put] at hA
  subst hA
  refine Gro2.take0 1 (by kernel_rfl) ?_
  simp only [List.take, List.drop, List.length]
  repeat (go_big_quiet_step (fail))
  refine wpQuiet_nil ?_
  refine Gro2.turn (fun v => v = undef) (fun _ w9 => Lies w9 p (.cells #[.int .i64 (n : Int), .int .u64 (W64 (fs.1)), .int .i64 (fs.2), .int .u64 (W64 (nst.1)), .int .i64 (nst.2), (.func (Fn.func 20) #[] #[]), .slice a (L : Nat) cap, .int .u64 (W64 long)] 82 (0, 0)) ∧ BRow w9 r3 ((L + lb) % n) c3 ntl ∧ ∀ y, r3 = some y → p < y.block) rfl rfl ⟨_, rfl⟩ (fun w1 hB hG => ?_) (fun v9 A9 hv9 hA => ?_)
  · obtain ⟨nq, rfl⟩ : ∃ nq, w1 = g nq := hB
    obtain ⟨r4, c4, e2, hrow, hfr⟩ := hG
    cases e2
    have HX := Lib.hid (HGB.out nq)
    have c3 := cell_of_row _ _ 3 _ _ _ HX.out.1
    have c4 := cell_of_row _ _ 4 _ _ _ HX.out.1
    have cf := fun i => frozen_of_row _ _ i _ _ HX.out.1
    have HP := Lib.hid (puts_28 (.int .u64 (W64 (nst.1))) (.int .i64 (nst.2)) HX.out.1)
    have HROW := Lib.hid (hrow.but (by simp) (fun y e _ => HP.out.2.1 _ (by have := hfr y e; omega)))
    have HFR := Lib.hid hfr
    have HLI := Lib.hid (show Lies _ _ _ from HP.out.1)
    clear hrow hfr s0 s3 s4 s5 s6
    go_simp
    exact ⟨HBA.out _ ⟨⟨_, _, _, _, HP.out.1⟩, HP.out.2.2 _ (But.of_new HX.out.2)⟩, HLI.out, HROW.out, HFR.out⟩
  simp [Act.put] at hA
  subst hA
  refine Gro2.check (.tmp 9) (⟨p, 0, none⟩) rfl rfl rfl rfl (fun A10 hA => ?_)
  simp [Act.put] at hA
  subst hA
  refine Gro2.take0 1 (by kernel_rfl) ?_
  simp only [List.take, List.drop, List.length]
  repeat (go_big_quiet_step (fail))
  refine wpQuiet_nil ?_
  refine Gro2.turn (fun v => v = undef) (fun _ w9 => Lies w9 p (.cells #[.int .i64 (n : Int), .int .u64 (W64 (fs.1)), .int .i64 (fs.2), .int .u64 (W64 (nst.1)), .int .i64 (nst.2), (.func (Fn.func 20) #[] #[]), .slice r3 ((L + lb) % n : Nat) c3, .int .u64 (W64 long)] 82 (0, 0)) ∧ BRow w9 r3 ((L + lb) % n) c3 ntl) rfl rfl ⟨_, rfl⟩ (fun w1 hB hG => ?_) (fun v11 A11 hv11 hA => ?_)
  · obtain ⟨nq, rfl⟩ : ∃ nq, w1 = f nq := hB
    obtain ⟨hli, hrow, hfr⟩ := hG
    have HX := Lib.hid (HFA.out nq)
    have HLI0 := Lib.hid hli
    have c0 := cell_of_row _ _ 6 _ _ _ HLI0.out
    have cf := fun i => frozen_of_row _ _ i _ _ HLI0.out
    have HP := Lib.hid (putt_28 (.slice r3 ((L + lb) % n : Nat) c3) HLI0.out)
    have HROW := Lib.hid (hrow.but (by simp) (fun y e _ => HP.out.2.1 _ (by have := hfr y e; omega)))
    have HLI := Lib.hid (show Lies _ _ _ from HP.out.1)
    clear hrow hfr hli s0 s3 s4 s5 s6
    go_simp
    exact ⟨HBA.out _ ⟨⟨_, _, _, _, HP.out.1⟩, HP.out.2.2 _ HX.out.2⟩, HLI.out, HROW.out⟩
  simp [Act.put] at hA
  subst hA
  refine Gro2.nil ?_
  rintro w9 ⟨n9, rfl⟩ hG
  obtain ⟨hli, hrow⟩ := hG
  have HBUT := Lib.hid (HFA.out n9).2
  have HLI := Lib.hid hli
  have HROW := Lib.hid hrow
  have c0 := cell_of_row _ _ 7 _ _ _ hli
  have cf := fun i => frozen_of_row _ _ i _ _ hli
  clear HFA HBA HGB HBB hli hrow s0 s3 s4 s5 s6
  generalize f n9 = w9 at *
  have HP := Lib.hid (putl_28 (.int .u64 (W64 (long + BitVec.ofNat 64 lb))) HLI.out)
  go_wp2
  go_end0
  refine ⟨rfl, ⟨r3, c3, ?_, ?_⟩, HP.out.2.2 _ HBUT.out⟩
  · rw [HNL.out]; exact HP.out.1
  · rw [HNL.out]; exact HROW.out.but (by simp) (fun y e h0 => HP.out.2.1 _ (HROW.out.apart ⟨_, _, _, HLI.out, by simp⟩ y e h0))
end Go.Proofs.Ytegibnffingciaa
