/- Contracts of layer 28: Set. -/
import Derived.Test.YtegibnffingciaaBlkF
import Derived.Test.YtegibnffingciaaDivM
import Derived.Defers
import Derived.Recover
import Derived.Laws.Pointers
import Derived.Handy
import Derived.Laws.EntriesVeiled
namespace Go.Proofs.Ytegibnffingciaa
open Go.RowKit Go.Bv
set_option linter.unusedVariables false
set_option maxRecDepth 100000 in
set_option maxHeartbeats 4000000 in
theorem setn_28 (p : Nat) (n : Nat) (hn : 1 ≤ n ∧ n ≤ 64) (fs st : BitVec 64 × Int) (tl : List (BitVec 8)) (long : BitVec 64) (s2 : BitVec 64 × Int) (long2 : BitVec 64) (b : Option Addr) (lb cb : Nat) (m : List (BitVec 8)) (w : World) (hs : Strm_28 w p n fs st tl long) (hm : BRow w b lb cb m)
    (hfit : (BitVec.ofNat 64 lb != long2 % BitVec.ofNat 64 n) = true) :
    Calls Try.prog 33 #[.pointer (some ⟨p, 0, none⟩), .agg #[.int .u64 (W64 (s2.1)), .int .i64 (s2.2)], .int .u64 (W64 long2), .slice b lb cb] w fun e w' => e = .returned (.bool false) ∧ New w w' := by
  have hn1 : 1 ≤ n := by omega
  have HM := Lib.hid (fun w' hn' => made_28 p n fs st tl long w' hn1 (hs.stay (w' := w') hn'))
  obtain ⟨a, cap, hbx, hr⟩ := hs
  have hlt := lt_of_block hbx
  have hal := (New.refl w).alloc (.cells #[.int .u64 (W64 (s2.1)), .int .i64 (s2.2)] 27)
  have HB0 := Lib.hid (heap_alloc_new w (.cells #[.int .u64 (W64 (s2.1)), .int .i64 (s2.2)] 27))
  have hb2 := (hal.block _ hlt).trans hbx
  have k0 := cell_of_row _ _ 0 _ _ _ hb2
  have HB := Lib.hid hb2
  have HAL := Lib.hid hal
  have HML := Lib.hid hm.len_eq
  have hnz : ¬ W64 (BitVec.ofNat 64 n) = 0 := by unfold W64; rw [BitVec.toNat_ofNat]; omega
  clear hbx hr hb2 hal hm hlt hn
  go_enter Try.func33, Try.ntmps33
  go_wp2_with fail
  refine (HM.out _ HAL.out).mono ?_
  rintro e w9 ⟨rfl, rfl⟩
  go_wp2
  go_ret
  exact ⟨rfl, HAL.out⟩
set_option maxRecDepth 100000 in
set_option maxHeartbeats 4000000 in
theorem sety_28 (p : Nat) (n : Nat) (hn : 1 ≤ n ∧ n ≤ 64) (fs st : BitVec 64 × Int) (tl : List (BitVec 8)) (long : BitVec 64) (s2 : BitVec 64 × Int) (long2 : BitVec 64) (b : Option Addr) (lb cb : Nat) (m : List (BitVec 8)) (w : World) (hs : Strm_28 w p n fs st tl long) (hm : BRow w b lb cb m)
    (hfit : (BitVec.ofNat 64 lb != long2 % BitVec.ofNat 64 n) = false) :
    Calls Try.prog 33 #[.pointer (some ⟨p, 0, none⟩), .agg #[.int .u64 (W64 (s2.1)), .int .i64 (s2.2)], .int .u64 (W64 long2), .slice b lb cb] w fun e w' => e = .returned (.bool true) ∧ Strm_28 w' p n fs s2 m long2 ∧ But p w w' := by
  have hn1 : 1 ≤ n := by omega
  have HM := Lib.hid (fun w' hn' => made_28 p n fs st tl long w' hn1 (hs.stay (w' := w') hn'))
  obtain ⟨a, cap, hbx, hr⟩ := hs
  have hlt := lt_of_block hbx
  have hal := (New.refl w).alloc (.cells #[.int .u64 (W64 (s2.1)), .int .i64 (s2.2)] 27)
  have HB0 := Lib.hid (heap_alloc_new w (.cells #[.int .u64 (W64 (s2.1)), .int .i64 (s2.2)] 27))
  have hb2 := (hal.block _ hlt).trans hbx
  have k0 := cell_of_row _ _ 0 _ _ _ hb2
  have HB := Lib.hid hb2
  have HAL := Lib.hid hal
  have HML := Lib.hid hm.len_eq
  have hnz : ¬ W64 (BitVec.ofNat 64 n) = 0 := by unfold W64; rw [BitVec.toNat_ofNat]; omega
  obtain ⟨T, hT⟩ : ∃ T, tl.length = T := ⟨_, rfl⟩
  rw [hT] at HB
  have HMR := Lib.hid (hm.stay hal)
  have HPL := Lib.hid (show p < w.heap.size from hlt)
  clear hbx hr hb2 hal hm hlt hT hn
  go_enter Try.func33, Try.ntmps33
  go_wp2_with fail
  refine (HM.out _ HAL.out).mono ?_
  rintro e w9 ⟨rfl, rfl⟩
  go_wp2_with fail
  refine Gro2.wp_region_gro2S (fun w' => (∃ (u0 u1 ta lo : Value), w'.heap[p]? = some (.cells #[.int .i64 (n : Int), .int .u64 (W64 (fs.1)), .int .i64 (fs.2), u0, u1, (.func (Fn.func 20) #[] #[]), ta, lo] 82 (0, 0))) ∧ But p (w.alloc (.cells #[.int .u64 (W64 (s2.1)), .int .i64 (s2.2)] 27)) w') (fun w' => w'.heap[p]? = some (.cells #[.int .i64 (n : Int), .int .u64 (W64 (fs.1)), .int .i64 (fs.2), .int .u64 (W64 (st.1)), .int .i64 (st.2), (.func (Fn.func 20) #[] #[]), .slice a (T : Nat) cap, .int .u64 (W64 long)] 82 (0, 0)) ∧ w'.heap[w.heap.size]? = some (.cells #[.int .u64 (W64 (s2.1)), .int .i64 (s2.2)] 27 (0, 0)) ∧ New (w.alloc (.cells #[.int .u64 (W64 (s2.1)), .int .i64 (s2.2)] 27)) w') [0,0,0,1,0,0,2,0,0,3,0,0,3,0,0,3] (by kernel_rfl) (by kernel_rfl) (by kernel_rfl) (fun w' hw' => ⟨⟨_, _, _, _, hw'.1⟩, But.of_new hw'.2.2⟩) (⟨HB.out, HB0.out, (New.refl _).drew⟩) ?_
  intro I J _ _ f g hfa hba hgb hbb
  have HFA := Lib.hid hfa
  have HBA := Lib.hid hba
  have HGB := Lib.hid hgb
  have HBB := Lib.hid hbb
  have s0 := fun n => cell_of_row _ _ 0 _ _ _ (hgb n).2.1
  have s1 := fun n => cell_of_row _ _ 1 _ _ _ (hgb n).2.1
  clear hfa hba hgb hbb
  refine Gro2.take0 3 (by kernel_rfl) ?_
  simp only [List.take, List.drop, List.length]
  repeat (go_big_quiet_step (fail))
  refine wpQuiet_nil ?_
  refine Gro2.take1 1 (by kernel_rfl) ?_
  simp only [List.take, List.drop, List.length]
  repeat (go_big_quiet_step (fail))
  refine wpQuiet_nil ?_
  refine Gro2.take0 2 (by kernel_rfl) ?_
  simp only [List.take, List.drop, List.length]
  repeat (go_big_quiet_step (fail))
  refine wpQuiet_nil ?_
  refine Gro2.callt (fun v => ∃ r c, v = .slice r (lb : Nat) c) (fun v w' => ∃ r c, v = .slice r (lb : Nat) c ∧ BRow w' r lb c m ∧ ∀ y, r = some y → p < y.block) rfl rfl (⟨_, none, 0, rfl⟩) (fun w1 hB hG => ?_) (fun v1 A1 hv1 hA => ?_)
  · obtain ⟨nq, rfl⟩ := hB
    clear s0 s1
    go_simp
    refine (clone_b _ _ _ _ _ (HMR.out.stay (HGB.out nq).2.2)).mono ?_
    rintro e w2 ⟨r, c, rfl, hrow, hfr, hn⟩
    have HX := HBB.out _ ⟨(hn.block _ (lt_of_block (HGB.out nq).1)).trans (HGB.out nq).1, (hn.block _ (lt_of_block (HGB.out nq).2.1)).trans (HGB.out nq).2.1, (HGB.out nq).2.2.trans hn⟩
    have hlt := lt_of_block (HGB.out nq).1
    have HR2 : ∀ y, r = some y → p < y.block := fun y e => by have := hfr y e; omega
    exact ⟨_, rfl, HX, ⟨_, _, rfl⟩, ⟨_, _, rfl, hrow, HR2⟩⟩
  simp [Act.put] at hA
  subst hA
  obtain ⟨r3, c3, rfl⟩ := hv1
  refine Gro2.check (.tmp 25) (⟨p, 0, none⟩) rfl rfl rfl rfl (fun A2 hA => ?_)
  simp [Act.put] at hA
  subst hA
  refine Gro2.take0 1 (by kernel_rfl) ?_
  simp only [List.take, List.drop, List.length]
  repeat (go_big_quiet_step (fail))
  refine wpQuiet_nil ?_
  refine Gro2.turn (fun v => v = undef) (fun _ w9 => Lies w9 p (.cells #[.int .i64 (n : Int), .int .u64 (W64 (fs.1)), .int .i64 (fs.2), .int .u64 (W64 (s2.1)), .int .i64 (s2.2), (.func (Fn.func 20) #[] #[]), .slice a (T : Nat) cap, .int .u64 (W64 long)] 82 (0, 0)) ∧ BRow w9 r3 lb c3 m ∧ ∀ y, r3 = some y → p < y.block) rfl rfl ⟨_, rfl⟩ (fun w1 hB hG => ?_) (fun v3 A3 hv3 hA => ?_)
  · obtain ⟨nq, rfl⟩ : ∃ nq, w1 = g nq := hB
    obtain ⟨r4, c4, e2, hrow, hfr⟩ := hG
    cases e2
    have HX := Lib.hid (HGB.out nq)
    have c3 := cell_of_row _ _ 3 _ _ _ HX.out.1
    have c4 := cell_of_row _ _ 4 _ _ _ HX.out.1
    have cf := fun i => frozen_of_row _ _ i _ _ HX.out.1
    have HP := Lib.hid (puts_28 (.int .u64 (W64 (s2.1))) (.int .i64 (s2.2)) HX.out.1)
    have HROW := Lib.hid (hrow.but (by simp) (fun y e _ => HP.out.2.1 _ (by have := hfr y e; omega)))
    have HFR := Lib.hid hfr
    have HLI := Lib.hid (show Lies _ _ _ from HP.out.1)
    clear hrow hfr s0 s1
    go_simp
    exact ⟨HBA.out _ ⟨⟨_, _, _, _, HP.out.1⟩, HP.out.2.2 _ (But.of_new HX.out.2.2)⟩, HLI.out, HROW.out, HFR.out⟩
  simp [Act.put] at hA
  subst hA
  refine Gro2.check (.tmp 26) (⟨p, 0, none⟩) rfl rfl rfl rfl (fun A4 hA => ?_)
  simp [Act.put] at hA
  subst hA
  refine Gro2.take0 1 (by kernel_rfl) ?_
  simp only [List.take, List.drop, List.length]
  repeat (go_big_quiet_step (fail))
  refine wpQuiet_nil ?_
  refine Gro2.turn (fun v => v = undef) (fun _ w9 => Lies w9 p (.cells #[.int .i64 (n : Int), .int .u64 (W64 (fs.1)), .int .i64 (fs.2), .int .u64 (W64 (s2.1)), .int .i64 (s2.2), (.func (Fn.func 20) #[] #[]), .slice a (T : Nat) cap, .int .u64 (W64 long2)] 82 (0, 0)) ∧ BRow w9 r3 lb c3 m ∧ ∀ y, r3 = some y → p < y.block) rfl rfl ⟨_, rfl⟩ (fun w1 hB hG => ?_) (fun v5 A5 hv5 hA => ?_)
  · obtain ⟨nq, rfl⟩ : ∃ nq, w1 = f nq := hB
    obtain ⟨hli, hrow, hfr⟩ := hG
    have HX := Lib.hid (HFA.out nq)
    have HLI0 := Lib.hid hli
    have HFR := Lib.hid hfr
    have c0 := cell_of_row _ _ 7 _ _ _ HLI0.out
    have cf := fun i => frozen_of_row _ _ i _ _ HLI0.out
    have HP := Lib.hid (putl_28 (.int .u64 (W64 long2)) HLI0.out)
    have HROW := Lib.hid (hrow.but (by simp) (fun y e _ => HP.out.2.1 _ (by have := hfr y e; omega)))
    have HLI := Lib.hid (show Lies _ _ _ from HP.out.1)
    clear hrow hfr hli s0 s1
    go_simp
    exact ⟨HBA.out _ ⟨⟨_, _, _, _, HP.out.1⟩, HP.out.2.2 _ HX.out.2⟩, HLI.out, HROW.out, HFR.out⟩
  simp [Act.put] at hA
  subst hA
  refine Gro2.check (.tmp 27) (⟨p, 0, none⟩) rfl rfl rfl rfl (fun A6 hA => ?_)
  simp [Act.put] at hA
  subst hA
  refine Gro2.take0 1 (by kernel_rfl) ?_
  simp only [List.take, List.drop, List.length]
  repeat (go_big_quiet_step (fail))
  refine wpQuiet_nil ?_
  refine Gro2.turn (fun v => v = undef) (fun _ w9 => Lies w9 p (.cells #[.int .i64 (n : Int), .int .u64 (W64 (fs.1)), .int .i64 (fs.2), .int .u64 (W64 (s2.1)), .int .i64 (s2.2), (.func (Fn.func 20) #[] #[]), .slice r3 (lb : Nat) c3, .int .u64 (W64 long2)] 82 (0, 0)) ∧ BRow w9 r3 lb c3 m ∧ ∀ y, r3 = some y → p < y.block) rfl rfl ⟨_, rfl⟩ (fun w1 hB hG => ?_) (fun v7 A7 hv7 hA => ?_)
  · obtain ⟨nq, rfl⟩ : ∃ nq, w1 = f nq := hB
    obtain ⟨hli, hrow, hfr⟩ := hG
    have HX := Lib.hid (HFA.out nq)
    have HLI0 := Lib.hid hli
    have HFR := Lib.hid hfr
    have c0 := cell_of_row _ _ 6 _ _ _ HLI0.out
    have cf := fun i => frozen_of_row _ _ i _ _ HLI0.out
    have HP := Lib.hid (putt_28 (.slice r3 (lb : Nat) c3) HLI0.out)
    have HROW := Lib.hid (hrow.but (by simp) (fun y e _ => HP.out.2.1 _ (by have := hfr y e; omega)))
    have HLI := Lib.hid (show Lies _ _ _ from HP.out.1)
    clear hrow hfr hli s0 s1
    go_simp
    exact ⟨HBA.out _ ⟨⟨_, _, _, _, HP.out.1⟩, HP.out.2.2 _ HX.out.2⟩, HLI.out, HROW.out, HFR.out⟩
  simp [Act.put] at hA
  subst hA
  refine Gro2.nil ?_
  rintro w9 ⟨n9, rfl⟩ hG
  obtain ⟨hli, hrow, _⟩ := hG
  have HBUT := Lib.hid ((But.of_new HAL.out).trans (HFA.out n9).2)
  have HLI := Lib.hid hli
  have HROW := Lib.hid hrow
  clear HFA HBA HGB HBB hli hrow s0 s1
  generalize f n9 = w9 at *
  go_wp2
  go_ret
  refine ⟨rfl, ⟨r3, c3, ?_, ?_⟩, HBUT.out⟩
  · rw [HML.out]; exact HLI.out
  · rw [HML.out]; exact HROW.out
theorem set_n_28 (s2 : BitVec 64 × Int) (l v : Value) (w : World) : Calls Try.prog 33 #[.pointer none, .agg #[.int .u64 (W64 (s2.1)), .int .i64 (s2.2)], l, v] w fun e w' => e = .returned (.bool false) ∧ New w w' := by
  go_enter Try.func33, Try.ntmps33
  go_wp2_with (refine (made_n_28 _).mono ?_; rintro e w' ⟨rfl, rfl⟩)
  go_ret
  exact ⟨rfl, (New.refl w).alloc _⟩
set_option maxRecDepth 100000 in
set_option maxHeartbeats 4000000 in
theorem fold_28 (i : Int) (st : BitVec 64 × Int) (b : Option Addr) (lb cb : Nat) (l : List (BitVec 8)) (w : World) (hm : BRow w b lb cb l) :
    Calls Try.prog 28 #[.int .i64 i, .agg #[.int .u64 (W64 (st.1)), .int .i64 (st.2)], (.func (Fn.func 20) #[] #[]), .slice b lb cb] w fun e w' => ∃ a c, e = .returned (.tuple #[.agg #[.int .u64 (W64 ((bState (szN i) stp28 st l).1)), .int .i64 ((bState (szN i) stp28 st l).2)], .slice a (lb % (szN i) : Nat) c]) ∧ BRow w' a (lb % (szN i)) c (bTail (szN i) l) ∧ New w w' := by
  have HSZ : Hid (∀ w : World, Calls Try.prog 80 #[.int .i64 i] w fun e w' => e = .returned (.int .i64 ((szN i : Nat) : Int)) ∧ w' = w) := Lib.hid fun w => size_of i w
  have HMR := Lib.hid hm
  have HPS := Lib.hid (fun (w' : World) r c (hrw : BRow w' r lb c l) => pass_28 st (szN i) (szN_in i) r lb c l w' hrw)
  have HZ := Lib.hid (two_blocks w (.cells #[.int .u64 (W64 (st.1)), .int .i64 (st.2)] 27) (.cells #[.int .u64 0, .int .i64 0] 27))
  clear hm
  generalize (bState (szN i) stp28 st l) = nst at *
  generalize (bTail (szN i) l) = ntl at *
  go_enter Try.func28, Try.ntmps28
  go_wp2_with fail
  refine Gro2.wp_region_gro2S (fun w' => (∃ u0 u1 : Value, w'.heap[w.heap.size + 1]? = some (.cells #[u0, u1] 27 (0, 0))) ∧ New w w') (fun w' => w'.heap[w.heap.size]? = some (.cells #[.int .u64 (W64 (st.1)), .int .i64 (st.2)] 27 (0, 0)) ∧ w'.heap[w.heap.size + 1]? = some (.cells #[.int .u64 0, .int .i64 0] 27 (0, 0)) ∧ New w w') [0,2,1,0,0,2,2,0,0,3,0] (by kernel_rfl) (by kernel_rfl) (by kernel_rfl) (fun w' hw' => ⟨⟨_, _, hw'.2.1⟩, hw'.2.2⟩) (⟨HZ.out.1, HZ.out.2.1, HZ.out.2.2.drew⟩) ?_
  intro I J _ _ f g hfa hba hgb hbb
  have HFA := Lib.hid hfa
  have HBA := Lib.hid hba
  have HGB := Lib.hid hgb
  have HBB := Lib.hid hbb
  have s0 := fun n => cell_of_row _ _ 0 _ _ _ (hgb n).1
  have s1 := fun n => cell_of_row _ _ 1 _ _ _ (hgb n).1
  clear hfa hba hgb hbb
  refine Gro2.take0 1 (by kernel_rfl) ?_
  simp only [List.take, List.drop, List.length]
  repeat (go_big_quiet_step (fail))
  refine wpQuiet_nil ?_
  refine Gro2.callt (fun v => v = .int .i64 ((szN i : Nat) : Int)) (fun _ _ => True) rfl rfl (⟨_, rfl⟩) (fun w1 hB hG => ?_) (fun v1 A1 hv1 hA => ?_)
  · obtain ⟨nq, rfl⟩ := hB
    go_simp
    refine (HSZ.out _).mono ?_
    rintro e w2 ⟨rfl, rfl⟩
    first | exact ⟨_, rfl, ⟨nq, rfl⟩, rfl, trivial⟩ | exact ⟨⟨nq, rfl⟩, rfl⟩ | exact ⟨rfl, ⟨nq, rfl⟩⟩ | exact ⟨nq, rfl⟩
  simp [Act.put] at hA
  subst hA
  obtain rfl := hv1
  refine Gro2.take1 1 (by kernel_rfl) ?_
  simp only [List.take, List.drop, List.length]
  repeat (go_big_quiet_step (fail))
  refine wpQuiet_nil ?_
  refine Gro2.take0 2 (by kernel_rfl) ?_
  simp only [List.take, List.drop, List.length]
  repeat (go_big_quiet_step (fail))
  refine wpQuiet_nil ?_
  refine Gro2.callt (fun v => ∃ r c, v = .slice r (lb : Nat) c) (fun v w' => ∃ r c, v = .slice r (lb : Nat) c ∧ BRow w' r lb c l) rfl rfl (⟨_, none, 0, rfl⟩) (fun w1 hB hG => ?_) (fun v2 A2 hv2 hA => ?_)
  · obtain ⟨nq, rfl⟩ := hB
    clear s0 s1
    go_simp
    refine (clone_b _ _ _ _ _ (HMR.out.stay (HGB.out nq).2.2)).mono ?_
    rintro e w2 ⟨r, c, rfl, hrow, hfr, hn⟩
    have HX := HBB.out _ ⟨(hn.block _ (lt_of_block (HGB.out nq).1)).trans (HGB.out nq).1, (hn.block _ (lt_of_block (HGB.out nq).2.1)).trans (HGB.out nq).2.1, (HGB.out nq).2.2.trans hn⟩
    exact ⟨_, rfl, HX, ⟨_, _, rfl⟩, ⟨_, _, rfl, hrow⟩⟩
  simp [Act.put] at hA
  subst hA
  obtain ⟨r2, c2, rfl⟩ := hv2
  refine Gro2.callt (fun v => ∃ r c, v = .tuple #[.agg #[.int .u64 (W64 (nst.1)), .int .i64 (nst.2)], .slice r (lb % (szN i) : Nat) c]) (fun v w' => ∃ r c, v = .tuple #[.agg #[.int .u64 (W64 (nst.1)), .int .i64 (nst.2)], .slice r (lb % (szN i) : Nat) c] ∧ BRow w' r (lb % (szN i)) c ntl ∧ ∀ y, r = some y → w.heap.size + 1 < y.block) rfl rfl (⟨_, none, 0, rfl⟩) (fun w1 hB hG => ?_) (fun v3 A3 hv3 hA => ?_)
  · obtain ⟨nq, rfl⟩ := hB
    obtain ⟨r3, c3, e2, hz⟩ := hG
    cases e2
    have HZ2 := Lib.hid hz
    clear hz s0 s1
    go_simp
    refine (HPS.out _ _ _ HZ2.out).mono ?_
    rintro e w2 ⟨r, c, rfl, hrow, hfr, hn⟩
    have HX := HBB.out _ ⟨(hn.block _ (lt_of_block (HGB.out nq).1)).trans (HGB.out nq).1, (hn.block _ (lt_of_block (HGB.out nq).2.1)).trans (HGB.out nq).2.1, (HGB.out nq).2.2.trans hn⟩
    have hlt := lt_of_block (HGB.out nq).2.1
    have HR2 : ∀ y, r = some y → w.heap.size + 1 < y.block := fun y e => by have := hfr y e; omega
    exact ⟨_, rfl, HX, ⟨_, _, rfl⟩, ⟨_, _, rfl, hrow, HR2⟩⟩
  simp [Act.put] at hA
  subst hA
  obtain ⟨r3, c3, rfl⟩ := hv3
  refine Gro2.take0 2 (by kernel_rfl) ?_
  simp only [List.take, List.drop, List.length]
  repeat (go_big_quiet_step (fail))
  refine wpQuiet_nil ?_
  refine Gro2.turn (fun v => v = undef) (fun _ w9 => Lies w9 (w.heap.size + 1) (.cells #[.int .u64 (W64 (nst.1)), .int .i64 (nst.2)] 27 (0, 0)) ∧ BRow w9 r3 (lb % (szN i)) c3 ntl) rfl rfl ⟨_, rfl⟩ (fun w1 hB hG => ?_) (fun v4 A4 hv4 hA => ?_)
  · obtain ⟨nq, rfl⟩ : ∃ nq, w1 = g nq := hB
    obtain ⟨r4, c4, e2, hrow, hfr⟩ := hG
    cases e2
    have HX := Lib.hid (HGB.out nq)
    have c0 := cell_of_row _ _ 0 _ _ _ HX.out.2.1
    have c1 := cell_of_row _ _ 1 _ _ _ HX.out.2.1
    have cf := fun i => frozen_of_row _ _ i _ _ HX.out.2.1
    have HP := Lib.hid (put_28 (.int .u64 (W64 (nst.1))) (.int .i64 (nst.2)) HX.out.2.1)
    have HROW := Lib.hid (hrow.but (by simp) (fun y e _ => HP.out.2.1 _ (by have := hfr y e; omega)))
    have HLI := Lib.hid (show Lies _ _ _ from HP.out.1)
    clear hrow hfr s0 s1
    go_simp
    exact ⟨HBA.out _ ⟨⟨_, _, HP.out.1⟩, HP.out.2.2 _ HX.out.2.2 (by omega)⟩, HLI.out, HROW.out⟩
  simp [Act.put] at hA
  subst hA
  refine Gro2.take0 1 (by kernel_rfl) ?_
  simp only [List.take, List.drop, List.length]
  repeat (go_big_quiet_step (fail))
  refine wpQuiet_nil ?_
  refine Gro2.nil ?_
  rintro w9 ⟨n9, rfl⟩ hG
  obtain ⟨hli, hrow⟩ := hG
  have HN := Lib.hid (HFA.out n9).2
  have HROW := Lib.hid hrow
  have k0 := cell_of_row _ _ 0 _ _ _ hli
  have k1 := cell_of_row _ _ 1 _ _ _ hli
  clear HFA HBA HGB HBB hli hrow s0 s1
  generalize f n9 = w9 at *
  go_wp2
  refine bodyPost_ret (by simp [results, Try.results28, go_sem, k0, k1]; try rfl) rfl ?_
  exact ⟨r3, c3, rfl, HROW.out, HN.out⟩
end Go.Proofs.Ytegibnffingciaa
