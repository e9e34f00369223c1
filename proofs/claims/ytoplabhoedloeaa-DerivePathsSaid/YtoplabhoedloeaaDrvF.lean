/- Layer 45: the block's Fold at sip's state alone (a seat without the streams). -/
import Derived.Test.YtoplabhoedloeaaB34A
import Derived.Test.YtoplabhoedloeaaGro2
import Derived.Defers
import Derived.Recover
import Derived.Laws.Pointers
import Derived.Handy
import Derived.Laws.EntriesVeiled
import Derived.Deep.DeepCutAuto
namespace Go.Proofs.Ytoplabhoedloeaa
open Go.RowKit Go.Bv
set_option linter.unusedVariables false
set_option maxRecDepth 100000 in
set_option maxHeartbeats 4000000 in
theorem fold_34 (kd : Nat × Nat × Bool) (hkd : kd.1 ≤ 100) (st : BitVec 64 × BitVec 64 × BitVec 64 × BitVec 64) (b : Option Addr) (lb cb : Nat) (l : List (BitVec 8)) (w : World) (hm : BRow w b lb cb l) :
    Calls Try.prog 26 #[.int .i64 8, .agg #[.int .u64 (W64 (st.1)), .int .u64 (W64 (st.2.1)), .int .u64 (W64 (st.2.2.1)), .int .u64 (W64 (st.2.2.2))], (.func (Fn.func 28) #[.agg #[.int .i64 (kd.1 : Nat), .int .i64 (kd.2.1 : Nat), .bool kd.2.2]] #[]), .slice b lb cb] w fun e w' => ∃ a c, e = .returned (.tuple #[.agg #[.int .u64 (W64 ((bState 8 (stp34 kd) st l).1)), .int .u64 (W64 ((bState 8 (stp34 kd) st l).2.1)), .int .u64 (W64 ((bState 8 (stp34 kd) st l).2.2.1)), .int .u64 (W64 ((bState 8 (stp34 kd) st l).2.2.2))], .slice a (lb % 8 : Nat) c]) ∧ BRow w' a (lb % 8) c (bTail 8 l) ∧ New w w' := by
  have HSZ : Hid (∀ w : World, Calls Try.prog 37 #[.int .i64 8] w fun e w' => e = .returned (.int .i64 8) ∧ w' = w) := Lib.hid fun w => size_of 8 w
  have HMR := Lib.hid hm
  have HPS := Lib.hid (fun (w' : World) r c (hrw : BRow w' r lb c l) => pass_34 kd hkd st r lb c l w' hrw)
  have HZ := Lib.hid (two_blocks w (.cells #[.int .u64 (W64 (st.1)), .int .u64 (W64 (st.2.1)), .int .u64 (W64 (st.2.2.1)), .int .u64 (W64 (st.2.2.2))] 58) (.cells #[.int .u64 0, .int .u64 0, .int .u64 0, .int .u64 0] 58))
  clear hm
  generalize (bState 8 (stp34 kd) st l) = nst at *
  generalize (bTail 8 l) = ntl at *
  go_enter Try.func26, Try.ntmps26
  go_wp2_with fail
  refine Gro2.wp_region_gro2S (fun w' => (∃ u0 u1 u2 u3 : Value, w'.heap[w.heap.size + 1]? = some (.cells #[u0, u1, u2, u3] 58 (0, 0))) ∧ New w w') (fun w' => w'.heap[w.heap.size]? = some (.cells #[.int .u64 (W64 (st.1)), .int .u64 (W64 (st.2.1)), .int .u64 (W64 (st.2.2.1)), .int .u64 (W64 (st.2.2.2))] 58 (0, 0)) ∧ w'.heap[w.heap.size + 1]? = some (.cells #[.int .u64 0, .int .u64 0, .int .u64 0, .int .u64 0] 58 (0, 0)) ∧ New w w') [0,2,1,0,0,2,2,0,0,3,0] (by kernel_rfl) (by kernel_rfl) (by kernel_rfl) (fun w' hw' => ⟨⟨_, _, _, _, hw'.2.1⟩, hw'.2.2⟩) (⟨HZ.out.1, HZ.out.2.1, HZ.out.2.2.drew⟩) ?_
  intro I J _ _ f g hfa hba hgb hbb
  have HFA := Lib.hid hfa
  have HBA := Lib.hid hba
  have HGB := Lib.hid hgb
  have HBB := Lib.hid hbb
  have s0 := fun n => cell_of_row _ _ 0 _ _ _ (hgb n).1
  have s1 := fun n => cell_of_row _ _ 1 _ _ _ (hgb n).1
  have s2 := fun n => cell_of_row _ _ 2 _ _ _ (hgb n).1
  have s3 := fun n => cell_of_row _ _ 3 _ _ _ (hgb n).1
  clear hfa hba hgb hbb
  refine Gro2.take0 1 (by kernel_rfl) ?_
  simp only [List.take, List.drop, List.length]
  repeat (go_big_quiet_step (fail))
  refine wpQuiet_nil ?_
  refine Gro2.callt (fun v => v = .int .i64 8) (fun _ _ => True) rfl rfl (⟨_, rfl⟩) (fun w1 hB hG => ?_) (fun v1 A1 hv1 hA => ?_)
  · obtain ⟨nq, rfl⟩ := hB
    go_simp
    refine (HSZ.out _).mono ?_
    rintro e w2 ⟨rfl, rfl⟩
    first | exact ⟨_, rfl, ⟨nq, rfl⟩, rfl, trivial⟩ | exact ⟨⟨nq, rfl⟩, rfl⟩ | exact ⟨rfl, ⟨nq, rfl⟩⟩ | exact ⟨nq, rfl⟩
  simp [Act.put] at hA
  subst hA
  obtain rfl := hv1
  refine Gro2.take1 1 (by kernel_rfl) ?_
  simp only [List.take, List.drop, List.length]
  repeat (go_big_quiet_step (fail))
  refine wpQuiet_nil ?_
  refine Gro2.take0 2 (by kernel_rfl) ?_
  simp only [List.take, List.drop, List.length]
  repeat (go_big_quiet_step (fail))
  refine wpQuiet_nil ?_
  refine Gro2.callt (fun v => ∃ r c, v = .slice r (lb : Nat) c) (fun v w' => ∃ r c, v = .slice r (lb : Nat) c ∧ BRow w' r lb c l) rfl rfl (⟨_, none, 0, rfl⟩) (fun w1 hB hG => ?_) (fun v2 A2 hv2 hA => ?_)
  · obtain ⟨nq, rfl⟩ := hB
    clear s0 s1 s2 s3
    go_simp
    refine (clone_b _ _ _ _ _ (HMR.out.stay (HGB.out nq).2.2)).mono ?_
    rintro e w2 ⟨r, c, rfl, hrow, hfr, hn⟩
    have HX := HBB.out _ ⟨(hn.block _ (lt_of_block (HGB.out nq).1)).trans (HGB.out nq).1, (hn.block _ (lt_of_block (HGB.out nq).2.1)).trans (HGB.out nq).2.1, (HGB.out nq).2.2.trans hn⟩
    exact ⟨_, rfl, HX, ⟨_, _, rfl⟩, ⟨_, _, rfl, hrow⟩⟩
  simp [Act.put] at hA
  subst hA
  obtain ⟨r2, c2, rfl⟩ := hv2
  refine Gro2.callt (fun v => ∃ r c, v = .tuple #[.agg #[.int .u64 (W64 (nst.1)), .int .u64 (W64 (nst.2.1)), .int .u64 (W64 (nst.2.2.1)), .int .u64 (W64 (nst.2.2.2))], .slice r (lb % 8 : Nat) c]) (fun v w' => ∃ r c, v = .tuple #[.agg #[.int .u64 (W64 (nst.1)), .int .u64 (W64 (nst.2.1)), .int .u64 (W64 (nst.2.2.1)), .int .u64 (W64 (nst.2.2.2))], .slice r (lb % 8 : Nat) c] ∧ BRow w' r (lb % 8) c ntl ∧ ∀ y, r = some y → w.heap.size + 1 < y.block) rfl rfl (⟨_, none, 0, rfl⟩) (fun w1 hB hG => ?_) (fun v3 A3 hv3 hA => ?_)
  · obtain ⟨nq, rfl⟩ := hB
    obtain ⟨r3, c3, e2, hz⟩ := hG
    cases e2
    have HZ2 := Lib.hid hz
    clear hz s0 s1 s2 s3
    go_simp
    refine (HPS.out _ _ _ HZ2.out).mono ?_
    rintro e w2 ⟨r, c, rfl, hrow, hfr, hn⟩
    have HX := HBB.out _ ⟨(hn.block _ (lt_of_block (HGB.out nq).1)).trans (HGB.out nq).1, (hn.block _ (lt_of_block (HGB.out nq).2.1)).trans (HGB.out nq).2.1, (HGB.out nq).2.2.trans hn⟩
    have hlt := lt_of_block (HGB.out nq).2.1
    have HR2 : ∀ y, r = some y → w.heap.size + 1 < y.block := fun y e => by have := hfr y e; omega
    exact ⟨_, rfl, HX, ⟨_, _, rfl⟩, ⟨_, _, rfl, hrow, HR2⟩⟩
  simp [Act.put] at hA
  subst hA
  obtain ⟨r3, c3, rfl⟩ := hv3
  refine Gro2.take0 2 (by kernel_rfl) ?_
  simp only [List.take, List.drop, List.length]
  repeat (go_big_quiet_step (fail))
  refine wpQuiet_nil ?_
  refine Gro2.turn (fun v => v = undef) (fun _ w9 => Lies w9 (w.heap.size + 1) (.cells #[.int .u64 (W64 (nst.1)), .int .u64 (W64 (nst.2.1)), .int .u64 (W64 (nst.2.2.1)), .int .u64 (W64 (nst.2.2.2))] 58 (0, 0)) ∧ BRow w9 r3 (lb % 8) c3 ntl) rfl rfl ⟨_, rfl⟩ (fun w1 hB hG => ?_) (fun v4 A4 hv4 hA => ?_)
  · obtain ⟨nq, rfl⟩ : ∃ nq, w1 = g nq := hB
    obtain ⟨r4, c4, e2, hrow, hfr⟩ := hG
    cases e2
    have HX := Lib.hid (HGB.out nq)
    have c0 := cell_of_row _ _ 0 _ _ _ HX.out.2.1
    have c1 := cell_of_row _ _ 1 _ _ _ HX.out.2.1
    have c2 := cell_of_row _ _ 2 _ _ _ HX.out.2.1
    have c3 := cell_of_row _ _ 3 _ _ _ HX.out.2.1
    have cf := fun i => frozen_of_row _ _ i _ _ HX.out.2.1
    have HP := Lib.hid (put_34 (.int .u64 (W64 (nst.1))) (.int .u64 (W64 (nst.2.1))) (.int .u64 (W64 (nst.2.2.1))) (.int .u64 (W64 (nst.2.2.2))) HX.out.2.1)
    have HROW := Lib.hid (hrow.but (by simp) (fun y e _ => HP.out.2.1 _ (by have := hfr y e; omega)))
    have HLI := Lib.hid (show Lies _ _ _ from HP.out.1)
    clear hrow hfr s0 s1 s2 s3
    go_simp
    exact ⟨HBA.out _ ⟨⟨_, _, _, _, HP.out.1⟩, HP.out.2.2 _ HX.out.2.2 (by omega)⟩, HLI.out, HROW.out⟩
  simp [Act.put] at hA
  subst hA
  refine Gro2.take0 1 (by kernel_rfl) ?_
  simp only [List.take, List.drop, List.length]
  repeat (go_big_quiet_step (fail))
  refine wpQuiet_nil ?_
  refine Gro2.nil ?_
  rintro w9 ⟨n9, rfl⟩ hG
  obtain ⟨hli, hrow⟩ := hG
  have HN := Lib.hid (HFA.out n9).2
  have HROW := Lib.hid hrow
  have k0 := cell_of_row _ _ 0 _ _ _ hli
  have k1 := cell_of_row _ _ 1 _ _ _ hli
  have k2 := cell_of_row _ _ 2 _ _ _ hli
  have k3 := cell_of_row _ _ 3 _ _ _ hli
  clear HFA HBA HGB HBB hli hrow s0 s1 s2 s3
  generalize f n9 = w9 at *
  go_wp2
  refine bodyPost_ret (by simp [results, Try.results26, go_sem, k0, k1, k2, k3]; try rfl) rfl ?_
  exact ⟨r3, c3, rfl, HROW.out, HN.out⟩
end Go.Proofs.Ytoplabhoedloeaa
