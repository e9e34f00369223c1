/- Layer 31: Lanes of a hash. -/
import Derived.Test.YtegibnffingciaaM31H
import Derived.Test.YtegibnffingciaaHshE
import Derived.Defers
import Derived.Recover
import Derived.Laws.Pointers
import Derived.Handy
import Derived.Laws.EntriesVeiled
namespace Go.Proofs.Ytegibnffingciaa
open Go.RowKit Go.Bv
set_option linter.unusedVariables false
set_option maxRecDepth 100000 in
set_option maxHeartbeats 2000000 in
theorem hlanes_31 (p h : Nat) (fs st : BitVec 64 × BitVec 64) (tl : List (BitVec 8)) (long : BitVec 64) (w : World) (hx : w.heap[h]? = some (.cells #[.pointer (some ⟨p, 0, none⟩)] 134 (0, 0))) (hs : Strm_31 w p 16 fs st tl long) :
    Calls Try.prog 74 #[.pointer (some ⟨h, 0, none⟩)] w fun e w' => ∃ a c, e = .returned (.tuple #[.agg #[.int .u64 (W64 (st.1)), .int .u64 (W64 (st.2)), .int .u64 0, .int .u64 0], .int .u64 (W64 long), .slice a tl.length c]) ∧ BRow w' a tl.length c tl ∧ New w w' := by
  have HC := Lib.hid (fun w' (hn : New w w') => content_31 p h w' ((hn.block _ (lt_of_block hx)).trans hx))
  have HS1 := Lib.hid (fun w' (hn : New w w') => state_31 p 16 fs st tl long w' (by omega) (hs.stay hn))
  have HS2 := Lib.hid (fun w' (hn : New w w') => tail_31 p 16 fs st tl long w' (by omega) (hs.stay hn))
  have HS3 := Lib.hid (fun w' (hn : New w w') => long_31 p 16 fs st tl long w' (by omega) (hs.stay hn))
  clear hx hs
  have HO := Lib.hid (heap_alloc_new w (.cells #[.int .u64 0, .int .u64 0, .int .u64 0, .int .u64 0] 59))
  have HN := Lib.hid ((New.refl w).alloc (.cells #[.int .u64 0, .int .u64 0, .int .u64 0, .int .u64 0] 59))
  go_enter Try.func74, Try.ntmps74
  go_wp2_with fail
  refine (HC.out _ HN.out).mono ?_
  rintro e w9 ⟨rfl, rfl⟩
  go_wp2_with fail
  refine (HS1.out _ HN.out).mono ?_
  rintro e w9 ⟨rfl, hn⟩
  replace HO := Lib.hid ((hn.block _ (lt_of_block HO.out)).trans HO.out)
  replace HN := Lib.hid (HN.out.trans hn)
  clear hn
  have hx := heap_alloc_new w9 (.cells #[.int .u64 (W64 (st.1)), .int .u64 (W64 (st.2))] 125)
  have hn2 := (New.refl w9).alloc (.cells #[.int .u64 (W64 (st.1)), .int .u64 (W64 (st.2))] 125)
  obtain ⟨qHM, hq⟩ : ∃ q, w9.heap.size = q := ⟨_, rfl⟩
  have hle := HN.out.le
  rw [hq] at hx hle
  have hw0 := And.intro (rfl : w9.alloc (.cells #[.int .u64 (W64 (st.1)), .int .u64 (W64 (st.2))] 125) = w9.alloc (.cells #[.int .u64 (W64 (st.1)), .int .u64 (W64 (st.2))] 125)) hq
  have HLTHM0 := Lib.hid (show w.heap.size < qHM from hq ▸ lt_of_block HO.out)
  generalize hw2 : w9.alloc (.cells #[.int .u64 (W64 (st.1)), .int .u64 (W64 (st.2))] 125) = w10 at hx hn2 hw0
  have HE := Lib.hid (show w9.alloc (.cells #[.int .u64 (W64 (st.1)), .int .u64 (W64 (st.2))] 125) = w10 ∧ w9.heap.size = qHM from ⟨hw2, hq⟩)
  clear hw0 hw2
  replace HO := Lib.hid ((hn2.block _ (lt_of_block HO.out)).trans HO.out)
  replace HN := Lib.hid (HN.out.trans hn2)
  have HM := Lib.hid hx
  have HLHM := Lib.hid hle
  clear hx hn2 hq hle
  go_wp2_with (rw [HE.out.1, HE.out.2])
  clear HE
  refine Gro3.wp_region_gro3S (fun w' => (∃ u0 u1 u2 u3 : Value, w'.heap[w.heap.size]? = some (.cells #[u0, u1, u2, u3] 59 (0, 0))) ∧ New w w') (fun w' => w'.heap[w.heap.size]? = some (.cells #[.int .u64 0, .int .u64 0, .int .u64 0, .int .u64 0] 59 (0, 0)) ∧ w'.heap[qHM]? = some (.cells #[.int .u64 (W64 (st.1)), .int .u64 (W64 (st.2))] 125 (0, 0)) ∧ New w10 w') [0,1,0,1,0,0,2,0,2,3,0,0] New (fun _ _ _ => True) (by kernel_rfl) (by kernel_rfl) (by kernel_rfl) (fun _ _ _ _ _ _ => trivial) (fun w' hw' => ⟨⟨_, _, _, _, hw'.1⟩, HN.out.trans hw'.2.2⟩) (⟨HO.out, HM.out, (New.refl _).drew⟩) ?_
  intro I J _ _ f g hfa hba hgb hbb
  have HFA := Lib.hid hfa
  have HBA := Lib.hid hba
  have HGB := Lib.hid hgb
  have HBB := Lib.hid hbb
  have s0 := fun n => cell_of_row _ _ 0 _ _ _ (hgb n).2.1
  have s1 := fun n => cell_of_row _ _ 1 _ _ _ (hgb n).2.1
  clear hfa hba hgb hbb
  refine Gro3.take0 1 (by kernel_rfl) ?_
  simp only [List.take, List.drop, List.length]
  repeat (go_big_quiet_step (fail))
  refine wpQuiet_nil ?_
  refine Gro3.take1 1 (by kernel_rfl) ?_
  simp only [List.take, List.drop, List.length]
  repeat (go_big_quiet_step (fail))
  refine wpQuiet_nil ?_
  refine Gro3.take0 1 (by kernel_rfl) ?_
  simp only [List.take, List.drop, List.length]
  repeat (go_big_quiet_step (fail))
  refine wpQuiet_nil ?_
  refine Gro3.take1 1 (by kernel_rfl) ?_
  simp only [List.take, List.drop, List.length]
  repeat (go_big_quiet_step (fail))
  refine wpQuiet_nil ?_
  refine Gro3.take0 2 (by kernel_rfl) ?_
  simp only [List.take, List.drop, List.length]
  repeat (go_big_quiet_step (fail))
  refine wpQuiet_nil ?_
  refine Gro3.callt (fun v => v = .int .u64 (W64 long)) (fun _ _ => True) rfl rfl (⟨_, rfl⟩) (fun _ _ _ _ _ => trivial) (fun w1 hB hG => ?_) (fun v1 A1 hv1 hA => ?_)
  · obtain ⟨nq, rfl⟩ := hB
    clear s0 s1
    go_simp
    refine (HS3.out _ (HN.out.trans (HGB.out nq).2.2)).mono ?_
    rintro e w2 ⟨rfl, rfl⟩
    first | exact ⟨_, rfl, ⟨nq, rfl⟩, New.refl _, rfl⟩ | exact ⟨_, rfl, ⟨nq, rfl⟩, New.refl _, rfl, trivial⟩ | exact ⟨⟨nq, rfl⟩, New.refl _⟩
  simp [Act.put] at hA
  subst hA
  obtain rfl := hv1
  refine Gro3.take0 1 (by kernel_rfl) ?_
  simp only [List.take, List.drop, List.length]
  repeat (go_big_quiet_step (fail))
  refine wpQuiet_nil ?_
  refine Gro3.callt (fun v => ∃ r c, v = .slice r (tl.length : Nat) c) (fun v w' => ∃ r c, v = .slice r (tl.length : Nat) c ∧ BRow w' r (tl.length) c tl) rfl rfl (⟨_, none, 0, rfl⟩) (fun v w w' hn h => by obtain ⟨r, c, e, hr⟩ := h; exact ⟨r, c, e, hr.stay hn⟩) (fun w1 hB hG => ?_) (fun v2 A2 hv2 hA => ?_)
  · obtain ⟨nq, rfl⟩ := hB
    clear s0 s1
    go_simp
    refine (HS2.out _ (HN.out.trans (HGB.out nq).2.2)).mono ?_
    rintro e w2 ⟨r, c, rfl, hrow, hn⟩
    have HX := HBB.out _ ⟨(hn.block _ (lt_of_block (HGB.out nq).1)).trans (HGB.out nq).1, (hn.block _ (lt_of_block (HGB.out nq).2.1)).trans (HGB.out nq).2.1, (HGB.out nq).2.2.trans hn⟩
    exact ⟨_, rfl, HX, hn, ⟨_, _, rfl⟩, ⟨_, _, rfl, hrow⟩⟩
  simp [Act.put] at hA
  subst hA
  obtain ⟨ra, ca, rfl⟩ := hv2
  refine Gro3.turn (fun v => v = undef) (fun _ w9 => Lies w9 (w.heap.size) (.cells #[.int .u64 (W64 (st.1)), .int .u64 (W64 (st.2)), .int .u64 0, .int .u64 0] 59 (0, 0)) ∧ BRow w9 ra tl.length ca tl) rfl rfl ⟨_, rfl⟩ (fun w1 hB hG => ?_) (fun v3 A3 hv3 hA => ?_)
  · obtain ⟨nq, rfl⟩ : ∃ nq, w1 = g nq := hB
    obtain ⟨r5, c5, e5, hz⟩ := hG
    cases e5
    have HX := Lib.hid (HGB.out nq)
    have c0 := cell_of_row _ _ 0 _ _ _ HX.out.1
    have c1 := cell_of_row _ _ 1 _ _ _ HX.out.1
    have c2 := cell_of_row _ _ 2 _ _ _ HX.out.1
    have c3 := cell_of_row _ _ 3 _ _ _ HX.out.1
    have cf := fun i => frozen_of_row _ _ i _ _ HX.out.1
    have HP := Lib.hid (put4h (.int .u64 (W64 (st.1))) (.int .u64 (W64 (st.2))) (.int .u64 0) (.int .u64 0) HX.out.1)
    have HROW := Lib.hid (hz.but (by simp) (fun y e h0 => HP.out.2.1 _ (hz.apart ⟨_, _, _, HX.out.1, by simp⟩ y e h0)))
    clear hz
    have HLI := Lib.hid (show Lies _ _ _ from HP.out.1)
    clear s0 s1
    go_simp
    exact ⟨HBA.out _ ⟨⟨_, _, _, _, HLI.out⟩, HP.out.2.2 _ (HN.out.trans HX.out.2.2) (Nat.le_refl _)⟩, HLI.out, HROW.out⟩
  simp [Act.put] at hA
  subst hA
  refine Gro3.take0 2 (by kernel_rfl) ?_
  simp only [List.take, List.drop, List.length]
  repeat (go_big_quiet_step (fail))
  refine wpQuiet_nil ?_
  refine Gro3.nil ?_
  rintro w11 ⟨n9, rfl⟩ hG
  obtain ⟨hli, hrow⟩ := hG
  have HZ0 := Lib.hid (show (f n9).heap[w.heap.size]? = _ from hli)
  have HROW := Lib.hid hrow
  clear hli hrow
  have HNZ := Lib.hid (HFA.out n9).2
  clear HFA HBA HGB HBB s0 s1 HM HO HN
  generalize f n9 = w9 at *
  have z0 := cell_of_row _ _ 0 _ _ _ HZ0.out
  have z1 := cell_of_row _ _ 1 _ _ _ HZ0.out
  have z2 := cell_of_row _ _ 2 _ _ _ HZ0.out
  have z3 := cell_of_row _ _ 3 _ _ _ HZ0.out
  go_wp2
  refine bodyPost_ret (by simp [results, Try.results74, go_sem, z0, z1, z2, z3]; try rfl) rfl ?_
  exact ⟨_, _, rfl, HROW.out, HNZ.out⟩
set_option maxRecDepth 100000 in
set_option maxHeartbeats 2000000 in
theorem hlanes_n_31 (w : World) : Calls Try.prog 74 #[.pointer none] w fun e w' => e = .returned (.tuple #[.agg #[.int .u64 0, .int .u64 0, .int .u64 0, .int .u64 0], .int .u64 0, .slice none 0 0]) ∧ New w w' := by
  have HO := Lib.hid (heap_alloc_new w (.cells #[.int .u64 0, .int .u64 0, .int .u64 0, .int .u64 0] 59))
  have HN := Lib.hid ((New.refl w).alloc (.cells #[.int .u64 0, .int .u64 0, .int .u64 0, .int .u64 0] 59))
  go_enter Try.func74, Try.ntmps74
  go_wp2_with fail
  refine (content_n_31 _).mono ?_
  rintro e w9 ⟨rfl, rfl⟩
  go_wp2_with fail
  refine (state_n_31 _).mono ?_
  rintro e w9 ⟨rfl, hn⟩
  replace HO := Lib.hid ((hn.block _ (lt_of_block HO.out)).trans HO.out)
  replace HN := Lib.hid (HN.out.trans hn)
  clear hn
  have hx := heap_alloc_new w9 (.cells #[.int .u64 0, .int .u64 0] 125)
  have hn2 := (New.refl w9).alloc (.cells #[.int .u64 0, .int .u64 0] 125)
  go_wp2_with fail
  replace HO := Lib.hid ((hn2.block _ (lt_of_block HO.out)).trans HO.out)
  replace HN := Lib.hid (HN.out.trans hn2)
  generalize w9.alloc (.cells #[.int .u64 0, .int .u64 0] 125) = w10 at *
  generalize w9.heap.size = qHM at *
  have HM := Lib.hid hx
  clear hx hn2
  refine Gro3.wp_region_gro3S (fun w' => (∃ u0 u1 u2 u3 : Value, w'.heap[w.heap.size]? = some (.cells #[u0, u1, u2, u3] 59 (0, 0))) ∧ New w w') (fun w' => w'.heap[w.heap.size]? = some (.cells #[.int .u64 0, .int .u64 0, .int .u64 0, .int .u64 0] 59 (0, 0)) ∧ w'.heap[qHM]? = some (.cells #[.int .u64 0, .int .u64 0] 125 (0, 0)) ∧ New w10 w') [0,1,0,1,0,0,2,0,2,3,0,0] New (fun _ _ _ => True) (by kernel_rfl) (by kernel_rfl) (by kernel_rfl) (fun _ _ _ _ _ _ => trivial) (fun w' hw' => ⟨⟨_, _, _, _, hw'.1⟩, HN.out.trans hw'.2.2⟩) (⟨HO.out, HM.out, (New.refl _).drew⟩) ?_
  intro I J _ _ f g hfa hba hgb hbb
  have HFA := Lib.hid hfa
  have HBA := Lib.hid hba
  have HGB := Lib.hid hgb
  have HBB := Lib.hid hbb
  have s0 := fun n => cell_of_row _ _ 0 _ _ _ (hgb n).2.1
  have s1 := fun n => cell_of_row _ _ 1 _ _ _ (hgb n).2.1
  clear hfa hba hgb hbb
  refine Gro3.take0 1 (by kernel_rfl) ?_
  simp only [List.take, List.drop, List.length]
  repeat (go_big_quiet_step (fail))
  refine wpQuiet_nil ?_
  refine Gro3.take1 1 (by kernel_rfl) ?_
  simp only [List.take, List.drop, List.length]
  repeat (go_big_quiet_step (fail))
  refine wpQuiet_nil ?_
  refine Gro3.take0 1 (by kernel_rfl) ?_
  simp only [List.take, List.drop, List.length]
  repeat (go_big_quiet_step (fail))
  refine wpQuiet_nil ?_
  refine Gro3.take1 1 (by kernel_rfl) ?_
  simp only [List.take, List.drop, List.length]
  repeat (go_big_quiet_step (fail))
  refine wpQuiet_nil ?_
  refine Gro3.take0 2 (by kernel_rfl) ?_
  simp only [List.take, List.drop, List.length]
  repeat (go_big_quiet_step (fail))
  refine wpQuiet_nil ?_
  refine Gro3.callt (fun v => v = .int .u64 0) (fun _ _ => True) rfl rfl (⟨_, rfl⟩) (fun _ _ _ _ _ => trivial) (fun w1 hB hG => ?_) (fun v1 A1 hv1 hA => ?_)
  · obtain ⟨nq, rfl⟩ := hB
    clear s0 s1
    go_simp
    refine (long_n_31 _).mono ?_
    rintro e w2 ⟨rfl, rfl⟩
    first | exact ⟨_, rfl, ⟨nq, rfl⟩, New.refl _, rfl⟩ | exact ⟨_, rfl, ⟨nq, rfl⟩, New.refl _, rfl, trivial⟩ | exact ⟨⟨nq, rfl⟩, New.refl _⟩
  simp [Act.put] at hA
  subst hA
  obtain rfl := hv1
  refine Gro3.take0 1 (by kernel_rfl) ?_
  simp only [List.take, List.drop, List.length]
  repeat (go_big_quiet_step (fail))
  refine wpQuiet_nil ?_
  refine Gro3.callt (fun v => v = .slice none 0 0) (fun _ _ => True) rfl rfl (⟨_, rfl⟩) (fun _ _ _ _ _ => trivial) (fun w1 hB hG => ?_) (fun v2 A2 hv2 hA => ?_)
  · obtain ⟨nq, rfl⟩ := hB
    clear s0 s1
    go_simp
    refine (tail_n_31 _).mono ?_
    rintro e w2 ⟨rfl, rfl⟩
    first | exact ⟨_, rfl, ⟨nq, rfl⟩, New.refl _, rfl⟩ | exact ⟨_, rfl, ⟨nq, rfl⟩, New.refl _, rfl, trivial⟩ | exact ⟨⟨nq, rfl⟩, New.refl _⟩
  simp [Act.put] at hA
  subst hA
  obtain rfl := hv2
  refine Gro3.turn (fun v => v = undef) (fun _ w9 => Lies w9 (w.heap.size) (.cells #[.int .u64 0, .int .u64 0, .int .u64 0, .int .u64 0] 59 (0, 0))) rfl rfl ⟨_, rfl⟩ (fun w1 hB hG => ?_) (fun v3 A3 hv3 hA => ?_)
  · obtain ⟨nq, rfl⟩ : ∃ nq, w1 = g nq := hB
    have HX := Lib.hid (HGB.out nq)
    have c0 := cell_of_row _ _ 0 _ _ _ HX.out.1
    have c1 := cell_of_row _ _ 1 _ _ _ HX.out.1
    have c2 := cell_of_row _ _ 2 _ _ _ HX.out.1
    have c3 := cell_of_row _ _ 3 _ _ _ HX.out.1
    have cf := fun i => frozen_of_row _ _ i _ _ HX.out.1
    have HP := Lib.hid (put4h (.int .u64 0) (.int .u64 0) (.int .u64 0) (.int .u64 0) HX.out.1)
    have HLI := Lib.hid (show Lies _ _ _ from HP.out.1)
    clear s0 s1
    go_simp
    exact ⟨HBA.out _ ⟨⟨_, _, _, _, HLI.out⟩, HP.out.2.2 _ (HN.out.trans HX.out.2.2) (Nat.le_refl _)⟩, HLI.out⟩
  simp [Act.put] at hA
  subst hA
  refine Gro3.take0 2 (by kernel_rfl) ?_
  simp only [List.take, List.drop, List.length]
  repeat (go_big_quiet_step (fail))
  refine wpQuiet_nil ?_
  refine Gro3.nil ?_
  rintro w11 ⟨n9, rfl⟩ hG
  have HZ0 := Lib.hid (show (f n9).heap[w.heap.size]? = _ from hG)
  have HNZ := Lib.hid (HFA.out n9).2
  clear HFA HBA HGB HBB s0 s1 HM HO HN
  generalize f n9 = w9 at *
  have z0 := cell_of_row _ _ 0 _ _ _ HZ0.out
  have z1 := cell_of_row _ _ 1 _ _ _ HZ0.out
  have z2 := cell_of_row _ _ 2 _ _ _ HZ0.out
  have z3 := cell_of_row _ _ 3 _ _ _ HZ0.out
  go_wp2
  refine bodyPost_ret (by simp [results, Try.results74, go_sem, z0, z1, z2, z3]; try rfl) rfl ?_
  exact ⟨rfl, HNZ.out⟩
end Go.Proofs.Ytegibnffingciaa
