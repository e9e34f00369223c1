/- Contract of layer 31: step. -/
import Derived.Test.YtegibnffingciaaM31A
import Derived.Defers
import Derived.Recover
import Derived.Laws.Pointers
import Derived.Handy
import Derived.Laws.EntriesVeiled
namespace Go.Proofs.Ytegibnffingciaa
open Go.RowKit Go.Bv
set_option linter.unusedVariables false
set_option maxRecDepth 100000 in
set_option maxHeartbeats 4000000 in
theorem step_31 (s : BitVec 64 × BitVec 64) (a : Option Addr) (cap : Nat) (l : List (BitVec 8)) (w : World) (h : BRow w a 16 cap l) :
    Calls Try.prog 123 #[.agg #[.int .u64 (W64 (s.1)), .int .u64 (W64 (s.2))], .slice a 16 cap] w fun e w' => e = .returned (.agg #[.int .u64 (W64 ((stp31 s l).1)), .int .u64 (W64 ((stp31 s l).2))]) ∧ New w w' := by
  obtain ⟨sa, sb⟩ := s
  obtain ⟨b, off, rfl, _⟩ := h.addr (by omega)
  have H := Lib.hid h
  clear h
  obtain ⟨k1, hk1⟩ : ∃ k, rd l 0 8 = k := ⟨_, rfl⟩
  obtain ⟨k2, hk2⟩ : ∃ k, rd l 8 8 = k := ⟨_, rfl⟩
  have HL1 := Lib.hid (fun w' (hn : New w w') => le64_yes b off 16 cap 0 l w' (H.out.stay hn) (by omega))
  have HL2 := Lib.hid (fun w' (hn : New w w') => le64_yes b off 16 cap 8 l w' (H.out.stay hn) (by omega))
  rw [hk1] at HL1
  rw [hk2] at HL2
  have HK := Lib.hid (And.intro hk1 hk2)
  clear hk1 hk2
  have HZ := Lib.hid (two_blocks w (.cells #[.int .u64 (W64 sa), .int .u64 (W64 sb)] 125) (.cells #[.int .u64 0, .int .u64 0] 125))
  go_enter Try.func123, Try.ntmps123
  go_wp2_with fail
  refine (mixers_31 _).mono ?_
  rintro e w9 ⟨rfl, hn⟩
  have HA := Lib.hid ((hn.block _ (lt_of_block HZ.out.1)).trans HZ.out.1)
  have HO := Lib.hid ((hn.block _ (lt_of_block HZ.out.2.1)).trans HZ.out.2.1)
  have HN := Lib.hid (HZ.out.2.2.trans hn)
  clear hn HZ
  have hx := heap_alloc_new w9 (.cells #[.func (Fn.func 181) #[.agg #[.int .u64 9782798678568883157, .int .u64 5545529020109919103, .int .i64 31]] #[], .func (Fn.func 181) #[.agg #[.int .u64 5545529020109919103, .int .u64 9782798678568883157, .int .i64 33]] #[]] 159)
  have hn2 := (New.refl w9).alloc (.cells #[.func (Fn.func 181) #[.agg #[.int .u64 9782798678568883157, .int .u64 5545529020109919103, .int .i64 31]] #[], .func (Fn.func 181) #[.agg #[.int .u64 5545529020109919103, .int .u64 9782798678568883157, .int .i64 33]] #[]] 159)
  obtain ⟨qHM, hq⟩ : ∃ q, w9.heap.size = q := ⟨_, rfl⟩
  have hle := HN.out.le
  rw [hq] at hx hle
  have hw0 := And.intro (rfl : w9.alloc (.cells #[.func (Fn.func 181) #[.agg #[.int .u64 9782798678568883157, .int .u64 5545529020109919103, .int .i64 31]] #[], .func (Fn.func 181) #[.agg #[.int .u64 5545529020109919103, .int .u64 9782798678568883157, .int .i64 33]] #[]] 159) = w9.alloc (.cells #[.func (Fn.func 181) #[.agg #[.int .u64 9782798678568883157, .int .u64 5545529020109919103, .int .i64 31]] #[], .func (Fn.func 181) #[.agg #[.int .u64 5545529020109919103, .int .u64 9782798678568883157, .int .i64 33]] #[]] 159)) hq
  have HLM := Lib.hid (show w.heap.size < qHM from hq ▸ lt_of_block HA.out)
  generalize hw2 : w9.alloc (.cells #[.func (Fn.func 181) #[.agg #[.int .u64 9782798678568883157, .int .u64 5545529020109919103, .int .i64 31]] #[], .func (Fn.func 181) #[.agg #[.int .u64 5545529020109919103, .int .u64 9782798678568883157, .int .i64 33]] #[]] 159) = w10 at hx hn2 hw0
  have HE := Lib.hid (show w9.alloc (.cells #[.func (Fn.func 181) #[.agg #[.int .u64 9782798678568883157, .int .u64 5545529020109919103, .int .i64 31]] #[], .func (Fn.func 181) #[.agg #[.int .u64 5545529020109919103, .int .u64 9782798678568883157, .int .i64 33]] #[]] 159) = w10 ∧ w9.heap.size = qHM from ⟨hw2, hq⟩)
  clear hw0 hw2
  replace HA := Lib.hid ((hn2.block _ (lt_of_block HA.out)).trans HA.out)
  replace HO := Lib.hid ((hn2.block _ (lt_of_block HO.out)).trans HO.out)
  replace HN := Lib.hid (HN.out.trans hn2)
  have HM := Lib.hid hx
  have HLHM := Lib.hid hle
  clear hx hn2 hq hle
  go_wp2_with (rw [HE.out.1, HE.out.2])
  refine (HL1.out _ HN.out).mono ?_
  rintro e w9 ⟨rfl, rfl⟩
  clear HE
  go_wp2_with fail
  refine (HL2.out _ HN.out).mono ?_
  rintro e w9 ⟨rfl, rfl⟩
  clear HL1 HL2
  have HI := Lib.hid (in31a_c sa k1)
  obtain ⟨rr, hrr⟩ : ∃ r, (in31a sa k1).rotateLeft 27 = r := ⟨_, rfl⟩
  have HRO := Lib.hid (fun w => rot_n (in31a sa k1) 27 (by decide) w)
  rw [hrr] at HRO
  obtain ⟨ma, hma⟩ : ∃ m, (rr + sb) * 5#64 + 1390208809#64 = m := ⟨_, rfl⟩
  have HMA := Lib.hid hma
  have HRR := Lib.hid hrr
  clear hrr hma
  go_wp2_with fail
  refine Gro3.wp_region_gro3S (fun w' => (∃ u0 u1 : Value, w'.heap[w.heap.size]? = some (.cells #[u0, u1] 125 (0, 0))) ∧ w'.heap[qHM]? = some (.cells #[.func (Fn.func 181) #[.agg #[.int .u64 9782798678568883157, .int .u64 5545529020109919103, .int .i64 31]] #[], .func (Fn.func 181) #[.agg #[.int .u64 5545529020109919103, .int .u64 9782798678568883157, .int .i64 33]] #[]] 159 (0, 0)) ∧ w'.heap[w.heap.size + 1]? = some (.cells #[.int .u64 0, .int .u64 0] 125 (0, 0)) ∧ New w w') (fun w' => w'.heap[w.heap.size]? = some (.cells #[.int .u64 (W64 sa), .int .u64 (W64 sb)] 125 (0, 0)) ∧ w'.heap[qHM]? = some (.cells #[.func (Fn.func 181) #[.agg #[.int .u64 9782798678568883157, .int .u64 5545529020109919103, .int .i64 31]] #[], .func (Fn.func 181) #[.agg #[.int .u64 5545529020109919103, .int .u64 9782798678568883157, .int .i64 33]] #[]] 159 (0, 0)) ∧ w'.heap[w.heap.size + 1]? = some (.cells #[.int .u64 0, .int .u64 0] 125 (0, 0)) ∧ New w9 w') [0,1,0,1,0,2,2,0,1,0,0,0,0,3] New (fun _ _ _ => True) (by kernel_rfl) (by kernel_rfl) (by kernel_rfl) (fun _ _ _ _ _ _ => trivial) (fun w' hw' => ⟨⟨_, _, hw'.1⟩, hw'.2.1, hw'.2.2.1, HN.out.trans hw'.2.2.2⟩) (⟨HA.out, HM.out, HO.out, (New.refl _).drew⟩) ?_
  intro I J _ _ f g hfa hba hgb hbb
  have HFA := Lib.hid hfa
  have HBA := Lib.hid hba
  have HGB := Lib.hid hgb
  have HBB := Lib.hid hbb
  have s0 := fun n => cell_of_row _ _ 0 _ _ _ (hgb n).1
  have s1 := fun n => cell_of_row _ _ 1 _ _ _ (hgb n).1
  have s2 := fun n => cell_of_row _ _ 0 _ _ _ (hgb n).2.1
  have s3 := fun n => cell_of_row _ _ 1 _ _ _ (hgb n).2.1
  clear hfa hba hgb hbb
  refine Gro3.take0 1 (by kernel_rfl) ?_
  simp only [List.take, List.drop, List.length]
  repeat (go_big_quiet_step (fail))
  refine wpQuiet_nil ?_
  refine Gro3.take1 1 (by kernel_rfl) ?_
  simp only [List.take, List.drop, List.length]
  repeat (go_big_quiet_step (fail))
  refine wpQuiet_nil ?_
  refine Gro3.take0 1 (by kernel_rfl) ?_
  simp only [List.take, List.drop, List.length]
  repeat (go_big_quiet_step (fail))
  refine wpQuiet_nil ?_
  refine Gro3.take1 1 (by kernel_rfl) ?_
  simp only [List.take, List.drop, List.length]
  repeat (go_big_quiet_step (fail))
  refine wpQuiet_nil ?_
  refine Gro3.take0 1 (by kernel_rfl) ?_
  simp only [List.take, List.drop, List.length]
  repeat (go_big_quiet_step (fail))
  refine wpQuiet_nil ?_
  refine Gro3.callt (fun v => v = .int .u64 (W64 (in31a sa k1))) (fun _ _ => True) rfl rfl (⟨_, rfl⟩) (fun _ _ _ _ _ => trivial) (fun w1 hB hG => ?_) (fun v1 A1 hv1 hA => ?_)
  · obtain ⟨nq, rfl⟩ := hB
    clear s0 s1 s2 s3
    go_simp
    refine (HI.out _).mono ?_
    rintro e w2 ⟨rfl, hn⟩
    have HX := HBB.out _ ⟨(hn.block _ (lt_of_block (HGB.out nq).1)).trans (HGB.out nq).1, (hn.block _ (lt_of_block (HGB.out nq).2.1)).trans (HGB.out nq).2.1, (hn.block _ (lt_of_block (HGB.out nq).2.2.1)).trans (HGB.out nq).2.2.1, (HGB.out nq).2.2.2.trans hn⟩
    first | exact ⟨_, rfl, HX, hn, rfl⟩ | exact ⟨_, rfl, HX, hn, rfl, trivial⟩
  simp [Act.put] at hA
  subst hA
  obtain rfl := hv1
  refine Gro3.callt (fun v => v = .int .u64 (W64 rr)) (fun _ _ => True) rfl rfl (⟨_, rfl⟩) (fun _ _ _ _ _ => trivial) (fun w1 hB hG => ?_) (fun v2 A2 hv2 hA => ?_)
  · obtain ⟨nq, rfl⟩ := hB
    clear s0 s1 s2 s3
    go_simp
    refine (HRO.out _).mono ?_
    rintro e w2 ⟨rfl, rfl⟩
    first | exact ⟨_, rfl, ⟨nq, rfl⟩, New.refl _, rfl⟩ | exact ⟨_, rfl, ⟨nq, rfl⟩, New.refl _, rfl, trivial⟩
  simp [Act.put] at hA
  subst hA
  obtain rfl := hv2
  refine Gro3.take0 1 (by kernel_rfl) ?_
  simp only [List.take, List.drop, List.length]
  repeat (go_big_quiet_step (fail))
  refine wpQuiet_nil ?_
  refine Gro3.take1 1 (by kernel_rfl) ?_
  simp only [List.take, List.drop, List.length]
  repeat (go_big_quiet_step (fail))
  refine wpQuiet_nil ?_
  refine Gro3.take0 4 (by kernel_rfl) ?_
  simp only [List.take, List.drop, List.length]
  repeat (go_big_quiet_step (fail))
  refine wpQuiet_nil ?_
  refine Gro3.turn (fun v => v = undef) (fun _ w9 => Lies w9 (w.heap.size) (.cells #[.int .u64 (W64 ma), .int .u64 (W64 sb)] 125 (0, 0))) rfl rfl ⟨_, rfl⟩ (fun w1 hB hG => ?_) (fun v3 A3 hv3 hA => ?_)
  · obtain ⟨nq, rfl⟩ : ∃ nq, w1 = g nq := hB
    have HX := Lib.hid (HGB.out nq)
    have c0 := cell_of_row _ _ 0 _ _ _ HX.out.1
    have cf := fun i => frozen_of_row _ _ i _ _ HX.out.1
    have h0 := heap_setCell_same _ w.heap.size 0 _ _ (.int .u64 (W64 ma)) HX.out.1
    have HLI := Lib.hid (show Lies _ _ _ from h0)
    have HOT := Lib.hid (fun j (hj : j ≠ w.heap.size) => heap_setCell_other (g nq) ⟨w.heap.size, 0, none⟩ j (.int .u64 (W64 ma)) hj)
    have HMQ := Lib.hid (show qHM ≠ w.heap.size from Nat.ne_of_gt HLM.out)
    clear h0 s0 s1 s2 s3
    go_simp
    rw [HMA.out]
    exact ⟨HBA.out _ ⟨⟨_, _, HLI.out⟩, (HOT.out _ HMQ.out).trans HX.out.2.1, (HOT.out _ (by omega)).trans HX.out.2.2.1, (HN.out.trans HX.out.2.2.2).setCell (Nat.le_refl _) _⟩, HLI.out⟩
  simp [Act.put] at hA
  subst hA
  refine Gro3.nil ?_
  rintro w10 ⟨n9, rfl⟩ hG
  have hF := HFA.out n9
  replace HA := Lib.hid (show (f n9).heap[w.heap.size]? = _ from hG)
  replace HM := Lib.hid hF.2.1
  replace HO := Lib.hid hF.2.2.1
  replace HN := Lib.hid hF.2.2.2
  clear HFA HBA HGB HBB hG hF s0 s1 s2 s3 HI HRO
  generalize f n9 = w9 at *
  have HM1 : Hid (mm31a sa sb k1 = ma) := Lib.hid (by unfold mm31a; rw [HRR.out]; exact HMA.out)
  clear HMA HRR
  obtain ⟨m1, hm1⟩ : ∃ m, ma = m := ⟨_, rfl⟩
  rw [hm1] at HA HM1
  clear hm1
  have HI := Lib.hid (in31b_c sb k2)
  obtain ⟨rr, hrr⟩ : ∃ r, (in31b sb k2).rotateLeft 31 = r := ⟨_, rfl⟩
  have HRO := Lib.hid (fun w => rot_n (in31b sb k2) 31 (by decide) w)
  rw [hrr] at HRO
  obtain ⟨ma, hma⟩ : ∃ m, (rr + m1) * 5#64 + 944331445#64 = m := ⟨_, rfl⟩
  have HMA := Lib.hid hma
  have HRR := Lib.hid hrr
  clear hrr hma
  go_wp2_with fail
  refine Gro3.wp_region_gro3S (fun w' => (∃ u0 u1 : Value, w'.heap[w.heap.size]? = some (.cells #[u0, u1] 125 (0, 0))) ∧ w'.heap[qHM]? = some (.cells #[.func (Fn.func 181) #[.agg #[.int .u64 9782798678568883157, .int .u64 5545529020109919103, .int .i64 31]] #[], .func (Fn.func 181) #[.agg #[.int .u64 5545529020109919103, .int .u64 9782798678568883157, .int .i64 33]] #[]] 159 (0, 0)) ∧ w'.heap[w.heap.size + 1]? = some (.cells #[.int .u64 0, .int .u64 0] 125 (0, 0)) ∧ New w w') (fun w' => w'.heap[w.heap.size]? = some (.cells #[.int .u64 (W64 m1), .int .u64 (W64 sb)] 125 (0, 0)) ∧ w'.heap[qHM]? = some (.cells #[.func (Fn.func 181) #[.agg #[.int .u64 9782798678568883157, .int .u64 5545529020109919103, .int .i64 31]] #[], .func (Fn.func 181) #[.agg #[.int .u64 5545529020109919103, .int .u64 9782798678568883157, .int .i64 33]] #[]] 159 (0, 0)) ∧ w'.heap[w.heap.size + 1]? = some (.cells #[.int .u64 0, .int .u64 0] 125 (0, 0)) ∧ New w9 w') [0,1,0,1,0,2,2,0,1,0,0,0,0,3] New (fun _ _ _ => True) (by kernel_rfl) (by kernel_rfl) (by kernel_rfl) (fun _ _ _ _ _ _ => trivial) (fun w' hw' => ⟨⟨_, _, hw'.1⟩, hw'.2.1, hw'.2.2.1, HN.out.trans hw'.2.2.2⟩) (⟨HA.out, HM.out, HO.out, (New.refl _).drew⟩) ?_
  intro I J _ _ f g hfa hba hgb hbb
  have HFA := Lib.hid hfa
  have HBA := Lib.hid hba
  have HGB := Lib.hid hgb
  have HBB := Lib.hid hbb
  have s0 := fun n => cell_of_row _ _ 0 _ _ _ (hgb n).1
  have s1 := fun n => cell_of_row _ _ 1 _ _ _ (hgb n).1
  have s2 := fun n => cell_of_row _ _ 0 _ _ _ (hgb n).2.1
  have s3 := fun n => cell_of_row _ _ 1 _ _ _ (hgb n).2.1
  clear hfa hba hgb hbb
  refine Gro3.take0 1 (by kernel_rfl) ?_
  simp only [List.take, List.drop, List.length]
  repeat (go_big_quiet_step (fail))
  refine wpQuiet_nil ?_
  refine Gro3.take1 1 (by kernel_rfl) ?_
  simp only [List.take, List.drop, List.length]
  repeat (go_big_quiet_step (fail))
  refine wpQuiet_nil ?_
  refine Gro3.take0 1 (by kernel_rfl) ?_
  simp only [List.take, List.drop, List.length]
  repeat (go_big_quiet_step (fail))
  refine wpQuiet_nil ?_
  refine Gro3.take1 1 (by kernel_rfl) ?_
  simp only [List.take, List.drop, List.length]
  repeat (go_big_quiet_step (fail))
  refine wpQuiet_nil ?_
  refine Gro3.take0 1 (by kernel_rfl) ?_
  simp only [List.take, List.drop, List.length]
  repeat (go_big_quiet_step (fail))
  refine wpQuiet_nil ?_
  refine Gro3.callt (fun v => v = .int .u64 (W64 (in31b sb k2))) (fun _ _ => True) rfl rfl (⟨_, rfl⟩) (fun _ _ _ _ _ => trivial) (fun w1 hB hG => ?_) (fun v1 A1 hv1 hA => ?_)
  · obtain ⟨nq, rfl⟩ := hB
    clear s0 s1 s2 s3
    go_simp
    refine (HI.out _).mono ?_
    rintro e w2 ⟨rfl, hn⟩
    have HX := HBB.out _ ⟨(hn.block _ (lt_of_block (HGB.out nq).1)).trans (HGB.out nq).1, (hn.block _ (lt_of_block (HGB.out nq).2.1)).trans (HGB.out nq).2.1, (hn.block _ (lt_of_block (HGB.out nq).2.2.1)).trans (HGB.out nq).2.2.1, (HGB.out nq).2.2.2.trans hn⟩
    first | exact ⟨_, rfl, HX, hn, rfl⟩ | exact ⟨_, rfl, HX, hn, rfl, trivial⟩
  simp [Act.put] at hA
  subst hA
  obtain rfl := hv1
  refine Gro3.callt (fun v => v = .int .u64 (W64 rr)) (fun _ _ => True) rfl rfl (⟨_, rfl⟩) (fun _ _ _ _ _ => trivial) (fun w1 hB hG => ?_) (fun v2 A2 hv2 hA => ?_)
  · obtain ⟨nq, rfl⟩ := hB
    clear s0 s1 s2 s3
    go_simp
    refine (HRO.out _).mono ?_
    rintro e w2 ⟨rfl, rfl⟩
    first | exact ⟨_, rfl, ⟨nq, rfl⟩, New.refl _, rfl⟩ | exact ⟨_, rfl, ⟨nq, rfl⟩, New.refl _, rfl, trivial⟩
  simp [Act.put] at hA
  subst hA
  obtain rfl := hv2
  refine Gro3.take0 1 (by kernel_rfl) ?_
  simp only [List.take, List.drop, List.length]
  repeat (go_big_quiet_step (fail))
  refine wpQuiet_nil ?_
  refine Gro3.take1 1 (by kernel_rfl) ?_
  simp only [List.take, List.drop, List.length]
  repeat (go_big_quiet_step (fail))
  refine wpQuiet_nil ?_
  refine Gro3.take0 4 (by kernel_rfl) ?_
  simp only [List.take, List.drop, List.length]
  repeat (go_big_quiet_step (fail))
  refine wpQuiet_nil ?_
  refine Gro3.turn (fun v => v = undef) (fun _ w9 => Lies w9 (w.heap.size) (.cells #[.int .u64 (W64 m1), .int .u64 (W64 ma)] 125 (0, 0))) rfl rfl ⟨_, rfl⟩ (fun w1 hB hG => ?_) (fun v3 A3 hv3 hA => ?_)
  · obtain ⟨nq, rfl⟩ : ∃ nq, w1 = g nq := hB
    have HX := Lib.hid (HGB.out nq)
    have c0 := cell_of_row _ _ 1 _ _ _ HX.out.1
    have cf := fun i => frozen_of_row _ _ i _ _ HX.out.1
    have h0 := heap_setCell_same _ w.heap.size 1 _ _ (.int .u64 (W64 ma)) HX.out.1
    have HLI := Lib.hid (show Lies _ _ _ from h0)
    have HOT := Lib.hid (fun j (hj : j ≠ w.heap.size) => heap_setCell_other (g nq) ⟨w.heap.size, 1, none⟩ j (.int .u64 (W64 ma)) hj)
    have HMQ := Lib.hid (show qHM ≠ w.heap.size from Nat.ne_of_gt HLM.out)
    clear h0 s0 s1 s2 s3
    go_simp
    rw [HMA.out]
    exact ⟨HBA.out _ ⟨⟨_, _, HLI.out⟩, (HOT.out _ HMQ.out).trans HX.out.2.1, (HOT.out _ (by omega)).trans HX.out.2.2.1, (HN.out.trans HX.out.2.2.2).setCell (Nat.le_refl _) _⟩, HLI.out⟩
  simp [Act.put] at hA
  subst hA
  refine Gro3.nil ?_
  rintro w10 ⟨n9, rfl⟩ hG
  have hF := HFA.out n9
  replace HA := Lib.hid (show (f n9).heap[w.heap.size]? = _ from hG)
  replace HM := Lib.hid hF.2.1
  replace HO := Lib.hid hF.2.2.1
  replace HN := Lib.hid hF.2.2.2
  clear HFA HBA HGB HBB hG hF s0 s1 s2 s3 HI HRO
  generalize f n9 = w9 at *
  have HM2 : Hid (mm31b m1 sb k2 = ma) := Lib.hid (by unfold mm31b; rw [HRR.out]; exact HMA.out)
  clear HMA HRR
  have x0 := cell_of_row _ _ 0 _ _ _ HA.out
  have x1 := cell_of_row _ _ 1 _ _ _ HA.out
  have o0 := cell_of_row _ _ 0 _ _ _ HO.out
  have o1 := cell_of_row _ _ 1 _ _ _ HO.out
  have of := fun i => frozen_of_row _ _ i _ _ HO.out
  go_wp2
  refine bodyPost_ret (by simp [results, Try.results123, go_sem, o0, o1]; try rfl) rfl ?_
  refine ⟨?_, (HN.out.setCell (by show w.heap.size ≤ w.heap.size + 1; omega) _).setCell (by show w.heap.size ≤ w.heap.size + 1; omega) _⟩
  unfold stp31
  simp only [HK.out.1, HK.out.2, HM1.out, HM2.out]
  try rfl
end Go.Proofs.Ytegibnffingciaa
