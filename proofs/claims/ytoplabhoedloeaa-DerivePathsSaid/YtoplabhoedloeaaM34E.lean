/- Layer 34: the document's own Blocks. -/
import Derived.Test.YtoplabhoedloeaaM34W
import Derived.Defers
import Derived.Recover
import Derived.Laws.Pointers
import Derived.Handy
import Derived.Laws.EntriesVeiled
import Derived.LoopN
namespace Go.Proofs.Ytoplabhoedloeaa
open Go.RowKit Go.Bv
set_option linter.unusedVariables false
set_option maxRecDepth 100000 in
set_option maxHeartbeats 8000000 in
theorem blocks_ref34 (sd : Sd34) (a : Option Addr) (n c : Nat) (l : List (BitVec 8)) (w : World) (h : BRow w a n c l) :
    Calls Try.prog 32 #[.int .i64 sd.kind, .agg #[.int .u64 (W64 sd.key.1), .int .u64 (W64 sd.key.2)], .slice a n c] w fun e w' => ∃ a' c', e = .returned (.tuple #[.agg #[.int .u64 (W64 ((bState 8 (stp34 sd.kd) (start34 sd.kd sd.key) l).1)), .int .u64 (W64 ((bState 8 (stp34 sd.kd) (start34 sd.kd sd.key) l).2.1)), .int .u64 (W64 ((bState 8 (stp34 sd.kd) (start34 sd.kd sd.key) l).2.2.1)), .int .u64 (W64 ((bState 8 (stp34 sd.kd) (start34 sd.kd sd.key) l).2.2.2))], .slice a' (n % 8 : Nat) c']) ∧ BRow w' a' (n % 8) c' (bTail 8 l) ∧ New w w' := by
  have HF := Lib.hid (fun w' (hn : New w w') => from_ref34 sd.kind sd.kd sd.hr (start34 sd.kd sd.key) a n c l w' (h.stay hn))
  have HE0 : Hid (start34 sd.kd sd.key = if sd.kind = 8 then snd34 (base34 sd.key.1 sd.key.2) 238#64 else base34 sd.key.1 sd.key.2) := Lib.hid (by
    rcases sd.hK with ⟨h0, h⟩ | ⟨h0, h⟩ | ⟨h0, h⟩ <;> rw [h, h0] <;> rfl)
  obtain ⟨s0, hs0⟩ : ∃ z, start34 sd.kd sd.key = z := ⟨_, rfl⟩
  rw [hs0] at HF HE0 ⊢
  clear hs0
  obtain ⟨st, h1⟩ : ∃ z, bState 8 (stp34 sd.kd) s0 l = z := ⟨_, rfl⟩
  obtain ⟨tl, h2⟩ : ∃ z, bTail 8 l = z := ⟨_, rfl⟩
  rw [h1, h2] at HF
  rw [h1, h2]
  clear h h1 h2
  have HZ := Lib.hid (three_all34 w (.cells #[.int .u64 (W64 sd.key.1), .int .u64 (W64 sd.key.2)] 24) (.cells #[.int .u64 0, .int .u64 0, .int .u64 0, .int .u64 0] 57) (.cells #[.int .u64 8317987319222330741, .int .u64 7237128888997146477, .int .u64 7816392313619706465, .int .u64 8387220255154660723] 57))
  go_enter Try.func32, Try.ntmps32
  go_wp2_with fail
  refine wp_loop_rounds 5 ?_
  rw [rounds_succ]
  have HKY := Lib.hid HZ.out.1
  have HO := Lib.hid HZ.out.2.1
  have HV := Lib.hid HZ.out.2.2.1
  have HN := Lib.hid HZ.out.2.2.2
  clear HZ
  go_wp2_with fail
  refine Gro3.wp_region_gro3S (fun w' => (∃ u0 u1 u2 u3 : Value, w'.heap[w.heap.size + 1 + 1]? = some (.cells #[u0, u1, u2, u3] 57 (0, 0))) ∧ w'.heap[w.heap.size]? = some (.cells #[.int .u64 (W64 sd.key.1), .int .u64 (W64 sd.key.2)] 24 (0, 0)) ∧ w'.heap[w.heap.size + 1]? = some (.cells #[.int .u64 0, .int .u64 0, .int .u64 0, .int .u64 0] 57 (0, 0)) ∧ New w w') (fun w' => w'.heap[w.heap.size + 1 + 1]? = some (.cells #[.int .u64 8317987319222330741, .int .u64 7237128888997146477, .int .u64 7816392313619706465, .int .u64 8387220255154660723] 57 (0, 0)) ∧ w'.heap[w.heap.size]? = some (.cells #[.int .u64 (W64 sd.key.1), .int .u64 (W64 sd.key.2)] 24 (0, 0)) ∧ w'.heap[w.heap.size + 1]? = some (.cells #[.int .u64 0, .int .u64 0, .int .u64 0, .int .u64 0] 57 (0, 0)) ∧ New w w') [0,0,0,1,0,0,0,0,3] New (fun _ _ _ => True) (by kernel_rfl) (by kernel_rfl) (by kernel_rfl) (fun _ _ _ _ _ _ => trivial) (fun w' hw' => ⟨⟨_, _, _, _, hw'.1⟩, hw'.2⟩) (⟨HV.out, HKY.out, HO.out, HN.out.drew⟩) ?_
  intro I J _ _ f g hfa hba hgb hbb
  have HFA := Lib.hid hfa
  have HBA := Lib.hid hba
  have HGB := Lib.hid hgb
  have HBB := Lib.hid hbb
  have fa := fun n => cell_of_row _ _ 0 _ _ _ (hgb n).1
  have fk := fun n => cell_of_row _ _ 1 _ _ _ (hfa n).2.1
  clear hfa hba hgb hbb
  have wr : IntKind.i64.wrap 0 = 0 := by decide
  refine Gro3.take0 3 (by kernel_rfl) ?_
  simp only [List.take, List.drop, List.length]
  repeat (go_big_quiet_step (fail))
  refine wpQuiet_nil ?_
  refine Gro3.take1 1 (by kernel_rfl) ?_
  simp only [List.take, List.drop, List.length]
  repeat (go_big_quiet_step (fail))
  refine wpQuiet_nil ?_
  refine Gro3.take0 4 (by kernel_rfl) ?_
  simp only [List.take, List.drop, List.length]
  repeat (go_big_quiet_step (fail))
  refine wpQuiet_nil ?_
  refine Gro3.turn (fun v => v = undef) (fun _ w9 => Lies w9 (w.heap.size + 1 + 1) (.cells #[.int .u64 (W64 (8317987319222330741#64 ^^^ sd.key.2)), .int .u64 7237128888997146477, .int .u64 7816392313619706465, .int .u64 8387220255154660723] 57 (0, 0))) rfl rfl ⟨_, rfl⟩ (fun w1 hB hG => ?_) (fun v1 A1 hv1 hA => ?_)
  · obtain ⟨nq, rfl⟩ : ∃ nq, w1 = g nq := hB
    have HX := Lib.hid (HGB.out nq)
    have c0 := cell_of_row _ _ 0 _ _ _ HX.out.1
    have cf := fun i => frozen_of_row _ _ i _ _ HX.out.1
    have h0 := heap_setCell_same _ (w.heap.size + 1 + 1) 0 _ _ (.int .u64 (W64 (8317987319222330741#64 ^^^ sd.key.2))) HX.out.1
    have HLI := Lib.hid (show Lies _ _ _ from h0)
    have HOK := Lib.hid (heap_setCell_other (g nq) ⟨w.heap.size + 1 + 1, 0, none⟩ (w.heap.size) (.int .u64 (W64 (8317987319222330741#64 ^^^ sd.key.2))) (by show w.heap.size ≠ w.heap.size + 1 + 1; omega))
    have HOT := Lib.hid (heap_setCell_other (g nq) ⟨w.heap.size + 1 + 1, 0, none⟩ (w.heap.size + 1) (.int .u64 (W64 (8317987319222330741#64 ^^^ sd.key.2))) (by show w.heap.size + 1 ≠ w.heap.size + 1 + 1; omega))
    clear h0 fa fk wr
    go_simp
    exact ⟨HBA.out _ ⟨⟨_, _, _, _, HLI.out⟩, HOK.out.trans HX.out.2.1, HOT.out.trans HX.out.2.2.1, HX.out.2.2.2.setCell (by show w.heap.size ≤ w.heap.size + 1 + 1; omega) _⟩, HLI.out⟩
  simp [Act.put] at hA
  subst hA
  refine Gro3.nil ?_
  rintro w11 ⟨n9, rfl⟩ hG
  have hF := HFA.out n9
  replace HV := Lib.hid (show (f n9).heap[w.heap.size + 1 + 1]? = _ from hG)
  replace HKY := Lib.hid hF.2.1
  replace HO := Lib.hid hF.2.2.1
  replace HN := Lib.hid hF.2.2.2
  clear HFA HBA HGB HBB hG hF fa fk wr
  generalize f n9 = w9 at *
  go_wp2_with fail
  refine Gro3.wp_region_gro3S (fun w' => (∃ u0 u1 u2 u3 : Value, w'.heap[w.heap.size + 1 + 1]? = some (.cells #[u0, u1, u2, u3] 57 (0, 0))) ∧ w'.heap[w.heap.size]? = some (.cells #[.int .u64 (W64 sd.key.1), .int .u64 (W64 sd.key.2)] 24 (0, 0)) ∧ w'.heap[w.heap.size + 1]? = some (.cells #[.int .u64 0, .int .u64 0, .int .u64 0, .int .u64 0] 57 (0, 0)) ∧ New w w') (fun w' => w'.heap[w.heap.size + 1 + 1]? = some (.cells #[.int .u64 (W64 (8317987319222330741#64 ^^^ sd.key.2)), .int .u64 7237128888997146477, .int .u64 7816392313619706465, .int .u64 8387220255154660723] 57 (0, 0)) ∧ w'.heap[w.heap.size]? = some (.cells #[.int .u64 (W64 sd.key.1), .int .u64 (W64 sd.key.2)] 24 (0, 0)) ∧ w'.heap[w.heap.size + 1]? = some (.cells #[.int .u64 0, .int .u64 0, .int .u64 0, .int .u64 0] 57 (0, 0)) ∧ New w w') [0,0,0,0,0,1,0,0,0,0,3] New (fun _ _ _ => True) (by kernel_rfl) (by kernel_rfl) (by kernel_rfl) (fun _ _ _ _ _ _ => trivial) (fun w' hw' => ⟨⟨_, _, _, _, hw'.1⟩, hw'.2⟩) (⟨HV.out, HKY.out, HO.out, HN.out.drew⟩) ?_
  intro I J _ _ f g hfa hba hgb hbb
  have HFA := Lib.hid hfa
  have HBA := Lib.hid hba
  have HGB := Lib.hid hgb
  have HBB := Lib.hid hbb
  have fa := fun n => cell_of_row _ _ 1 _ _ _ (hgb n).1
  have fk := fun n => cell_of_row _ _ 0 _ _ _ (hfa n).2.1
  clear hfa hba hgb hbb
  have wr : IntKind.i64.wrap 1 = 1 := by decide
  refine Gro3.take0 5 (by kernel_rfl) ?_
  simp only [List.take, List.drop, List.length]
  repeat (go_big_quiet_step (fail))
  refine wpQuiet_nil ?_
  refine Gro3.take1 1 (by kernel_rfl) ?_
  simp only [List.take, List.drop, List.length]
  repeat (go_big_quiet_step (fail))
  refine wpQuiet_nil ?_
  refine Gro3.take0 4 (by kernel_rfl) ?_
  simp only [List.take, List.drop, List.length]
  repeat (go_big_quiet_step (fail))
  refine wpQuiet_nil ?_
  refine Gro3.turn (fun v => v = undef) (fun _ w9 => Lies w9 (w.heap.size + 1 + 1) (.cells #[.int .u64 (W64 (8317987319222330741#64 ^^^ sd.key.2)), .int .u64 (W64 (7237128888997146477#64 ^^^ sd.key.1)), .int .u64 7816392313619706465, .int .u64 8387220255154660723] 57 (0, 0))) rfl rfl ⟨_, rfl⟩ (fun w1 hB hG => ?_) (fun v1 A1 hv1 hA => ?_)
  · obtain ⟨nq, rfl⟩ : ∃ nq, w1 = g nq := hB
    have HX := Lib.hid (HGB.out nq)
    have c0 := cell_of_row _ _ 1 _ _ _ HX.out.1
    have cf := fun i => frozen_of_row _ _ i _ _ HX.out.1
    have h0 := heap_setCell_same _ (w.heap.size + 1 + 1) 1 _ _ (.int .u64 (W64 (7237128888997146477#64 ^^^ sd.key.1))) HX.out.1
    have HLI := Lib.hid (show Lies _ _ _ from h0)
    have HOK := Lib.hid (heap_setCell_other (g nq) ⟨w.heap.size + 1 + 1, 1, none⟩ (w.heap.size) (.int .u64 (W64 (7237128888997146477#64 ^^^ sd.key.1))) (by show w.heap.size ≠ w.heap.size + 1 + 1; omega))
    have HOT := Lib.hid (heap_setCell_other (g nq) ⟨w.heap.size + 1 + 1, 1, none⟩ (w.heap.size + 1) (.int .u64 (W64 (7237128888997146477#64 ^^^ sd.key.1))) (by show w.heap.size + 1 ≠ w.heap.size + 1 + 1; omega))
    clear h0 fa fk wr
    go_simp
    exact ⟨HBA.out _ ⟨⟨_, _, _, _, HLI.out⟩, HOK.out.trans HX.out.2.1, HOT.out.trans HX.out.2.2.1, HX.out.2.2.2.setCell (by show w.heap.size ≤ w.heap.size + 1 + 1; omega) _⟩, HLI.out⟩
  simp [Act.put] at hA
  subst hA
  refine Gro3.nil ?_
  rintro w11 ⟨n9, rfl⟩ hG
  have hF := HFA.out n9
  replace HV := Lib.hid (show (f n9).heap[w.heap.size + 1 + 1]? = _ from hG)
  replace HKY := Lib.hid hF.2.1
  replace HO := Lib.hid hF.2.2.1
  replace HN := Lib.hid hF.2.2.2
  clear HFA HBA HGB HBB hG hF fa fk wr
  generalize f n9 = w9 at *
  go_wp2_with fail
  rw [rounds_succ]
  go_wp2_with fail
  refine Gro3.wp_region_gro3S (fun w' => (∃ u0 u1 u2 u3 : Value, w'.heap[w.heap.size + 1 + 1]? = some (.cells #[u0, u1, u2, u3] 57 (0, 0))) ∧ w'.heap[w.heap.size]? = some (.cells #[.int .u64 (W64 sd.key.1), .int .u64 (W64 sd.key.2)] 24 (0, 0)) ∧ w'.heap[w.heap.size + 1]? = some (.cells #[.int .u64 0, .int .u64 0, .int .u64 0, .int .u64 0] 57 (0, 0)) ∧ New w w') (fun w' => w'.heap[w.heap.size + 1 + 1]? = some (.cells #[.int .u64 (W64 (8317987319222330741#64 ^^^ sd.key.2)), .int .u64 (W64 (7237128888997146477#64 ^^^ sd.key.1)), .int .u64 7816392313619706465, .int .u64 8387220255154660723] 57 (0, 0)) ∧ w'.heap[w.heap.size]? = some (.cells #[.int .u64 (W64 sd.key.1), .int .u64 (W64 sd.key.2)] 24 (0, 0)) ∧ w'.heap[w.heap.size + 1]? = some (.cells #[.int .u64 0, .int .u64 0, .int .u64 0, .int .u64 0] 57 (0, 0)) ∧ New w w') [0,0,0,1,0,0,0,0,3] New (fun _ _ _ => True) (by kernel_rfl) (by kernel_rfl) (by kernel_rfl) (fun _ _ _ _ _ _ => trivial) (fun w' hw' => ⟨⟨_, _, _, _, hw'.1⟩, hw'.2⟩) (⟨HV.out, HKY.out, HO.out, HN.out.drew⟩) ?_
  intro I J _ _ f g hfa hba hgb hbb
  have HFA := Lib.hid hfa
  have HBA := Lib.hid hba
  have HGB := Lib.hid hgb
  have HBB := Lib.hid hbb
  have fa := fun n => cell_of_row _ _ 2 _ _ _ (hgb n).1
  have fk := fun n => cell_of_row _ _ 1 _ _ _ (hfa n).2.1
  clear hfa hba hgb hbb
  have wr : IntKind.i64.wrap 2 = 2 := by decide
  refine Gro3.take0 3 (by kernel_rfl) ?_
  simp only [List.take, List.drop, List.length]
  repeat (go_big_quiet_step (fail))
  refine wpQuiet_nil ?_
  refine Gro3.take1 1 (by kernel_rfl) ?_
  simp only [List.take, List.drop, List.length]
  repeat (go_big_quiet_step (fail))
  refine wpQuiet_nil ?_
  refine Gro3.take0 4 (by kernel_rfl) ?_
  simp only [List.take, List.drop, List.length]
  repeat (go_big_quiet_step (fail))
  refine wpQuiet_nil ?_
  refine Gro3.turn (fun v => v = undef) (fun _ w9 => Lies w9 (w.heap.size + 1 + 1) (.cells #[.int .u64 (W64 (8317987319222330741#64 ^^^ sd.key.2)), .int .u64 (W64 (7237128888997146477#64 ^^^ sd.key.1)), .int .u64 (W64 (7816392313619706465#64 ^^^ sd.key.2)), .int .u64 8387220255154660723] 57 (0, 0))) rfl rfl ⟨_, rfl⟩ (fun w1 hB hG => ?_) (fun v1 A1 hv1 hA => ?_)
  · obtain ⟨nq, rfl⟩ : ∃ nq, w1 = g nq := hB
    have HX := Lib.hid (HGB.out nq)
    have c0 := cell_of_row _ _ 2 _ _ _ HX.out.1
    have cf := fun i => frozen_of_row _ _ i _ _ HX.out.1
    have h0 := heap_setCell_same _ (w.heap.size + 1 + 1) 2 _ _ (.int .u64 (W64 (7816392313619706465#64 ^^^ sd.key.2))) HX.out.1
    have HLI := Lib.hid (show Lies _ _ _ from h0)
    have HOK := Lib.hid (heap_setCell_other (g nq) ⟨w.heap.size + 1 + 1, 2, none⟩ (w.heap.size) (.int .u64 (W64 (7816392313619706465#64 ^^^ sd.key.2))) (by show w.heap.size ≠ w.heap.size + 1 + 1; omega))
    have HOT := Lib.hid (heap_setCell_other (g nq) ⟨w.heap.size + 1 + 1, 2, none⟩ (w.heap.size + 1) (.int .u64 (W64 (7816392313619706465#64 ^^^ sd.key.2))) (by show w.heap.size + 1 ≠ w.heap.size + 1 + 1; omega))
    clear h0 fa fk wr
    go_simp
    exact ⟨HBA.out _ ⟨⟨_, _, _, _, HLI.out⟩, HOK.out.trans HX.out.2.1, HOT.out.trans HX.out.2.2.1, HX.out.2.2.2.setCell (by show w.heap.size ≤ w.heap.size + 1 + 1; omega) _⟩, HLI.out⟩
  simp [Act.put] at hA
  subst hA
  refine Gro3.nil ?_
  rintro w11 ⟨n9, rfl⟩ hG
  have hF := HFA.out n9
  replace HV := Lib.hid (show (f n9).heap[w.heap.size + 1 + 1]? = _ from hG)
  replace HKY := Lib.hid hF.2.1
  replace HO := Lib.hid hF.2.2.1
  replace HN := Lib.hid hF.2.2.2
  clear HFA HBA HGB HBB hG hF fa fk wr
  generalize f n9 = w9 at *
  go_wp2_with fail
  refine Gro3.wp_region_gro3S (fun w' => (∃ u0 u1 u2 u3 : Value, w'.heap[w.heap.size + 1 + 1]? = some (.cells #[u0, u1, u2, u3] 57 (0, 0))) ∧ w'.heap[w.heap.size]? = some (.cells #[.int .u64 (W64 sd.key.1), .int .u64 (W64 sd.key.2)] 24 (0, 0)) ∧ w'.heap[w.heap.size + 1]? = some (.cells #[.int .u64 0, .int .u64 0, .int .u64 0, .int .u64 0] 57 (0, 0)) ∧ New w w') (fun w' => w'.heap[w.heap.size + 1 + 1]? = some (.cells #[.int .u64 (W64 (8317987319222330741#64 ^^^ sd.key.2)), .int .u64 (W64 (7237128888997146477#64 ^^^ sd.key.1)), .int .u64 (W64 (7816392313619706465#64 ^^^ sd.key.2)), .int .u64 8387220255154660723] 57 (0, 0)) ∧ w'.heap[w.heap.size]? = some (.cells #[.int .u64 (W64 sd.key.1), .int .u64 (W64 sd.key.2)] 24 (0, 0)) ∧ w'.heap[w.heap.size + 1]? = some (.cells #[.int .u64 0, .int .u64 0, .int .u64 0, .int .u64 0] 57 (0, 0)) ∧ New w w') [0,0,0,0,0,1,0,0,0,0,3] New (fun _ _ _ => True) (by kernel_rfl) (by kernel_rfl) (by kernel_rfl) (fun _ _ _ _ _ _ => trivial) (fun w' hw' => ⟨⟨_, _, _, _, hw'.1⟩, hw'.2⟩) (⟨HV.out, HKY.out, HO.out, HN.out.drew⟩) ?_
  intro I J _ _ f g hfa hba hgb hbb
  have HFA := Lib.hid hfa
  have HBA := Lib.hid hba
  have HGB := Lib.hid hgb
  have HBB := Lib.hid hbb
  have fa := fun n => cell_of_row _ _ 3 _ _ _ (hgb n).1
  have fk := fun n => cell_of_row _ _ 0 _ _ _ (hfa n).2.1
  clear hfa hba hgb hbb
  have wr : IntKind.i64.wrap 3 = 3 := by decide
  refine Gro3.take0 5 (by kernel_rfl) ?_
  simp only [List.take, List.drop, List.length]
  repeat (go_big_quiet_step (fail))
  refine wpQuiet_nil ?_
  refine Gro3.take1 1 (by kernel_rfl) ?_
  simp only [List.take, List.drop, List.length]
  repeat (go_big_quiet_step (fail))
  refine wpQuiet_nil ?_
  refine Gro3.take0 4 (by kernel_rfl) ?_
  simp only [List.take, List.drop, List.length]
  repeat (go_big_quiet_step (fail))
  refine wpQuiet_nil ?_
  refine Gro3.turn (fun v => v = undef) (fun _ w9 => Lies w9 (w.heap.size + 1 + 1) (.cells #[.int .u64 (W64 (8317987319222330741#64 ^^^ sd.key.2)), .int .u64 (W64 (7237128888997146477#64 ^^^ sd.key.1)), .int .u64 (W64 (7816392313619706465#64 ^^^ sd.key.2)), .int .u64 (W64 (8387220255154660723#64 ^^^ sd.key.1))] 57 (0, 0))) rfl rfl ⟨_, rfl⟩ (fun w1 hB hG => ?_) (fun v1 A1 hv1 hA => ?_)
  · obtain ⟨nq, rfl⟩ : ∃ nq, w1 = g nq := hB
    have HX := Lib.hid (HGB.out nq)
    have c0 := cell_of_row _ _ 3 _ _ _ HX.out.1
    have cf := fun i => frozen_of_row _ _ i _ _ HX.out.1
    have h0 := heap_setCell_same _ (w.heap.size + 1 + 1) 3 _ _ (.int .u64 (W64 (8387220255154660723#64 ^^^ sd.key.1))) HX.out.1
    have HLI := Lib.hid (show Lies _ _ _ from h0)
    have HOK := Lib.hid (heap_setCell_other (g nq) ⟨w.heap.size + 1 + 1, 3, none⟩ (w.heap.size) (.int .u64 (W64 (8387220255154660723#64 ^^^ sd.key.1))) (by show w.heap.size ≠ w.heap.size + 1 + 1; omega))
    have HOT := Lib.hid (heap_setCell_other (g nq) ⟨w.heap.size + 1 + 1, 3, none⟩ (w.heap.size + 1) (.int .u64 (W64 (8387220255154660723#64 ^^^ sd.key.1))) (by show w.heap.size + 1 ≠ w.heap.size + 1 + 1; omega))
    clear h0 fa fk wr
    go_simp
    exact ⟨HBA.out _ ⟨⟨_, _, _, _, HLI.out⟩, HOK.out.trans HX.out.2.1, HOT.out.trans HX.out.2.2.1, HX.out.2.2.2.setCell (by show w.heap.size ≤ w.heap.size + 1 + 1; omega) _⟩, HLI.out⟩
  simp [Act.put] at hA
  subst hA
  refine Gro3.nil ?_
  rintro w11 ⟨n9, rfl⟩ hG
  have hF := HFA.out n9
  replace HV := Lib.hid (show (f n9).heap[w.heap.size + 1 + 1]? = _ from hG)
  replace HKY := Lib.hid hF.2.1
  replace HO := Lib.hid hF.2.2.1
  replace HN := Lib.hid hF.2.2.2
  clear HFA HBA HGB HBB hG hF fa fk wr
  generalize f n9 = w9 at *
  go_wp2_with fail
  have hE := HE0.out
  clear HE0
  by_cases h8 : sd.kind = 8
  · rw [if_pos h8] at hE
    have hE2 : s0 = (8317987319222330741#64 ^^^ sd.key.2, 7237128888997146477#64 ^^^ sd.key.1 ^^^ 238#64, 7816392313619706465#64 ^^^ sd.key.2, 8387220255154660723#64 ^^^ sd.key.1) := by
      rw [hE]; unfold snd34 base34; simp only [BitVec.xor_comm sd.key.2, BitVec.xor_comm sd.key.1]
    subst hE2
    clear hE
    simp only at HF
    rw [h8] at HF
    have c0 := cell_of_row _ _ 0 _ _ _ HV.out
    have c1 := cell_of_row _ _ 1 _ _ _ HV.out
    have c2 := cell_of_row _ _ 2 _ _ _ HV.out
    have c3 := cell_of_row _ _ 3 _ _ _ HV.out
    have cf := fun i => frozen_of_row _ _ i _ _ HV.out
    rw [rounds_succ]
    go_wp2_with fail
    have ho := heap_setCell_other w9 ⟨w.heap.size + 1 + 1, 1, none⟩ (w.heap.size + 1) (.int .u64 (W64 (7237128888997146477#64 ^^^ sd.key.1 ^^^ 238#64))) (by show w.heap.size + 1 ≠ w.heap.size + 1 + 1; omega)
    replace HO := Lib.hid (ho.trans HO.out)
    replace HN := Lib.hid (HN.out.setCell (p := ⟨w.heap.size + 1 + 1, 1, none⟩) (by show w.heap.size ≤ w.heap.size + 1 + 1; omega) (.int .u64 (W64 (7237128888997146477#64 ^^^ sd.key.1 ^^^ 238#64))))
    clear ho c0 c1 c2 c3 cf HV HKY
    generalize World.setCell w9 ⟨w.heap.size + 1 + 1, 1, none⟩ (.int .u64 (W64 (7237128888997146477#64 ^^^ sd.key.1 ^^^ 238#64))) = w7 at *
    with_reducible refine (HF.out _ HN.out).mono ?_
    rintro e w8 ⟨ra, ca, rfl, hr, hn⟩
    have HR := Lib.hid hr
    replace HO := Lib.hid ((hn.block _ (lt_of_block HO.out)).trans HO.out)
    replace HN := Lib.hid (HN.out.trans hn)
    clear hr hn HF
    have z0 := cell_of_row _ _ 0 _ _ _ HO.out
    have z1 := cell_of_row _ _ 1 _ _ _ HO.out
    have z2 := cell_of_row _ _ 2 _ _ _ HO.out
    have z3 := cell_of_row _ _ 3 _ _ _ HO.out
    have zf := fun i => frozen_of_row _ _ i _ _ HO.out
    go_wp2
    refine bodyPost_ret (by simp [results, Try.results32, go_sem, z0, z1, z2, z3]; try rfl) rfl ?_
    have hq : ∀ i, w.heap.size ≤ (⟨w.heap.size + 1, i, none⟩ : Addr).block := fun i => by show w.heap.size ≤ w.heap.size + 1; omega
    have hnb : NoBytes w8 (w.heap.size + 1) := ⟨_, _, _, HO.out, by simp⟩
    refine ⟨ra, ca, rfl, HR.out.buts (((((But.refl (w.heap.size + 1) w8).setCell (p := ⟨w.heap.size + 1, 0, none⟩) rfl _).setCell (p := ⟨w.heap.size + 1, 1, none⟩) rfl _).setCell (p := ⟨w.heap.size + 1, 2, none⟩) rfl _).setCell (p := ⟨w.heap.size + 1, 3, none⟩) rfl _) hnb, ?_⟩
    exact (((HN.out.setCell (hq 0) _).setCell (hq 1) _).setCell (hq 2) _).setCell (hq 3) _
  · rw [if_neg h8] at hE
    have hE2 : s0 = (8317987319222330741#64 ^^^ sd.key.2, 7237128888997146477#64 ^^^ sd.key.1, 7816392313619706465#64 ^^^ sd.key.2, 8387220255154660723#64 ^^^ sd.key.1) := by
      rw [hE]; unfold base34; simp only [BitVec.xor_comm sd.key.2, BitVec.xor_comm sd.key.1]
    subst hE2
    clear hE
    simp only at HF
    have c0 := cell_of_row _ _ 0 _ _ _ HV.out
    have c1 := cell_of_row _ _ 1 _ _ _ HV.out
    have c2 := cell_of_row _ _ 2 _ _ _ HV.out
    have c3 := cell_of_row _ _ 3 _ _ _ HV.out
    have cf := fun i => frozen_of_row _ _ i _ _ HV.out
    rw [rounds_succ]
    go_wp2_with fail
    with_reducible refine (HF.out _ HN.out).mono ?_
    rintro e w8 ⟨ra, ca, rfl, hr, hn⟩
    have HR := Lib.hid hr
    replace HO := Lib.hid ((hn.block _ (lt_of_block HO.out)).trans HO.out)
    replace HN := Lib.hid (HN.out.trans hn)
    clear hr hn HF HV HKY c0 c1 c2 c3
    have z0 := cell_of_row _ _ 0 _ _ _ HO.out
    have z1 := cell_of_row _ _ 1 _ _ _ HO.out
    have z2 := cell_of_row _ _ 2 _ _ _ HO.out
    have z3 := cell_of_row _ _ 3 _ _ _ HO.out
    have zf := fun i => frozen_of_row _ _ i _ _ HO.out
    go_wp2
    refine bodyPost_ret (by simp [results, Try.results32, go_sem, z0, z1, z2, z3]; try rfl) rfl ?_
    have hq : ∀ i, w.heap.size ≤ (⟨w.heap.size + 1, i, none⟩ : Addr).block := fun i => by show w.heap.size ≤ w.heap.size + 1; omega
    have hnb : NoBytes w8 (w.heap.size + 1) := ⟨_, _, _, HO.out, by simp⟩
    refine ⟨ra, ca, rfl, HR.out.buts (((((But.refl (w.heap.size + 1) w8).setCell (p := ⟨w.heap.size + 1, 0, none⟩) rfl _).setCell (p := ⟨w.heap.size + 1, 1, none⟩) rfl _).setCell (p := ⟨w.heap.size + 1, 2, none⟩) rfl _).setCell (p := ⟨w.heap.size + 1, 3, none⟩) rfl _) hnb, ?_⟩
    exact (((HN.out.setCell (hq 0) _).setCell (hq 1) _).setCell (hq 2) _).setCell (hq 3) _
end Go.Proofs.Ytoplabhoedloeaa
