/- Layer 32: widened, narrowed. -/
import Derived.Test.YtfeeecmcaakpkaaM32E
import Derived.Test.YtfeeecmcaakpkaaHshE
import Derived.Defers
import Derived.Recover
import Derived.Laws.Pointers
import Derived.Handy
import Derived.Laws.EntriesVeiled
import Derived.LoopN
namespace Go.Proofs.Ytfeeecmcaakpkaa
open Go.RowKit Go.Bv
set_option linter.unusedVariables false
set_option maxRecDepth 100000 in
set_option maxHeartbeats 2000000 in
theorem widened_32 (s : BitVec 32 × BitVec 32 × BitVec 32 × BitVec 32) (w : World) : Calls Try.prog 46 #[.agg #[.int .u32 (W32 (s.1)), .int .u32 (W32 (s.2.1)), .int .u32 (W32 (s.2.2.1)), .int .u32 (W32 (s.2.2.2))]] w fun e w' => e = .returned (.agg #[.int .u64 (W64 ((s).1.setWidth 64)), .int .u64 (W64 ((s).2.1.setWidth 64)), .int .u64 (W64 ((s).2.2.1.setWidth 64)), .int .u64 (W64 ((s).2.2.2.setWidth 64))]) ∧ New w w' := by
  obtain ⟨s0, s1, s2, s3⟩ := s
  have ix0 : ∀ w, (Instr.index 56 (.agg #[.int .u32 (W32 s0), .int .u32 (W32 s1), .int .u32 (W32 s2), .int .u32 (W32 s3)]) (.int .i64 0)).run Try.prog w = .ok (.int .u32 (W32 s0)) w := fun _ => rfl
  have ix1 : ∀ w, (Instr.index 56 (.agg #[.int .u32 (W32 s0), .int .u32 (W32 s1), .int .u32 (W32 s2), .int .u32 (W32 s3)]) (.int .i64 1)).run Try.prog w = .ok (.int .u32 (W32 s1)) w := fun _ => rfl
  have ix2 : ∀ w, (Instr.index 56 (.agg #[.int .u32 (W32 s0), .int .u32 (W32 s1), .int .u32 (W32 s2), .int .u32 (W32 s3)]) (.int .i64 2)).run Try.prog w = .ok (.int .u32 (W32 s2)) w := fun _ => rfl
  have ix3 : ∀ w, (Instr.index 56 (.agg #[.int .u32 (W32 s0), .int .u32 (W32 s1), .int .u32 (W32 s2), .int .u32 (W32 s3)]) (.int .i64 3)).run Try.prog w = .ok (.int .u32 (W32 s3)) w := fun _ => rfl
  go_enter Try.func46, Try.ntmps46
  go_wp2_with fail
  go_rounds 5
  go_returns
  exact ⟨rfl, (((New.refl w).alloc _).alloc _).alloc _⟩
theorem three_all (w : World) (A B C : Obj) : (((w.alloc A).alloc B).alloc C).heap[w.heap.size]? = some A ∧ (((w.alloc A).alloc B).alloc C).heap[w.heap.size + 1]? = some B ∧ (((w.alloc A).alloc B).alloc C).heap[w.heap.size + 1 + 1]? = some C ∧ New w (((w.alloc A).alloc B).alloc C) := by
  have h := two_blocks w A B
  have e2 : ((w.alloc A).alloc B).heap.size = w.heap.size + 1 + 1 := by simp
  refine ⟨?_, ?_, ?_, h.2.2.alloc _⟩
  · rw [((New.refl ((w.alloc A).alloc B)).alloc C).block _ (by rw [e2]; omega)]; exact h.1
  · rw [((New.refl ((w.alloc A).alloc B)).alloc C).block _ (by rw [e2]; omega)]; exact h.2.1
  · rw [← e2]; exact heap_alloc_new _ _
set_option maxRecDepth 100000 in
set_option maxHeartbeats 2000000 in
theorem narrowed_32 (s : BitVec 32 × BitVec 32 × BitVec 32 × BitVec 32) (w : World) : Calls Try.prog 48 #[.agg #[.int .u64 (W64 ((s).1.setWidth 64)), .int .u64 (W64 ((s).2.1.setWidth 64)), .int .u64 (W64 ((s).2.2.1.setWidth 64)), .int .u64 (W64 ((s).2.2.2.setWidth 64))]] w fun e w' => e = .returned (.tuple #[.agg #[.int .u32 (W32 (s.1)), .int .u32 (W32 (s.2.1)), .int .u32 (W32 (s.2.2.1)), .int .u32 (W32 (s.2.2.2))], .bool true]) ∧ New w w' := by
  obtain ⟨s0, s1, s2, s3⟩ := s
  have sw0 := sw32 s0
  have sw1 := sw32 s1
  have sw2 := sw32 s2
  have sw3 := sw32 s3
  have HWD := Lib.hid (widened_32 (s0, s1, s2, s3))
  have HZ := Lib.hid (three_all w (.cells #[.int .u64 (W64 (s0.setWidth 64)), .int .u64 (W64 (s1.setWidth 64)), .int .u64 (W64 (s2.setWidth 64)), .int .u64 (W64 (s3.setWidth 64))] 36) (.cells #[.int .u32 0, .int .u32 0, .int .u32 0, .int .u32 0] 56) (.cells #[.int .u32 (W32 s0), .int .u32 (W32 s1), .int .u32 (W32 s2), .int .u32 (W32 s3)] 56))
  have ix0 : ∀ w, (Instr.index 36 (.agg #[.int .u64 (W64 (s0.setWidth 64)), .int .u64 (W64 (s1.setWidth 64)), .int .u64 (W64 (s2.setWidth 64)), .int .u64 (W64 (s3.setWidth 64))]) (.int .i64 0)).run Try.prog w = .ok (.int .u64 (W64 (s0.setWidth 64))) w := fun _ => rfl
  have ix1 : ∀ w, (Instr.index 36 (.agg #[.int .u64 (W64 (s0.setWidth 64)), .int .u64 (W64 (s1.setWidth 64)), .int .u64 (W64 (s2.setWidth 64)), .int .u64 (W64 (s3.setWidth 64))]) (.int .i64 1)).run Try.prog w = .ok (.int .u64 (W64 (s1.setWidth 64))) w := fun _ => rfl
  have ix2 : ∀ w, (Instr.index 36 (.agg #[.int .u64 (W64 (s0.setWidth 64)), .int .u64 (W64 (s1.setWidth 64)), .int .u64 (W64 (s2.setWidth 64)), .int .u64 (W64 (s3.setWidth 64))]) (.int .i64 2)).run Try.prog w = .ok (.int .u64 (W64 (s2.setWidth 64))) w := fun _ => rfl
  have ix3 : ∀ w, (Instr.index 36 (.agg #[.int .u64 (W64 (s0.setWidth 64)), .int .u64 (W64 (s1.setWidth 64)), .int .u64 (W64 (s2.setWidth 64)), .int .u64 (W64 (s3.setWidth 64))]) (.int .i64 3)).run Try.prog w = .ok (.int .u64 (W64 (s3.setWidth 64))) w := fun _ => rfl
  go_enter Try.func48, Try.ntmps48
  go_wp2_with fail
  go_rounds 5
  clear ix0 ix1 ix2 ix3 sw0 sw1 sw2 sw3
  generalize ((w.alloc (.cells #[.int .u64 (W64 (s0.setWidth 64)), .int .u64 (W64 (s1.setWidth 64)), .int .u64 (W64 (s2.setWidth 64)), .int .u64 (W64 (s3.setWidth 64))] 36)).alloc (.cells #[.int .u32 0, .int .u32 0, .int .u32 0, .int .u32 0] 56)).alloc (.cells #[.int .u32 (W32 s0), .int .u32 (W32 s1), .int .u32 (W32 s2), .int .u32 (W32 s3)] 56) = w9 at *
  have he4 := fun w => eq4s w (s0.setWidth 64) (s1.setWidth 64) (s2.setWidth 64) (s3.setWidth 64)
  refine Gro3.wp_region_gro3S (fun w' => w'.heap[w.heap.size]? = some (.cells #[.int .u64 (W64 (s0.setWidth 64)), .int .u64 (W64 (s1.setWidth 64)), .int .u64 (W64 (s2.setWidth 64)), .int .u64 (W64 (s3.setWidth 64))] 36 (0, 0)) ∧ (∃ u0 u1 u2 u3 : Value, w'.heap[w.heap.size + 1]? = some (.cells #[u0, u1, u2, u3] 56 (0, 0))) ∧ New w w') (fun w' => w'.heap[w.heap.size]? = some (.cells #[.int .u64 (W64 (s0.setWidth 64)), .int .u64 (W64 (s1.setWidth 64)), .int .u64 (W64 (s2.setWidth 64)), .int .u64 (W64 (s3.setWidth 64))] 36 (0, 0)) ∧ w'.heap[w.heap.size + 1]? = some (.cells #[.int .u32 0, .int .u32 0, .int .u32 0, .int .u32 0] 56 (0, 0)) ∧ w'.heap[w.heap.size + 1 + 1]? = some (.cells #[.int .u32 (W32 s0), .int .u32 (W32 s1), .int .u32 (W32 s2), .int .u32 (W32 s3)] 56 (0, 0)) ∧ New w w') [1,1,2,0,0,3,0] New (fun _ _ _ => True) (by kernel_rfl) (by kernel_rfl) (by kernel_rfl) (fun _ _ _ _ _ _ => trivial) (fun w' hw' => ⟨hw'.1, ⟨_, _, _, _, hw'.2.1⟩, hw'.2.2.2⟩) (⟨HZ.out.1, HZ.out.2.1, HZ.out.2.2.1, HZ.out.2.2.2.drew⟩) ?_
  intro I J _ _ f g hfa hba hgb hbb
  have HFA := Lib.hid hfa
  have HBA := Lib.hid hba
  have HGB := Lib.hid hgb
  have HBB := Lib.hid hbb
  have fo0 := fun n => cell_of_row _ _ 0 _ _ _ (hgb n).2.2.1
  have fo1 := fun n => cell_of_row _ _ 1 _ _ _ (hgb n).2.2.1
  have fo2 := fun n => cell_of_row _ _ 2 _ _ _ (hgb n).2.2.1
  have fo3 := fun n => cell_of_row _ _ 3 _ _ _ (hgb n).2.2.1
  have fa0 := fun n => cell_of_row _ _ 0 _ _ _ (hfa n).1
  have fa1 := fun n => cell_of_row _ _ 1 _ _ _ (hfa n).1
  have fa2 := fun n => cell_of_row _ _ 2 _ _ _ (hfa n).1
  have fa3 := fun n => cell_of_row _ _ 3 _ _ _ (hfa n).1
  clear hfa hba hgb hbb
  refine Gro3.take1 2 (by kernel_rfl) ?_
  simp only [List.take, List.drop, List.length]
  repeat (go_big_quiet_step (fail))
  refine wpQuiet_nil ?_
  refine Gro3.callt (fun v => v = (.agg #[.int .u64 (W64 (s0.setWidth 64)), .int .u64 (W64 (s1.setWidth 64)), .int .u64 (W64 (s2.setWidth 64)), .int .u64 (W64 (s3.setWidth 64))])) (fun _ _ => True) rfl rfl (⟨_, rfl⟩) (fun _ _ _ _ _ => trivial) (fun w1 hB hG => ?_) (fun v1 A1 hv1 hA => ?_)
  · obtain ⟨nq, rfl⟩ := hB
    clear fa0 fa1 fa2 fa3 fo0 fo1 fo2 fo3
    go_simp
    refine (HWD.out _).mono ?_
    rintro e w2 ⟨rfl, hn⟩
    have HX := HBB.out _ ⟨(hn.block _ (lt_of_block (HGB.out nq).1)).trans (HGB.out nq).1, (hn.block _ (lt_of_block (HGB.out nq).2.1)).trans (HGB.out nq).2.1, (hn.block _ (lt_of_block (HGB.out nq).2.2.1)).trans (HGB.out nq).2.2.1, (HGB.out nq).2.2.2.trans hn⟩
    first | exact ⟨_, rfl, HX, hn, rfl⟩ | exact ⟨_, rfl, HX, hn, rfl, trivial⟩ | exact ⟨rfl, HX, hn⟩ | exact ⟨HX, hn, rfl⟩ | exact ⟨HX, hn⟩
  simp [Act.put] at hA
  subst hA
  obtain rfl := hv1
  refine Gro3.take0 2 (by kernel_rfl) ?_
  simp only [List.take, List.drop, List.length]
  repeat (go_big_quiet_step (fail))
  refine wpQuiet_nil ?_
  refine Gro3.turn (fun v => v = undef) (fun _ w9 => Lies w9 (w.heap.size + 1) (.cells #[.int .u32 (W32 s0), .int .u32 (W32 s1), .int .u32 (W32 s2), .int .u32 (W32 s3)] 56 (0, 0))) rfl rfl ⟨_, rfl⟩ (fun w1 hB hG => ?_) (fun v2 A2 hv2 hA => ?_)
  · obtain ⟨nq, rfl⟩ : ∃ nq, w1 = g nq := hB
    have HX := Lib.hid (HGB.out nq)
    have c0 := cell_of_row _ _ 0 _ _ _ HX.out.2.1
    have c1 := cell_of_row _ _ 1 _ _ _ HX.out.2.1
    have c2 := cell_of_row _ _ 2 _ _ _ HX.out.2.1
    have c3 := cell_of_row _ _ 3 _ _ _ HX.out.2.1
    have cf := fun i => frozen_of_row _ _ i _ _ HX.out.2.1
    have HP := Lib.hid (put4h (.int .u32 (W32 s0)) (.int .u32 (W32 s1)) (.int .u32 (W32 s2)) (.int .u32 (W32 s3)) HX.out.2.1)
    have HLI := Lib.hid (show Lies _ _ _ from HP.out.1)
    clear fa0 fa1 fa2 fa3 fo0 fo1 fo2 fo3
    go_simp
    exact ⟨HBA.out _ ⟨(HP.out.2.1 _ (by omega)).trans HX.out.1, ⟨_, _, _, _, HLI.out⟩, HP.out.2.2 _ HX.out.2.2.2 (by omega)⟩, HLI.out⟩
  simp [Act.put] at hA
  subst hA
  refine Gro3.take0 1 (by kernel_rfl) ?_
  simp only [List.take, List.drop, List.length]
  repeat (go_big_quiet_step (fail))
  refine wpQuiet_nil ?_
  refine Gro3.nil ?_
  rintro w11 ⟨n9, rfl⟩ hG
  have HRZ := Lib.hid (show (f n9).heap[w.heap.size + 1]? = _ from hG)
  have HNZ := Lib.hid (HFA.out n9).2.2
  clear HFA HBA HGB HBB hG fa0 fa1 fa2 fa3 fo0 fo1 fo2 fo3 he4 HWD HZ
  generalize f n9 = w11 at *
  have z0 := cell_of_row _ _ 0 _ _ _ HRZ.out
  have z1 := cell_of_row _ _ 1 _ _ _ HRZ.out
  have z2 := cell_of_row _ _ 2 _ _ _ HRZ.out
  have z3 := cell_of_row _ _ 3 _ _ _ HRZ.out
  go_wp2
  refine bodyPost_ret (by simp [results, Try.results48, go_sem, z0, z1, z2, z3]; try rfl) rfl ?_
  exact ⟨rfl, HNZ.out⟩
end Go.Proofs.Ytfeeecmcaakpkaa
