/- Layer 30: widened, narrowed. -/
import Derived.Test.YtnapogamcohfaaaM30A
import Derived.Test.YtnapogamcohfaaaHshE
import Derived.Defers
import Derived.Recover
import Derived.Laws.Pointers
import Derived.Handy
import Derived.Laws.EntriesVeiled
import Derived.LoopN
namespace Go.Proofs.Ytnapogamcohfaaa
open Go.RowKit Go.Bv
set_option linter.unusedVariables false
theorem info30 : (Try.prog.info? 22).isSome = true := by kernel_rfl
theorem plain30 : Try.prog.plainKey 22 = true := by kernel_rfl
theorem cells30 : Try.prog.cellsOf 22 = 1 := by kernel_rfl
theorem eqw30 (w : World) (x0 x1 x2 x3 y0 y1 y2 y3 : BitVec 32) :
    (Op.equalIn 10000 52 (.agg #[.int .u32 (W32 x0), .int .u32 (W32 x1), .int .u32 (W32 x2), .int .u32 (W32 x3)]) (.agg #[.int .u32 (W32 y0), .int .u32 (W32 y1), .int .u32 (W32 y2), .int .u32 (W32 y3)])).run Try.prog w = .ok (x0 == y0 && (x1 == y1 && (x2 == y2 && x3 == y3))) w := by
  obtain ⟨i, hi⟩ := Option.isSome_iff_exists.1 info30
  rw [run_equalIn_array w 9999 _ _ Try.underlying52 hi, cells30, show List.range 4 = [0, 1, 2, 3] from rfl]
  have hu := Try.underlying22
  have e0 := run_part_plain (w := w) (v := .int .u32 (W32 x0)) plain30 (xs := #[.int .u32 (W32 x0), .int .u32 (W32 x1), .int .u32 (W32 x2), .int .u32 (W32 x3)]) (off := 0) rfl
  have f0 := run_part_plain (w := w) (v := .int .u32 (W32 y0)) plain30 (xs := #[.int .u32 (W32 y0), .int .u32 (W32 y1), .int .u32 (W32 y2), .int .u32 (W32 y3)]) (off := 0) rfl
  have g0 := run_equalIn_int (w := w) 9998 _ .u32 .u32 (W32 x0) (W32 y0) hu
  have e1 := run_part_plain (w := w) (v := .int .u32 (W32 x1)) plain30 (xs := #[.int .u32 (W32 x0), .int .u32 (W32 x1), .int .u32 (W32 x2), .int .u32 (W32 x3)]) (off := 1) rfl
  have f1 := run_part_plain (w := w) (v := .int .u32 (W32 y1)) plain30 (xs := #[.int .u32 (W32 y0), .int .u32 (W32 y1), .int .u32 (W32 y2), .int .u32 (W32 y3)]) (off := 1) rfl
  have g1 := run_equalIn_int (w := w) 9998 _ .u32 .u32 (W32 x1) (W32 y1) hu
  have e2 := run_part_plain (w := w) (v := .int .u32 (W32 x2)) plain30 (xs := #[.int .u32 (W32 x0), .int .u32 (W32 x1), .int .u32 (W32 x2), .int .u32 (W32 x3)]) (off := 2) rfl
  have f2 := run_part_plain (w := w) (v := .int .u32 (W32 y2)) plain30 (xs := #[.int .u32 (W32 y0), .int .u32 (W32 y1), .int .u32 (W32 y2), .int .u32 (W32 y3)]) (off := 2) rfl
  have g2 := run_equalIn_int (w := w) 9998 _ .u32 .u32 (W32 x2) (W32 y2) hu
  have e3 := run_part_plain (w := w) (v := .int .u32 (W32 x3)) plain30 (xs := #[.int .u32 (W32 x0), .int .u32 (W32 x1), .int .u32 (W32 x2), .int .u32 (W32 x3)]) (off := 3) rfl
  have f3 := run_part_plain (w := w) (v := .int .u32 (W32 y3)) plain30 (xs := #[.int .u32 (W32 y0), .int .u32 (W32 y1), .int .u32 (W32 y2), .int .u32 (W32 y3)]) (off := 3) rfl
  have g3 := run_equalIn_int (w := w) 9998 _ .u32 .u32 (W32 x3) (W32 y3) hu
  rw [eq_u32] at g0 g1 g2 g3
  simp only [Op.eqItems, Sem.run_bind, Nat.mul_one, e0, f0, g0, Result.andThen_ok]
  rcases h0 : x0 == y0 <;> rcases h1 : x1 == y1 <;> rcases h2 : x2 == y2 <;> rcases h3 : x3 == y3 <;> rw [h1] at g1 <;> rw [h2] at g2 <;> rw [h3] at g3 <;> simp [Sem.run_bind, e1, e2, e3, f1, f2, f3, g1, g2, g3]
theorem fmix32r_n (y : BitVec 32) (w : World) : Calls Try.prog 41 #[.int .u32 (W32 y)] w fun e w' => e = .returned (.int .u32 (W32 (fmix32 y))) ∧ w' = w := by
  have h := fmix32_ref (W32 y) (b32 _) w
  rw [ofInt_W32] at h
  exact h
theorem fmix32_n (y : BitVec 32) (w : World) : Calls Try.prog 50 #[.int .u32 (W32 y)] w fun e w' => e = .returned (.int .u32 (W32 (fmix32 y))) ∧ New w w' := by
  have h := fmix32_any (W32 y) (b32 _) w w (New.refl w)
  rw [ofInt_W32] at h
  exact h
set_option maxRecDepth 100000 in
set_option maxHeartbeats 2000000 in
theorem widened_30s (s : BitVec 32 × BitVec 32 × BitVec 32 × BitVec 32) (w : World) : Calls Try.prog 34 #[.agg #[.int .u32 (W32 (s.1)), .int .u32 (W32 (s.2.1)), .int .u32 (W32 (s.2.2.1)), .int .u32 (W32 (s.2.2.2))]] w fun e w' => e = .returned (.agg #[.int .u64 (W64 ((s).1.setWidth 64)), .int .u64 (W64 ((s).2.1.setWidth 64)), .int .u64 (W64 ((s).2.2.1.setWidth 64)), .int .u64 (W64 ((s).2.2.2.setWidth 64))]) ∧ New w w' := by
  obtain ⟨s0, s1, s2, s3⟩ := s
  have ix0 : ∀ w, (Instr.index 52 (.agg #[.int .u32 (W32 s0), .int .u32 (W32 s1), .int .u32 (W32 s2), .int .u32 (W32 s3)]) (.int .i64 0)).run Try.prog w = .ok (.int .u32 (W32 s0)) w := fun _ => rfl
  have ix1 : ∀ w, (Instr.index 52 (.agg #[.int .u32 (W32 s0), .int .u32 (W32 s1), .int .u32 (W32 s2), .int .u32 (W32 s3)]) (.int .i64 1)).run Try.prog w = .ok (.int .u32 (W32 s1)) w := fun _ => rfl
  have ix2 : ∀ w, (Instr.index 52 (.agg #[.int .u32 (W32 s0), .int .u32 (W32 s1), .int .u32 (W32 s2), .int .u32 (W32 s3)]) (.int .i64 2)).run Try.prog w = .ok (.int .u32 (W32 s2)) w := fun _ => rfl
  have ix3 : ∀ w, (Instr.index 52 (.agg #[.int .u32 (W32 s0), .int .u32 (W32 s1), .int .u32 (W32 s2), .int .u32 (W32 s3)]) (.int .i64 3)).run Try.prog w = .ok (.int .u32 (W32 s3)) w := fun _ => rfl
  go_enter Try.func34, Try.ntmps34
  go_wp2_with fail
  go_rounds 5
  go_returns
  exact ⟨rfl, (((New.refl w).alloc _).alloc _).alloc _⟩
theorem three_all30 (w : World) (A B C : Obj) : (((w.alloc A).alloc B).alloc C).heap[w.heap.size]? = some A ∧ (((w.alloc A).alloc B).alloc C).heap[w.heap.size + 1]? = some B ∧ (((w.alloc A).alloc B).alloc C).heap[w.heap.size + 1 + 1]? = some C ∧ New w (((w.alloc A).alloc B).alloc C) := by
  have h := two_blocks w A B
  have e2 : ((w.alloc A).alloc B).heap.size = w.heap.size + 1 + 1 := by simp
  refine ⟨?_, ?_, ?_, h.2.2.alloc _⟩
  · rw [((New.refl ((w.alloc A).alloc B)).alloc C).block _ (by rw [e2]; omega)]; exact h.1
  · rw [((New.refl ((w.alloc A).alloc B)).alloc C).block _ (by rw [e2]; omega)]; exact h.2.1
  · rw [← e2]; exact heap_alloc_new _ _
/-- whether lanes may be -/
def rgt30 (y : BitVec 64 × BitVec 64 × BitVec 64 × BitVec 64) : Bool := (y.1.setWidth 32).setWidth 64 == y.1 && ((y.2.1.setWidth 32).setWidth 64 == y.2.1 && ((y.2.2.1.setWidth 32).setWidth 64 == y.2.2.1 && (y.2.2.2.setWidth 32).setWidth 64 == y.2.2.2))
def low30 (y : BitVec 64 × BitVec 64 × BitVec 64 × BitVec 64) : BitVec 32 × BitVec 32 × BitVec 32 × BitVec 32 := (y.1.setWidth 32, y.2.1.setWidth 32, y.2.2.1.setWidth 32, y.2.2.2.setWidth 32)
set_option maxRecDepth 100000 in
set_option maxHeartbeats 2000000 in
theorem narrowed_30s (y : BitVec 64 × BitVec 64 × BitVec 64 × BitVec 64) (w : World) : Calls Try.prog 36 #[.agg #[.int .u64 (W64 y.1), .int .u64 (W64 y.2.1), .int .u64 (W64 y.2.2.1), .int .u64 (W64 y.2.2.2)]] w fun e w' => e = .returned (.tuple #[.agg #[.int .u32 (W32 ((low30 y).1)), .int .u32 (W32 ((low30 y).2.1)), .int .u32 (W32 ((low30 y).2.2.1)), .int .u32 (W32 ((low30 y).2.2.2))], .bool (rgt30 y)]) ∧ New w w' := by
  obtain ⟨y0, y1, y2, y3⟩ := y
  have he4 := fun w => eq4h w ((y0.setWidth 32).setWidth 64) ((y1.setWidth 32).setWidth 64) ((y2.setWidth 32).setWidth 64) ((y3.setWidth 32).setWidth 64) y0 y1 y2 y3
  have hr : rgt30 (y0, y1, y2, y3) = ((y0.setWidth 32).setWidth 64 == y0 && ((y1.setWidth 32).setWidth 64 == y1 && ((y2.setWidth 32).setWidth 64 == y2 && (y3.setWidth 32).setWidth 64 == y3))) := rfl
  rw [← hr] at he4
  clear hr
  obtain ⟨rr, hrr⟩ : ∃ z, rgt30 (y0, y1, y2, y3) = z := ⟨_, rfl⟩
  rw [hrr] at he4 ⊢
  unfold low30
  simp only
  obtain ⟨n0, hn0⟩ : ∃ z, y0.setWidth 32 = z := ⟨_, rfl⟩
  rw [hn0] at he4 ⊢
  obtain ⟨n1, hn1⟩ : ∃ z, y1.setWidth 32 = z := ⟨_, rfl⟩
  rw [hn1] at he4 ⊢
  obtain ⟨n2, hn2⟩ : ∃ z, y2.setWidth 32 = z := ⟨_, rfl⟩
  rw [hn2] at he4 ⊢
  obtain ⟨n3, hn3⟩ : ∃ z, y3.setWidth 32 = z := ⟨_, rfl⟩
  rw [hn3] at he4 ⊢
  clear hrr
  have HE4 := Lib.hid he4
  clear he4
  have HWD := Lib.hid (widened_30s (n0, n1, n2, n3))
  have HZ := Lib.hid (three_all30 w (.cells #[.int .u64 (W64 y0), .int .u64 (W64 y1), .int .u64 (W64 y2), .int .u64 (W64 y3)] 38) (.cells #[.int .u32 0, .int .u32 0, .int .u32 0, .int .u32 0] 52) (.cells #[.int .u32 (W32 n0), .int .u32 (W32 n1), .int .u32 (W32 n2), .int .u32 (W32 n3)] 52))
  have ix0 : ∀ w, (Instr.index 38 (.agg #[.int .u64 (W64 y0), .int .u64 (W64 y1), .int .u64 (W64 y2), .int .u64 (W64 y3)]) (.int .i64 0)).run Try.prog w = .ok (.int .u64 (W64 y0)) w := fun _ => rfl
  have ix1 : ∀ w, (Instr.index 38 (.agg #[.int .u64 (W64 y0), .int .u64 (W64 y1), .int .u64 (W64 y2), .int .u64 (W64 y3)]) (.int .i64 1)).run Try.prog w = .ok (.int .u64 (W64 y1)) w := fun _ => rfl
  have ix2 : ∀ w, (Instr.index 38 (.agg #[.int .u64 (W64 y0), .int .u64 (W64 y1), .int .u64 (W64 y2), .int .u64 (W64 y3)]) (.int .i64 2)).run Try.prog w = .ok (.int .u64 (W64 y2)) w := fun _ => rfl
  have ix3 : ∀ w, (Instr.index 38 (.agg #[.int .u64 (W64 y0), .int .u64 (W64 y1), .int .u64 (W64 y2), .int .u64 (W64 y3)]) (.int .i64 3)).run Try.prog w = .ok (.int .u64 (W64 y3)) w := fun _ => rfl
  go_enter Try.func36, Try.ntmps36
  go_wp2_with fail
  go_rounds 5
  clear ix0 ix1 ix2 ix3 hn0 hn1 hn2 hn3
  generalize ((w.alloc (.cells #[.int .u64 (W64 y0), .int .u64 (W64 y1), .int .u64 (W64 y2), .int .u64 (W64 y3)] 38)).alloc (.cells #[.int .u32 0, .int .u32 0, .int .u32 0, .int .u32 0] 52)).alloc (.cells #[.int .u32 (W32 n0), .int .u32 (W32 n1), .int .u32 (W32 n2), .int .u32 (W32 n3)] 52) = w9 at *
  have he4 := HE4.out
  refine Gro3.wp_region_gro3S (fun w' => w'.heap[w.heap.size]? = some (.cells #[.int .u64 (W64 y0), .int .u64 (W64 y1), .int .u64 (W64 y2), .int .u64 (W64 y3)] 38 (0, 0)) ∧ (∃ u0 u1 u2 u3 : Value, w'.heap[w.heap.size + 1]? = some (.cells #[u0, u1, u2, u3] 52 (0, 0))) ∧ New w w') (fun w' => w'.heap[w.heap.size]? = some (.cells #[.int .u64 (W64 y0), .int .u64 (W64 y1), .int .u64 (W64 y2), .int .u64 (W64 y3)] 38 (0, 0)) ∧ w'.heap[w.heap.size + 1]? = some (.cells #[.int .u32 0, .int .u32 0, .int .u32 0, .int .u32 0] 52 (0, 0)) ∧ w'.heap[w.heap.size + 1 + 1]? = some (.cells #[.int .u32 (W32 n0), .int .u32 (W32 n1), .int .u32 (W32 n2), .int .u32 (W32 n3)] 52 (0, 0)) ∧ New w w') [1,1,2,0,0,3,0] New (fun _ _ _ => True) (by kernel_rfl) (by kernel_rfl) (by kernel_rfl) (fun _ _ _ _ _ _ => trivial) (fun w' hw' => ⟨hw'.1, ⟨_, _, _, _, hw'.2.1⟩, hw'.2.2.2⟩) (⟨HZ.out.1, HZ.out.2.1, HZ.out.2.2.1, HZ.out.2.2.2.drew⟩) ?_
  intro I J _ _ f g hfa hba hgb hbb
  have HFA := Lib.hid hfa
  have HBA := Lib.hid hba
  have HGB := Lib.hid hgb
  have HBB := Lib.hid hbb
  have fo0 := fun n => cell_of_row _ _ 0 _ _ _ (hgb n).2.2.1
  have fo1 := fun n => cell_of_row _ _ 1 _ _ _ (hgb n).2.2.1
  have fo2 := fun n => cell_of_row _ _ 2 _ _ _ (hgb n).2.2.1
  have fo3 := fun n => cell_of_row _ _ 3 _ _ _ (hgb n).2.2.1
  have fa0 := fun n => cell_of_row _ _ 0 _ _ _ (hfa n).1
  have fa1 := fun n => cell_of_row _ _ 1 _ _ _ (hfa n).1
  have fa2 := fun n => cell_of_row _ _ 2 _ _ _ (hfa n).1
  have fa3 := fun n => cell_of_row _ _ 3 _ _ _ (hfa n).1
  clear hfa hba hgb hbb
  refine Gro3.take1 2 (by kernel_rfl) ?_
  simp only [List.take, List.drop, List.length]
  repeat (go_big_quiet_step (fail))
  refine wpQuiet_nil ?_
  refine Gro3.callt (fun v => v = (.agg #[.int .u64 (W64 (n0.setWidth 64)), .int .u64 (W64 (n1.setWidth 64)), .int .u64 (W64 (n2.setWidth 64)), .int .u64 (W64 (n3.setWidth 64))])) (fun _ _ => True) rfl rfl (⟨_, rfl⟩) (fun _ _ _ _ _ => trivial) (fun w1 hB hG => ?_) (fun v1 A1 hv1 hA => ?_)
  · obtain ⟨nq, rfl⟩ := hB
    clear fa0 fa1 fa2 fa3 fo0 fo1 fo2 fo3 he4
    go_simp
    refine (HWD.out _).mono ?_
    rintro e w2 ⟨rfl, hn⟩
    have HX := HBB.out _ ⟨(hn.block _ (lt_of_block (HGB.out nq).1)).trans (HGB.out nq).1, (hn.block _ (lt_of_block (HGB.out nq).2.1)).trans (HGB.out nq).2.1, (hn.block _ (lt_of_block (HGB.out nq).2.2.1)).trans (HGB.out nq).2.2.1, (HGB.out nq).2.2.2.trans hn⟩
    first | exact ⟨_, rfl, HX, hn, rfl⟩ | exact ⟨_, rfl, HX, hn, rfl, trivial⟩ | exact ⟨rfl, HX, hn⟩ | exact ⟨HX, hn, rfl⟩ | exact ⟨HX, hn⟩
  simp [Act.put] at hA
  subst hA
  obtain rfl := hv1
  refine Gro3.take0 2 (by kernel_rfl) ?_
  simp only [List.take, List.drop, List.length]
  repeat (go_big_quiet_step (fail))
  refine wpQuiet_nil ?_
  refine Gro3.turn (fun v => v = undef) (fun _ w9 => Lies w9 (w.heap.size + 1) (.cells #[.int .u32 (W32 n0), .int .u32 (W32 n1), .int .u32 (W32 n2), .int .u32 (W32 n3)] 52 (0, 0))) rfl rfl ⟨_, rfl⟩ (fun w1 hB hG => ?_) (fun v2 A2 hv2 hA => ?_)
  · obtain ⟨nq, rfl⟩ : ∃ nq, w1 = g nq := hB
    have HX := Lib.hid (HGB.out nq)
    have c0 := cell_of_row _ _ 0 _ _ _ HX.out.2.1
    have c1 := cell_of_row _ _ 1 _ _ _ HX.out.2.1
    have c2 := cell_of_row _ _ 2 _ _ _ HX.out.2.1
    have c3 := cell_of_row _ _ 3 _ _ _ HX.out.2.1
    have cf := fun i => frozen_of_row _ _ i _ _ HX.out.2.1
    have HP := Lib.hid (put4h (.int .u32 (W32 n0)) (.int .u32 (W32 n1)) (.int .u32 (W32 n2)) (.int .u32 (W32 n3)) HX.out.2.1)
    have HLI := Lib.hid (show Lies _ _ _ from HP.out.1)
    clear fa0 fa1 fa2 fa3 fo0 fo1 fo2 fo3 he4
    go_simp
    exact ⟨HBA.out _ ⟨(HP.out.2.1 _ (by omega)).trans HX.out.1, ⟨_, _, _, _, HLI.out⟩, HP.out.2.2 _ HX.out.2.2.2 (by omega)⟩, HLI.out⟩
  simp [Act.put] at hA
  subst hA
  refine Gro3.take0 1 (by kernel_rfl) ?_
  simp only [List.take, List.drop, List.length]
  repeat (go_big_quiet_step (fail))
  refine wpQuiet_nil ?_
  refine Gro3.nil ?_
  rintro w11 ⟨n9, rfl⟩ hG
  have HRZ := Lib.hid (show (f n9).heap[w.heap.size + 1]? = _ from hG)
  have HNZ := Lib.hid (HFA.out n9).2.2
  clear HFA HBA HGB HBB hG fa0 fa1 fa2 fa3 fo0 fo1 fo2 fo3 he4 HWD HZ HE4
  generalize f n9 = w11 at *
  have z0 := cell_of_row _ _ 0 _ _ _ HRZ.out
  have z1 := cell_of_row _ _ 1 _ _ _ HRZ.out
  have z2 := cell_of_row _ _ 2 _ _ _ HRZ.out
  have z3 := cell_of_row _ _ 3 _ _ _ HRZ.out
  go_wp2
  refine bodyPost_ret (by simp [results, Try.results36, go_sem, z0, z1, z2, z3]; try rfl) rfl ?_
  exact ⟨rfl, HNZ.out⟩
end Go.Proofs.Ytnapogamcohfaaa
