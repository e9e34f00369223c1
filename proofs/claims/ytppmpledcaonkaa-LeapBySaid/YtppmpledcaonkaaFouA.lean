/- wide.Add4, Sub4. -/
import Derived.Test.YtppmpledcaonkaaFouN
import Derived.Test.YtppmpledcaonkaaWidS
import Derived.Test.YtppmpledcaonkaaBitQ
import Derived.ChangeKeysEq
import Derived.Laws.StructEq
namespace Go.Proofs.Ytppmpledcaonkaa
open Go.RowKit Go.Bv
set_option linter.unusedVariables false
theorem four_blocks (w : World) (A B C D : Obj) : ((((w.alloc A).alloc B).alloc C).alloc D).heap[w.heap.size]? = some A ∧ ((((w.alloc A).alloc B).alloc C).alloc D).heap[w.heap.size + 1]? = some B ∧ ((((w.alloc A).alloc B).alloc C).alloc D).heap[w.heap.size + 2]? = some C ∧ ((((w.alloc A).alloc B).alloc C).alloc D).heap[w.heap.size + 3]? = some D ∧ New w ((((w.alloc A).alloc B).alloc C).alloc D) := by
  have e1 : (w.alloc A).heap.size = w.heap.size + 1 := by simp
  have e2 : ((w.alloc A).alloc B).heap.size = w.heap.size + 2 := by simp
  have e3 : (((w.alloc A).alloc B).alloc C).heap.size = w.heap.size + 3 := by simp
  have n3 := (New.refl (((w.alloc A).alloc B).alloc C)).alloc D
  have n2 := (New.refl ((w.alloc A).alloc B)).alloc C
  have n1 := (New.refl (w.alloc A)).alloc B
  refine ⟨?_, ?_, ?_, ?_, ((((New.refl w).alloc _).alloc _).alloc _).alloc _⟩
  · rw [n3.block _ (by rw [e3]; omega), n2.block _ (by rw [e2]; omega), n1.block _ (by rw [e1]; omega)]; exact heap_alloc_new _ _
  · rw [n3.block _ (by rw [e3]; omega), n2.block _ (by rw [e2]; omega), ← e1]; exact heap_alloc_new _ _
  · rw [n3.block _ (by rw [e3]; omega), ← e2]; exact heap_alloc_new _ _
  · rw [← e3]; exact heap_alloc_new _ _
set_option maxRecDepth 100000 in
set_option maxHeartbeats 8000000 in
theorem add4_run (a0 a1 a2 a3 b0 b1 b2 b3 s0 s1 s2 s3 c1 c2 c3 c4 : BitVec 64)
    (h0 : Hid (∀ w, (callFunc 64 #[.int .u64 (W64 a0), .int .u64 (W64 b0), .int .u64 0]).run Try.prog w = .ok (.value (.tuple #[.int .u64 (W64 s0), .int .u64 (W64 c1)])) w))
    (h1 : Hid (∀ w, (callFunc 64 #[.int .u64 (W64 a1), .int .u64 (W64 b1), .int .u64 (W64 c1)]).run Try.prog w = .ok (.value (.tuple #[.int .u64 (W64 s1), .int .u64 (W64 c2)])) w))
    (h2 : Hid (∀ w, (callFunc 64 #[.int .u64 (W64 a2), .int .u64 (W64 b2), .int .u64 (W64 c2)]).run Try.prog w = .ok (.value (.tuple #[.int .u64 (W64 s2), .int .u64 (W64 c3)])) w))
    (h3 : Hid (∀ w, (callFunc 64 #[.int .u64 (W64 a3), .int .u64 (W64 b3), .int .u64 (W64 c3)]).run Try.prog w = .ok (.value (.tuple #[.int .u64 (W64 s3), .int .u64 (W64 c4)])) w)) (w : World) :
    Calls Try.prog 33 #[.agg #[.int .u64 (W64 a0), .int .u64 (W64 a1), .int .u64 (W64 a2), .int .u64 (W64 a3)], .agg #[.int .u64 (W64 b0), .int .u64 (W64 b1), .int .u64 (W64 b2), .int .u64 (W64 b3)]] w fun e w' => e = .returned (.tuple #[.agg #[.int .u64 (W64 s0), .int .u64 (W64 s1), .int .u64 (W64 s2), .int .u64 (W64 s3)], .bool (c4 == 1#64)]) ∧ New w w' := by
  go_enter Try.func33, Try.ntmps33
  go_wp2_with fail
  have hbx := four_blocks w (.cells #[.int .u64 (W64 a0), .int .u64 (W64 a1), .int .u64 (W64 a2), .int .u64 (W64 a3)] 45) (.cells #[.int .u64 (W64 b0), .int .u64 (W64 b1), .int .u64 (W64 b2), .int .u64 (W64 b3)] 45) (.cells #[.int .u64 0, .int .u64 0, .int .u64 0, .int .u64 0] 45) (.cells #[.int .u64 0, .int .u64 0, .int .u64 0, .int .u64 0] 45)
  generalize (((w.alloc (.cells #[.int .u64 (W64 a0), .int .u64 (W64 a1), .int .u64 (W64 a2), .int .u64 (W64 a3)] 45)).alloc (.cells #[.int .u64 (W64 b0), .int .u64 (W64 b1), .int .u64 (W64 b2), .int .u64 (W64 b3)] 45)).alloc (.cells #[.int .u64 0, .int .u64 0, .int .u64 0, .int .u64 0] 45)).alloc (.cells #[.int .u64 0, .int .u64 0, .int .u64 0, .int .u64 0] 45) = wz at *
  have HBX := Lib.hid hbx
  clear hbx
  go_loopw [7, 9] (fun cv iv wr => ((iv = .int .i64 0 ∧ cv = .int .u64 0 ∧ wr.heap[w.heap.size + 3]? = some (.cells #[.int .u64 0, .int .u64 0, .int .u64 0, .int .u64 0] 45 (0, 0))) ∨ (iv = .int .i64 1 ∧ cv = .int .u64 (W64 c1) ∧ wr.heap[w.heap.size + 3]? = some (.cells #[.int .u64 (W64 s0), .int .u64 0, .int .u64 0, .int .u64 0] 45 (0, 0))) ∨ (iv = .int .i64 2 ∧ cv = .int .u64 (W64 c2) ∧ wr.heap[w.heap.size + 3]? = some (.cells #[.int .u64 (W64 s0), .int .u64 (W64 s1), .int .u64 0, .int .u64 0] 45 (0, 0))) ∨ (iv = .int .i64 3 ∧ cv = .int .u64 (W64 c3) ∧ wr.heap[w.heap.size + 3]? = some (.cells #[.int .u64 (W64 s0), .int .u64 (W64 s1), .int .u64 (W64 s2), .int .u64 0] 45 (0, 0))) ∨ (iv = .int .i64 4 ∧ cv = .int .u64 (W64 c4) ∧ wr.heap[w.heap.size + 3]? = some (.cells #[.int .u64 (W64 s0), .int .u64 (W64 s1), .int .u64 (W64 s2), .int .u64 (W64 s3)] 45 (0, 0)))) ∧ wr.heap[w.heap.size]? = some (.cells #[.int .u64 (W64 a0), .int .u64 (W64 a1), .int .u64 (W64 a2), .int .u64 (W64 a3)] 45 (0, 0)) ∧ wr.heap[w.heap.size + 1]? = some (.cells #[.int .u64 (W64 b0), .int .u64 (W64 b1), .int .u64 (W64 b2), .int .u64 (W64 b3)] 45 (0, 0)) ∧ wr.heap[w.heap.size + 2]? = some (.cells #[.int .u64 0, .int .u64 0, .int .u64 0, .int .u64 0] 45 (0, 0)) ∧ New w wr) (fun _ iv _ => 4 - (intOf iv).toNat)
  case atStart => exact ⟨Or.inl ⟨rfl, rfl, HBX.out.2.2.2.1⟩, HBX.out.1, HBX.out.2.1, HBX.out.2.2.1, HBX.out.2.2.2.2⟩
  case round =>
    clear HBX
    obtain ⟨hc, hba, hbb, hbr, hn⟩ := hrel
    have HA := Lib.hid hba
    have HB := Lib.hid hbb
    have HR := Lib.hid hbr
    have HN := Lib.hid hn
    clear hba hbb hbr hn
    rcases hc with ⟨rfl, rfl, hs⟩ | ⟨rfl, rfl, hs⟩ | ⟨rfl, rfl, hs⟩ | ⟨rfl, rfl, hs⟩ | ⟨rfl, rfl, hs⟩
    · have HS := Lib.hid hs
      have hA := cell_of_row _ _ 0 _ _ _ HA.out
      have hB := cell_of_row _ _ 0 _ _ _ HB.out
      have hC := cell_of_row _ _ 0 _ _ _ HS.out
      have hF := frozen_of_row _ _ 0 _ _ HS.out
      have hrun := h0.out
      clear hs h0 h1 h2 h3
      have HD := Lib.hid (heap_setCell_same wr (w.heap.size + 3) 0 _ _ (.int .u64 (W64 s0)) HS.out)
      have HDA := Lib.hid ((heap_setCell_other wr ⟨w.heap.size + 3, 0, none⟩ w.heap.size (.int .u64 (W64 s0)) (by show w.heap.size ≠ w.heap.size + 3; omega)).trans HA.out)
      have HDB := Lib.hid ((heap_setCell_other wr ⟨w.heap.size + 3, 0, none⟩ (w.heap.size + 1) (.int .u64 (W64 s0)) (by show w.heap.size + 1 ≠ w.heap.size + 3; omega)).trans HB.out)
      have HDR := Lib.hid ((heap_setCell_other wr ⟨w.heap.size + 3, 0, none⟩ (w.heap.size + 2) (.int .u64 (W64 s0)) (by show w.heap.size + 2 ≠ w.heap.size + 3; omega)).trans HR.out)
      have HDN := Lib.hid ((HN.out.setCell (p := ⟨w.heap.size + 3, 0, none⟩) (by show w.heap.size ≤ w.heap.size + 3; omega) (.int .u64 (W64 s0))).drew)
      clear HA HB HR HN HS
      go_wp2_with fail
      go_region
      go_wp2
      exact ⟨⟨(Or.inr (Or.inl ⟨rfl, rfl, HD.out⟩)), HDA.out, HDB.out, HDR.out, HDN.out⟩, by simp [intOf]⟩
    · have HS := Lib.hid hs
      have hA := cell_of_row _ _ 1 _ _ _ HA.out
      have hB := cell_of_row _ _ 1 _ _ _ HB.out
      have hC := cell_of_row _ _ 1 _ _ _ HS.out
      have hF := frozen_of_row _ _ 1 _ _ HS.out
      have hrun := h1.out
      clear hs h0 h1 h2 h3
      have HD := Lib.hid (heap_setCell_same wr (w.heap.size + 3) 1 _ _ (.int .u64 (W64 s1)) HS.out)
      have HDA := Lib.hid ((heap_setCell_other wr ⟨w.heap.size + 3, 1, none⟩ w.heap.size (.int .u64 (W64 s1)) (by show w.heap.size ≠ w.heap.size + 3; omega)).trans HA.out)
      have HDB := Lib.hid ((heap_setCell_other wr ⟨w.heap.size + 3, 1, none⟩ (w.heap.size + 1) (.int .u64 (W64 s1)) (by show w.heap.size + 1 ≠ w.heap.size + 3; omega)).trans HB.out)
      have HDR := Lib.hid ((heap_setCell_other wr ⟨w.heap.size + 3, 1, none⟩ (w.heap.size + 2) (.int .u64 (W64 s1)) (by show w.heap.size + 2 ≠ w.heap.size + 3; omega)).trans HR.out)
      have HDN := Lib.hid ((HN.out.setCell (p := ⟨w.heap.size + 3, 1, none⟩) (by show w.heap.size ≤ w.heap.size + 3; omega) (.int .u64 (W64 s1))).drew)
      clear HA HB HR HN HS
      go_wp2_with fail
      go_region
      go_wp2
      exact ⟨⟨(Or.inr (Or.inr (Or.inl ⟨rfl, rfl, HD.out⟩))), HDA.out, HDB.out, HDR.out, HDN.out⟩, by simp [intOf]⟩
    · have HS := Lib.hid hs
      have hA := cell_of_row _ _ 2 _ _ _ HA.out
      have hB := cell_of_row _ _ 2 _ _ _ HB.out
      have hC := cell_of_row _ _ 2 _ _ _ HS.out
      have hF := frozen_of_row _ _ 2 _ _ HS.out
      have hrun := h2.out
      clear hs h0 h1 h2 h3
      have HD := Lib.hid (heap_setCell_same wr (w.heap.size + 3) 2 _ _ (.int .u64 (W64 s2)) HS.out)
      have HDA := Lib.hid ((heap_setCell_other wr ⟨w.heap.size + 3, 2, none⟩ w.heap.size (.int .u64 (W64 s2)) (by show w.heap.size ≠ w.heap.size + 3; omega)).trans HA.out)
      have HDB := Lib.hid ((heap_setCell_other wr ⟨w.heap.size + 3, 2, none⟩ (w.heap.size + 1) (.int .u64 (W64 s2)) (by show w.heap.size + 1 ≠ w.heap.size + 3; omega)).trans HB.out)
      have HDR := Lib.hid ((heap_setCell_other wr ⟨w.heap.size + 3, 2, none⟩ (w.heap.size + 2) (.int .u64 (W64 s2)) (by show w.heap.size + 2 ≠ w.heap.size + 3; omega)).trans HR.out)
      have HDN := Lib.hid ((HN.out.setCell (p := ⟨w.heap.size + 3, 2, none⟩) (by show w.heap.size ≤ w.heap.size + 3; omega) (.int .u64 (W64 s2))).drew)
      clear HA HB HR HN HS
      go_wp2_with fail
      go_region
      go_wp2
      exact ⟨⟨(Or.inr (Or.inr (Or.inr (Or.inl ⟨rfl, rfl, HD.out⟩)))), HDA.out, HDB.out, HDR.out, HDN.out⟩, by simp [intOf]⟩
    · have HS := Lib.hid hs
      have hA := cell_of_row _ _ 3 _ _ _ HA.out
      have hB := cell_of_row _ _ 3 _ _ _ HB.out
      have hC := cell_of_row _ _ 3 _ _ _ HS.out
      have hF := frozen_of_row _ _ 3 _ _ HS.out
      have hrun := h3.out
      clear hs h0 h1 h2 h3
      have HD := Lib.hid (heap_setCell_same wr (w.heap.size + 3) 3 _ _ (.int .u64 (W64 s3)) HS.out)
      have HDA := Lib.hid ((heap_setCell_other wr ⟨w.heap.size + 3, 3, none⟩ w.heap.size (.int .u64 (W64 s3)) (by show w.heap.size ≠ w.heap.size + 3; omega)).trans HA.out)
      have HDB := Lib.hid ((heap_setCell_other wr ⟨w.heap.size + 3, 3, none⟩ (w.heap.size + 1) (.int .u64 (W64 s3)) (by show w.heap.size + 1 ≠ w.heap.size + 3; omega)).trans HB.out)
      have HDR := Lib.hid ((heap_setCell_other wr ⟨w.heap.size + 3, 3, none⟩ (w.heap.size + 2) (.int .u64 (W64 s3)) (by show w.heap.size + 2 ≠ w.heap.size + 3; omega)).trans HR.out)
      have HDN := Lib.hid ((HN.out.setCell (p := ⟨w.heap.size + 3, 3, none⟩) (by show w.heap.size ≤ w.heap.size + 3; omega) (.int .u64 (W64 s3))).drew)
      clear HA HB HR HN HS
      go_wp2_with fail
      go_region
      go_wp2
      exact ⟨⟨(Or.inr (Or.inr (Or.inr (Or.inr ⟨rfl, rfl, HD.out⟩)))), HDA.out, HDB.out, HDR.out, HDN.out⟩, by simp [intOf]⟩
    · have r0 : wr.cell? ⟨w.heap.size + 3, 0, none⟩ = some (.int .u64 (W64 s0)) := by rw [cell_of_row _ _ _ _ _ _ hs]; rfl
      have r1 : wr.cell? ⟨w.heap.size + 3, 1, none⟩ = some (.int .u64 (W64 s1)) := by rw [cell_of_row _ _ _ _ _ _ hs]; rfl
      have r2 : wr.cell? ⟨w.heap.size + 3, 2, none⟩ = some (.int .u64 (W64 s2)) := by rw [cell_of_row _ _ _ _ _ _ hs]; rfl
      have r3 : wr.cell? ⟨w.heap.size + 3, 3, none⟩ = some (.int .u64 (W64 s3)) := by rw [cell_of_row _ _ _ _ _ _ hs]; rfl
      have q0 : wr.cell? ⟨w.heap.size + 2, 0, none⟩ = some (.int .u64 0) := by rw [cell_of_row _ _ _ _ _ _ HR.out]; rfl
      have q1 : wr.cell? ⟨w.heap.size + 2, 1, none⟩ = some (.int .u64 0) := by rw [cell_of_row _ _ _ _ _ _ HR.out]; rfl
      have q2 : wr.cell? ⟨w.heap.size + 2, 2, none⟩ = some (.int .u64 0) := by rw [cell_of_row _ _ _ _ _ _ HR.out]; rfl
      have q3 : wr.cell? ⟨w.heap.size + 2, 3, none⟩ = some (.int .u64 0) := by rw [cell_of_row _ _ _ _ _ _ HR.out]; rfl
      have hF := fun i => frozen_of_row _ _ i _ _ HR.out
      clear hs h0 h1 h2 h3 HA HB HR
      go_wp2
      refine bodyPost_ret (by simp [results, Try.results33, go_sem, q0, q1, q2, q3]; try rfl) rfl ?_
      exact ⟨rfl, (((HN.out.setCell (by simp; try omega) _).setCell (by simp; try omega) _).setCell (by simp; try omega) _).setCell (by simp; try omega) _⟩
set_option maxRecDepth 100000 in
set_option maxHeartbeats 8000000 in
theorem sub4_run (a0 a1 a2 a3 b0 b1 b2 b3 s0 s1 s2 s3 c1 c2 c3 c4 : BitVec 64)
    (h0 : Hid (∀ w, (callFunc 77 #[.int .u64 (W64 a0), .int .u64 (W64 b0), .int .u64 0]).run Try.prog w = .ok (.value (.tuple #[.int .u64 (W64 s0), .int .u64 (W64 c1)])) w))
    (h1 : Hid (∀ w, (callFunc 77 #[.int .u64 (W64 a1), .int .u64 (W64 b1), .int .u64 (W64 c1)]).run Try.prog w = .ok (.value (.tuple #[.int .u64 (W64 s1), .int .u64 (W64 c2)])) w))
    (h2 : Hid (∀ w, (callFunc 77 #[.int .u64 (W64 a2), .int .u64 (W64 b2), .int .u64 (W64 c2)]).run Try.prog w = .ok (.value (.tuple #[.int .u64 (W64 s2), .int .u64 (W64 c3)])) w))
    (h3 : Hid (∀ w, (callFunc 77 #[.int .u64 (W64 a3), .int .u64 (W64 b3), .int .u64 (W64 c3)]).run Try.prog w = .ok (.value (.tuple #[.int .u64 (W64 s3), .int .u64 (W64 c4)])) w)) (w : World) :
    Calls Try.prog 53 #[.agg #[.int .u64 (W64 a0), .int .u64 (W64 a1), .int .u64 (W64 a2), .int .u64 (W64 a3)], .agg #[.int .u64 (W64 b0), .int .u64 (W64 b1), .int .u64 (W64 b2), .int .u64 (W64 b3)]] w fun e w' => e = .returned (.tuple #[.agg #[.int .u64 (W64 s0), .int .u64 (W64 s1), .int .u64 (W64 s2), .int .u64 (W64 s3)], .bool (c4 == 1#64)]) ∧ New w w' := by
  go_enter Try.func53, Try.ntmps53
  go_wp2_with fail
  have hbx := four_blocks w (.cells #[.int .u64 (W64 a0), .int .u64 (W64 a1), .int .u64 (W64 a2), .int .u64 (W64 a3)] 45) (.cells #[.int .u64 (W64 b0), .int .u64 (W64 b1), .int .u64 (W64 b2), .int .u64 (W64 b3)] 45) (.cells #[.int .u64 0, .int .u64 0, .int .u64 0, .int .u64 0] 45) (.cells #[.int .u64 0, .int .u64 0, .int .u64 0, .int .u64 0] 45)
  generalize (((w.alloc (.cells #[.int .u64 (W64 a0), .int .u64 (W64 a1), .int .u64 (W64 a2), .int .u64 (W64 a3)] 45)).alloc (.cells #[.int .u64 (W64 b0), .int .u64 (W64 b1), .int .u64 (W64 b2), .int .u64 (W64 b3)] 45)).alloc (.cells #[.int .u64 0, .int .u64 0, .int .u64 0, .int .u64 0] 45)).alloc (.cells #[.int .u64 0, .int .u64 0, .int .u64 0, .int .u64 0] 45) = wz at *
  have HBX := Lib.hid hbx
  clear hbx
  go_loopw [7, 9] (fun cv iv wr => ((iv = .int .i64 0 ∧ cv = .int .u64 0 ∧ wr.heap[w.heap.size + 3]? = some (.cells #[.int .u64 0, .int .u64 0, .int .u64 0, .int .u64 0] 45 (0, 0))) ∨ (iv = .int .i64 1 ∧ cv = .int .u64 (W64 c1) ∧ wr.heap[w.heap.size + 3]? = some (.cells #[.int .u64 (W64 s0), .int .u64 0, .int .u64 0, .int .u64 0] 45 (0, 0))) ∨ (iv = .int .i64 2 ∧ cv = .int .u64 (W64 c2) ∧ wr.heap[w.heap.size + 3]? = some (.cells #[.int .u64 (W64 s0), .int .u64 (W64 s1), .int .u64 0, .int .u64 0] 45 (0, 0))) ∨ (iv = .int .i64 3 ∧ cv = .int .u64 (W64 c3) ∧ wr.heap[w.heap.size + 3]? = some (.cells #[.int .u64 (W64 s0), .int .u64 (W64 s1), .int .u64 (W64 s2), .int .u64 0] 45 (0, 0))) ∨ (iv = .int .i64 4 ∧ cv = .int .u64 (W64 c4) ∧ wr.heap[w.heap.size + 3]? = some (.cells #[.int .u64 (W64 s0), .int .u64 (W64 s1), .int .u64 (W64 s2), .int .u64 (W64 s3)] 45 (0, 0)))) ∧ wr.heap[w.heap.size]? = some (.cells #[.int .u64 (W64 a0), .int .u64 (W64 a1), .int .u64 (W64 a2), .int .u64 (W64 a3)] 45 (0, 0)) ∧ wr.heap[w.heap.size + 1]? = some (.cells #[.int .u64 (W64 b0), .int .u64 (W64 b1), .int .u64 (W64 b2), .int .u64 (W64 b3)] 45 (0, 0)) ∧ wr.heap[w.heap.size + 2]? = some (.cells #[.int .u64 0, .int .u64 0, .int .u64 0, .int .u64 0] 45 (0, 0)) ∧ New w wr) (fun _ iv _ => 4 - (intOf iv).toNat)
  case atStart => exact ⟨Or.inl ⟨rfl, rfl, HBX.out.2.2.2.1⟩, HBX.out.1, HBX.out.2.1, HBX.out.2.2.1, HBX.out.2.2.2.2⟩
  case round =>
    clear HBX
    obtain ⟨hc, hba, hbb, hbr, hn⟩ := hrel
    have HA := Lib.hid hba
    have HB := Lib.hid hbb
    have HR := Lib.hid hbr
    have HN := Lib.hid hn
    clear hba hbb hbr hn
    rcases hc with ⟨rfl, rfl, hs⟩ | ⟨rfl, rfl, hs⟩ | ⟨rfl, rfl, hs⟩ | ⟨rfl, rfl, hs⟩ | ⟨rfl, rfl, hs⟩
    · have HS := Lib.hid hs
      have hA := cell_of_row _ _ 0 _ _ _ HA.out
      have hB := cell_of_row _ _ 0 _ _ _ HB.out
      have hC := cell_of_row _ _ 0 _ _ _ HS.out
      have hF := frozen_of_row _ _ 0 _ _ HS.out
      have hrun := h0.out
      clear hs h0 h1 h2 h3
      have HD := Lib.hid (heap_setCell_same wr (w.heap.size + 3) 0 _ _ (.int .u64 (W64 s0)) HS.out)
      have HDA := Lib.hid ((heap_setCell_other wr ⟨w.heap.size + 3, 0, none⟩ w.heap.size (.int .u64 (W64 s0)) (by show w.heap.size ≠ w.heap.size + 3; omega)).trans HA.out)
      have HDB := Lib.hid ((heap_setCell_other wr ⟨w.heap.size + 3, 0, none⟩ (w.heap.size + 1) (.int .u64 (W64 s0)) (by show w.heap.size + 1 ≠ w.heap.size + 3; omega)).trans HB.out)
      have HDR := Lib.hid ((heap_setCell_other wr ⟨w.heap.size + 3, 0, none⟩ (w.heap.size + 2) (.int .u64 (W64 s0)) (by show w.heap.size + 2 ≠ w.heap.size + 3; omega)).trans HR.out)
      have HDN := Lib.hid ((HN.out.setCell (p := ⟨w.heap.size + 3, 0, none⟩) (by show w.heap.size ≤ w.heap.size + 3; omega) (.int .u64 (W64 s0))).drew)
      clear HA HB HR HN HS
      go_wp2_with fail
      go_region
      go_wp2
      exact ⟨⟨(Or.inr (Or.inl ⟨rfl, rfl, HD.out⟩)), HDA.out, HDB.out, HDR.out, HDN.out⟩, by simp [intOf]⟩
    · have HS := Lib.hid hs
      have hA := cell_of_row _ _ 1 _ _ _ HA.out
      have hB := cell_of_row _ _ 1 _ _ _ HB.out
      have hC := cell_of_row _ _ 1 _ _ _ HS.out
      have hF := frozen_of_row _ _ 1 _ _ HS.out
      have hrun := h1.out
      clear hs h0 h1 h2 h3
      have HD := Lib.hid (heap_setCell_same wr (w.heap.size + 3) 1 _ _ (.int .u64 (W64 s1)) HS.out)
      have HDA := Lib.hid ((heap_setCell_other wr ⟨w.heap.size + 3, 1, none⟩ w.heap.size (.int .u64 (W64 s1)) (by show w.heap.size ≠ w.heap.size + 3; omega)).trans HA.out)
      have HDB := Lib.hid ((heap_setCell_other wr ⟨w.heap.size + 3, 1, none⟩ (w.heap.size + 1) (.int .u64 (W64 s1)) (by show w.heap.size + 1 ≠ w.heap.size + 3; omega)).trans HB.out)
      have HDR := Lib.hid ((heap_setCell_other wr ⟨w.heap.size + 3, 1, none⟩ (w.heap.size + 2) (.int .u64 (W64 s1)) (by show w.heap.size + 2 ≠ w.heap.size + 3; omega)).trans HR.out)
      have HDN := Lib.hid ((HN.out.setCell (p := ⟨w.heap.size + 3, 1, none⟩) (by show w.heap.size ≤ w.heap.size + 3; omega) (.int .u64 (W64 s1))).drew)
      clear HA HB HR HN HS
      go_wp2_with fail
      go_region
      go_wp2
      exact ⟨⟨(Or.inr (Or.inr (Or.inl ⟨rfl, rfl, HD.out⟩))), HDA.out, HDB.out, HDR.out, HDN.out⟩, by simp [intOf]⟩
    · have HS := Lib.hid hs
      have hA := cell_of_row _ _ 2 _ _ _ HA.out
      have hB := cell_of_row _ _ 2 _ _ _ HB.out
      have hC := cell_of_row _ _ 2 _ _ _ HS.out
      have hF := frozen_of_row _ _ 2 _ _ HS.out
      have hrun := h2.out
      clear hs h0 h1 h2 h3
      have HD := Lib.hid (heap_setCell_same wr (w.heap.size + 3) 2 _ _ (.int .u64 (W64 s2)) HS.out)
      have HDA := Lib.hid ((heap_setCell_other wr ⟨w.heap.size + 3, 2, none⟩ w.heap.size (.int .u64 (W64 s2)) (by show w.heap.size ≠ w.heap.size + 3; omega)).trans HA.out)
      have HDB := Lib.hid ((heap_setCell_other wr ⟨w.heap.size + 3, 2, none⟩ (w.heap.size + 1) (.int .u64 (W64 s2)) (by show w.heap.size + 1 ≠ w.heap.size + 3; omega)).trans HB.out)
      have HDR := Lib.hid ((heap_setCell_other wr ⟨w.heap.size + 3, 2, none⟩ (w.heap.size + 2) (.int .u64 (W64 s2)) (by show w.heap.size + 2 ≠ w.heap.size + 3; omega)).trans HR.out)
      have HDN := Lib.hid ((HN.out.setCell (p := ⟨w.heap.size + 3, 2, none⟩) (by show w.heap.size ≤ w.heap.size + 3; omega) (.int .u64 (W64 s2))).drew)
      clear HA HB HR HN HS
      go_wp2_with fail
      go_region
      go_wp2
      exact ⟨⟨(Or.inr (Or.inr (Or.inr (Or.inl ⟨rfl, rfl, HD.out⟩)))), HDA.out, HDB.out, HDR.out, HDN.out⟩, by simp [intOf]⟩
    · have HS := Lib.hid hs
      have hA := cell_of_row _ _ 3 _ _ _ HA.out
      have hB := cell_of_row _ _ 3 _ _ _ HB.out
      have hC := cell_of_row _ _ 3 _ _ _ HS.out
      have hF := frozen_of_row _ _ 3 _ _ HS.out
      have hrun := h3.out
      clear hs h0 h1 h2 h3
      have HD := Lib.hid (heap_setCell_same wr (w.heap.size + 3) 3 _ _ (.int .u64 (W64 s3)) HS.out)
      have HDA := Lib.hid ((heap_setCell_other wr ⟨w.heap.size + 3, 3, none⟩ w.heap.size (.int .u64 (W64 s3)) (by show w.heap.size ≠ w.heap.size + 3; omega)).trans HA.out)
      have HDB := Lib.hid ((heap_setCell_other wr ⟨w.heap.size + 3, 3, none⟩ (w.heap.size + 1) (.int .u64 (W64 s3)) (by show w.heap.size + 1 ≠ w.heap.size + 3; omega)).trans HB.out)
      have HDR := Lib.hid ((heap_setCell_other wr ⟨w.heap.size + 3, 3, none⟩ (w.heap.size + 2) (.int .u64 (W64 s3)) (by show w.heap.size + 2 ≠ w.heap.size + 3; omega)).trans HR.out)
      have HDN := Lib.hid ((HN.out.setCell (p := ⟨w.heap.size + 3, 3, none⟩) (by show w.heap.size ≤ w.heap.size + 3; omega) (.int .u64 (W64 s3))).drew)
      clear HA HB HR HN HS
      go_wp2_with fail
      go_region
      go_wp2
      exact ⟨⟨(Or.inr (Or.inr (Or.inr (Or.inr ⟨rfl, rfl, HD.out⟩)))), HDA.out, HDB.out, HDR.out, HDN.out⟩, by simp [intOf]⟩
    · have r0 : wr.cell? ⟨w.heap.size + 3, 0, none⟩ = some (.int .u64 (W64 s0)) := by rw [cell_of_row _ _ _ _ _ _ hs]; rfl
      have r1 : wr.cell? ⟨w.heap.size + 3, 1, none⟩ = some (.int .u64 (W64 s1)) := by rw [cell_of_row _ _ _ _ _ _ hs]; rfl
      have r2 : wr.cell? ⟨w.heap.size + 3, 2, none⟩ = some (.int .u64 (W64 s2)) := by rw [cell_of_row _ _ _ _ _ _ hs]; rfl
      have r3 : wr.cell? ⟨w.heap.size + 3, 3, none⟩ = some (.int .u64 (W64 s3)) := by rw [cell_of_row _ _ _ _ _ _ hs]; rfl
      have q0 : wr.cell? ⟨w.heap.size + 2, 0, none⟩ = some (.int .u64 0) := by rw [cell_of_row _ _ _ _ _ _ HR.out]; rfl
      have q1 : wr.cell? ⟨w.heap.size + 2, 1, none⟩ = some (.int .u64 0) := by rw [cell_of_row _ _ _ _ _ _ HR.out]; rfl
      have q2 : wr.cell? ⟨w.heap.size + 2, 2, none⟩ = some (.int .u64 0) := by rw [cell_of_row _ _ _ _ _ _ HR.out]; rfl
      have q3 : wr.cell? ⟨w.heap.size + 2, 3, none⟩ = some (.int .u64 0) := by rw [cell_of_row _ _ _ _ _ _ HR.out]; rfl
      have hF := fun i => frozen_of_row _ _ i _ _ HR.out
      clear hs h0 h1 h2 h3 HA HB HR
      go_wp2
      refine bodyPost_ret (by simp [results, Try.results53, go_sem, q0, q1, q2, q3]; try rfl) rfl ?_
      exact ⟨rfl, (((HN.out.setCell (by simp; try omega) _).setCell (by simp; try omega) _).setCell (by simp; try omega) _).setCell (by simp; try omega) _⟩
theorem wadd4 (a0 a1 a2 a3 b0 b1 b2 b3 : BitVec 64) (w : World) :
    Calls Try.prog 33 #[.agg #[.int .u64 (W64 a0), .int .u64 (W64 a1), .int .u64 (W64 a2), .int .u64 (W64 a3)], .agg #[.int .u64 (W64 b0), .int .u64 (W64 b1), .int .u64 (W64 b2), .int .u64 (W64 b3)]] w fun e w' => ∃ s0 s1 s2 s3,
      e = .returned (.tuple #[.agg #[.int .u64 (W64 s0), .int .u64 (W64 s1), .int .u64 (W64 s2), .int .u64 (W64 s3)], .bool (decide (2 ^ 256 ≤ four a0 a1 a2 a3 + four b0 b1 b2 b3))]) ∧
      (s0 = BitVec.ofNat 64 (four a0 a1 a2 a3 + four b0 b1 b2 b3) ∧ s1 = BitVec.ofNat 64 ((four a0 a1 a2 a3 + four b0 b1 b2 b3) / 2 ^ 64) ∧ s2 = BitVec.ofNat 64 ((four a0 a1 a2 a3 + four b0 b1 b2 b3) / 2 ^ 128) ∧ s3 = BitVec.ofNat 64 ((four a0 a1 a2 a3 + four b0 b1 b2 b3) / 2 ^ 192)) ∧ New w w' := by
  obtain ⟨⟨l1, l2, l3⟩, e0, e1, e2, e3, ec⟩ := sum_words a0 a1 a2 a3 b0 b1 b2 b3 _ _ _ _ rfl rfl rfl rfl
  rw [← ec]
  refine (add4_run a0 a1 a2 a3 b0 b1 b2 b3 _ _ _ _ _ _ _ _ (Lib.hid fun w => add64_run0 a0 b0 w) (Lib.hid fun w => add64_run a1 b1 _ l1 w) (Lib.hid fun w => add64_run a2 b2 _ l2 w) (Lib.hid fun w => add64_run a3 b3 _ l3 w) w).mono ?_
  rintro e w9 ⟨rfl, hn⟩
  exact ⟨_, _, _, _, rfl, ⟨e0, e1, e2, e3⟩, hn⟩
theorem sub64_run0 (x y : BitVec 64) (w : World) :
    (callFunc 77 #[.int .u64 (W64 x), .int .u64 (W64 y), .int .u64 0]).run Try.prog w = .ok (.value (.tuple #[.int .u64 (W64 (x - y - 0#64)), .int .u64 (W64 (bw x y 0#64))])) w := by
  have h := sub64_run x y 0#64 (by decide) w
  rw [show W64 0#64 = 0 from W64_lit 0 (by omega)] at h
  exact h
theorem wsub4 (a0 a1 a2 a3 b0 b1 b2 b3 : BitVec 64) (w : World) :
    Calls Try.prog 53 #[.agg #[.int .u64 (W64 a0), .int .u64 (W64 a1), .int .u64 (W64 a2), .int .u64 (W64 a3)], .agg #[.int .u64 (W64 b0), .int .u64 (W64 b1), .int .u64 (W64 b2), .int .u64 (W64 b3)]] w fun e w' => ∃ d0 d1 d2 d3 k,
      e = .returned (.tuple #[.agg #[.int .u64 (W64 d0), .int .u64 (W64 d1), .int .u64 (W64 d2), .int .u64 (W64 d3)], .bool (decide (four a0 a1 a2 a3 < four b0 b1 b2 b3))]) ∧
      (k ≤ 1 ∧ four a0 a1 a2 a3 + k * 2 ^ 256 = four d0 d1 d2 d3 + four b0 b1 b2 b3) ∧ New w w' := by
  obtain ⟨⟨l1, l2, l3⟩, key, ec⟩ := sub_words a0 a1 a2 a3 b0 b1 b2 b3 _ _ _ _ rfl rfl rfl rfl
  rw [← ec]
  refine (sub4_run a0 a1 a2 a3 b0 b1 b2 b3 _ _ _ _ _ _ _ _ (Lib.hid fun w => sub64_run0 a0 b0 w) (Lib.hid fun w => sub64_run a1 b1 _ l1 w) (Lib.hid fun w => sub64_run a2 b2 _ l2 w) (Lib.hid fun w => sub64_run a3 b3 _ l3 w) w).mono ?_
  rintro e w9 ⟨rfl, hn⟩
  exact ⟨_, _, _, _, _, rfl, ⟨bw_le _ _ _, key⟩, hn⟩
end Go.Proofs.Ytppmpledcaonkaa
