/- wide.Shl4. · The contract of wide.Shl4: for all counts. -/
import Derived.Test.YtppmpledcaonkaaFouC
import Derived.Test.YtppmpledcaonkaaWidQ
namespace Go.Proofs.Ytppmpledcaonkaa
open Go.RowKit Go.Bv
set_option linter.unusedVariables false
theorem three_b4 (w : World) (A B C : Obj) : (((w.alloc A).alloc B).alloc C).heap[w.heap.size]? = some A ∧ (((w.alloc A).alloc B).alloc C).heap[w.heap.size + 1]? = some B ∧ (((w.alloc A).alloc B).alloc C).heap[w.heap.size + 2]? = some C ∧ New w (((w.alloc A).alloc B).alloc C) := by
  have e1 : (w.alloc A).heap.size = w.heap.size + 1 := by simp
  have e2 : ((w.alloc A).alloc B).heap.size = w.heap.size + 2 := by simp
  have n2 := (New.refl ((w.alloc A).alloc B)).alloc C
  have n1 := (New.refl (w.alloc A)).alloc B
  refine ⟨?_, ?_, ?_, (((New.refl w).alloc _).alloc _).alloc _⟩
  · rw [n2.block _ (by rw [e2]; omega), n1.block _ (by rw [e1]; omega)]; exact heap_alloc_new _ _
  · rw [n2.block _ (by rw [e2]; omega), ← e1]; exact heap_alloc_new _ _
  · rw [← e2]; exact heap_alloc_new _ _
set_option maxRecDepth 100000 in
set_option maxHeartbeats 8000000 in
theorem shl4_0 (a0 a1 a2 a3 kb kr : BitVec 64) (k : Nat) (e0 e1 e2 e3 p0 p1 p2 : BitVec 64) (h0 : Hid (a0 <<< k = e0)) (h1 : Hid (p0 ||| a1 <<< k = e1)) (h2 : Hid (p1 ||| a2 <<< k = e2)) (h3 : Hid (p2 ||| a3 <<< k = e3)) (g0 : Hid (a0 >>> (64 - k) = p0)) (g1 : Hid (a1 >>> (64 - k) = p1)) (g2 : Hid (a2 >>> (64 - k) = p2)) (n : Int) (HC : Hid (∀ w, Calls Try.prog 78 #[.int .i64 n] w fun e w' => e = .returned (.int .u64 (W64 kb)) ∧ w' = w))
    (hd : kb / 64#64 = 0#64) (hr : kb % 64#64 = kr) (hk : N64 kr = k) (hs : N64 (64#64 - kr) = 64 - k) (hge : decide (256 ≤ W64 kb) = false) (hkl : k < 64) (w : World) :
    Calls Try.prog 54 #[.agg #[.int .u64 (W64 a0), .int .u64 (W64 a1), .int .u64 (W64 a2), .int .u64 (W64 a3)], .int .i64 n] w fun e w' => e = .returned (.agg #[.int .u64 (W64 e0), .int .u64 (W64 e1), .int .u64 (W64 e2), .int .u64 (W64 e3)]) ∧ New w w' := by
  have hwW : W64 0#64 = 0 := by decide
  have hwV : wrap64 (W64 0#64) = 0 := by rw [hwW]; unfold wrap64; omega
  go_enter Try.func54, Try.ntmps54
  go_wp2_with fail
  have hbx := three_b4 w (.cells #[.int .u64 (W64 a0), .int .u64 (W64 a1), .int .u64 (W64 a2), .int .u64 (W64 a3)] 45) (.cells #[.int .u64 0, .int .u64 0, .int .u64 0, .int .u64 0] 45) (.cells #[.int .u64 0, .int .u64 0, .int .u64 0, .int .u64 0] 45)
  generalize ((w.alloc (.cells #[.int .u64 (W64 a0), .int .u64 (W64 a1), .int .u64 (W64 a2), .int .u64 (W64 a3)] 45)).alloc (.cells #[.int .u64 0, .int .u64 0, .int .u64 0, .int .u64 0] 45)).alloc (.cells #[.int .u64 0, .int .u64 0, .int .u64 0, .int .u64 0] 45) = wz at *
  have HBX := Lib.hid hbx
  clear hbx
  refine (HC.out _).mono ?_
  rintro e w9 ⟨rfl, hw⟩
  replace hw := hw.symm
  subst hw
  go_wp2_with fail
  clear hd hr hge
  go_loopw [21] (fun iv wr => ((iv = .int .i64 0 ∧ wr.heap[w.heap.size + 2]? = some (.cells #[.int .u64 0, .int .u64 0, .int .u64 0, .int .u64 0] 45 (0, 0))) ∨ (iv = .int .i64 1 ∧ wr.heap[w.heap.size + 2]? = some (.cells #[.int .u64 (W64 e0), .int .u64 (W64 p0), .int .u64 0, .int .u64 0] 45 (0, 0))) ∨ (iv = .int .i64 2 ∧ wr.heap[w.heap.size + 2]? = some (.cells #[.int .u64 (W64 e0), .int .u64 (W64 e1), .int .u64 (W64 p1), .int .u64 0] 45 (0, 0))) ∨ (iv = .int .i64 3 ∧ wr.heap[w.heap.size + 2]? = some (.cells #[.int .u64 (W64 e0), .int .u64 (W64 e1), .int .u64 (W64 e2), .int .u64 (W64 p2)] 45 (0, 0))) ∨ (iv = .int .i64 4 ∧ wr.heap[w.heap.size + 2]? = some (.cells #[.int .u64 (W64 e0), .int .u64 (W64 e1), .int .u64 (W64 e2), .int .u64 (W64 e3)] 45 (0, 0)))) ∧ wr.heap[w.heap.size]? = some (.cells #[.int .u64 (W64 a0), .int .u64 (W64 a1), .int .u64 (W64 a2), .int .u64 (W64 a3)] 45 (0, 0)) ∧ wr.heap[w.heap.size + 1]? = some (.cells #[.int .u64 0, .int .u64 0, .int .u64 0, .int .u64 0] 45 (0, 0)) ∧ New w wr) (fun iv _ => 4 - (intOf iv).toNat)
  case atStart => exact ⟨Or.inl ⟨rfl, HBX.out.2.2.1⟩, HBX.out.1, HBX.out.2.1, HBX.out.2.2.2⟩
  case round =>
    clear HBX HC
    obtain ⟨hc, hba, hbr, hn⟩ := hrel
    have HA := Lib.hid hba
    have HR := Lib.hid hbr
    have HN := Lib.hid hn
    clear hba hbr hn
    rcases hc with ⟨rfl, hs2⟩ | ⟨rfl, hs2⟩ | ⟨rfl, hs2⟩ | ⟨rfl, hs2⟩ | ⟨rfl, hs2⟩
    · have HS := Lib.hid hs2
      have hA : wr.cell? ⟨w.heap.size, 0, none⟩ = some (.int .u64 (W64 a0)) := by rw [cell_of_row _ _ _ _ _ _ HA.out]; rfl
      have hC : wr.cell? ⟨w.heap.size + 2, 0, none⟩ = some (.int .u64 0) := by rw [cell_of_row _ _ _ _ _ _ HS.out]; rfl
      have hF := fun i => frozen_of_row _ _ i _ _ HS.out
      have HD := Lib.hid (show ((wr.setCell ⟨w.heap.size + 1 + 1, 0, none⟩ (.int .u64 (W64 e0))).drew).heap[w.heap.size + 2]? = _ from heap_setCell_same wr (w.heap.size + 2) 0 _ _ (.int .u64 (W64 e0)) HS.out)
      have HDA := Lib.hid (show ((wr.setCell ⟨w.heap.size + 1 + 1, 0, none⟩ (.int .u64 (W64 e0))).drew).heap[w.heap.size]? = _ from (heap_setCell_other wr ⟨w.heap.size + 2, 0, none⟩ w.heap.size (.int .u64 (W64 e0)) (by show w.heap.size ≠ w.heap.size + 2; omega)).trans HA.out)
      have HDR := Lib.hid (show ((wr.setCell ⟨w.heap.size + 1 + 1, 0, none⟩ (.int .u64 (W64 e0))).drew).heap[w.heap.size + 1]? = _ from (heap_setCell_other wr ⟨w.heap.size + 2, 0, none⟩ (w.heap.size + 1) (.int .u64 (W64 e0)) (by show w.heap.size + 1 ≠ w.heap.size + 2; omega)).trans HR.out)
      have HDN := Lib.hid (show New w ((wr.setCell ⟨w.heap.size + 1 + 1, 0, none⟩ (.int .u64 (W64 e0))).drew) from (HN.out.setCell (p := ⟨w.heap.size + 2, 0, none⟩) (by show w.heap.size ≤ w.heap.size + 2; omega) (.int .u64 (W64 e0))).drew)
      have hE := h0.out
      clear hs2 HA HR HN HS
      go_wp2_with fail
      go_region
      obtain ⟨wn, hwn⟩ : ∃ z, z = (wr.setCell ⟨w.heap.size + 1 + 1, 0, none⟩ (.int .u64 (W64 e0))).drew := ⟨_, rfl⟩
      rw [← hwn] at HD HDA HDR HDN ⊢
      clear hwn hA hC hF
      have hA : wn.cell? ⟨w.heap.size, 0, none⟩ = some (.int .u64 (W64 a0)) := by rw [cell_of_row _ _ _ _ _ _ HDA.out]; rfl
      have hC : wn.cell? ⟨w.heap.size + 2, 1, none⟩ = some (.int .u64 0) := by rw [cell_of_row _ _ _ _ _ _ HD.out]; rfl
      have hF := fun i => frozen_of_row _ _ i _ _ HD.out
      have HD2 := Lib.hid (heap_setCell_same wn (w.heap.size + 2) 1 _ _ (.int .u64 (W64 p0)) HD.out)
      have HDA2 := Lib.hid ((heap_setCell_other wn ⟨w.heap.size + 2, 1, none⟩ w.heap.size (.int .u64 (W64 p0)) (by show w.heap.size ≠ w.heap.size + 2; omega)).trans HDA.out)
      have HDR2 := Lib.hid ((heap_setCell_other wn ⟨w.heap.size + 2, 1, none⟩ (w.heap.size + 1) (.int .u64 (W64 p0)) (by show w.heap.size + 1 ≠ w.heap.size + 2; omega)).trans HDR.out)
      have HDN2 := Lib.hid (HDN.out.setCell (p := ⟨w.heap.size + 2, 1, none⟩) (by show w.heap.size ≤ w.heap.size + 2; omega) (.int .u64 (W64 p0)))
      have hG := g0.out
      clear HD HDA HDR HDN
      go_wp2
      exact ⟨⟨(Or.inr (Or.inl ⟨rfl, HD2.out⟩)), HDA2.out, HDR2.out, HDN2.out⟩, by simp [intOf]⟩
    · have HS := Lib.hid hs2
      have hA : wr.cell? ⟨w.heap.size, 1, none⟩ = some (.int .u64 (W64 a1)) := by rw [cell_of_row _ _ _ _ _ _ HA.out]; rfl
      have hC : wr.cell? ⟨w.heap.size + 2, 1, none⟩ = some (.int .u64 (W64 p0)) := by rw [cell_of_row _ _ _ _ _ _ HS.out]; rfl
      have hF := fun i => frozen_of_row _ _ i _ _ HS.out
      have HD := Lib.hid (show ((wr.setCell ⟨w.heap.size + 1 + 1, 1, none⟩ (.int .u64 (W64 e1))).drew).heap[w.heap.size + 2]? = _ from heap_setCell_same wr (w.heap.size + 2) 1 _ _ (.int .u64 (W64 e1)) HS.out)
      have HDA := Lib.hid (show ((wr.setCell ⟨w.heap.size + 1 + 1, 1, none⟩ (.int .u64 (W64 e1))).drew).heap[w.heap.size]? = _ from (heap_setCell_other wr ⟨w.heap.size + 2, 1, none⟩ w.heap.size (.int .u64 (W64 e1)) (by show w.heap.size ≠ w.heap.size + 2; omega)).trans HA.out)
      have HDR := Lib.hid (show ((wr.setCell ⟨w.heap.size + 1 + 1, 1, none⟩ (.int .u64 (W64 e1))).drew).heap[w.heap.size + 1]? = _ from (heap_setCell_other wr ⟨w.heap.size + 2, 1, none⟩ (w.heap.size + 1) (.int .u64 (W64 e1)) (by show w.heap.size + 1 ≠ w.heap.size + 2; omega)).trans HR.out)
      have HDN := Lib.hid (show New w ((wr.setCell ⟨w.heap.size + 1 + 1, 1, none⟩ (.int .u64 (W64 e1))).drew) from (HN.out.setCell (p := ⟨w.heap.size + 2, 1, none⟩) (by show w.heap.size ≤ w.heap.size + 2; omega) (.int .u64 (W64 e1))).drew)
      have hE := h1.out
      clear hs2 HA HR HN HS
      go_wp2_with fail
      go_region
      obtain ⟨wn, hwn⟩ : ∃ z, z = (wr.setCell ⟨w.heap.size + 1 + 1, 1, none⟩ (.int .u64 (W64 e1))).drew := ⟨_, rfl⟩
      rw [← hwn] at HD HDA HDR HDN ⊢
      clear hwn hA hC hF
      have hA : wn.cell? ⟨w.heap.size, 1, none⟩ = some (.int .u64 (W64 a1)) := by rw [cell_of_row _ _ _ _ _ _ HDA.out]; rfl
      have hC : wn.cell? ⟨w.heap.size + 2, 2, none⟩ = some (.int .u64 0) := by rw [cell_of_row _ _ _ _ _ _ HD.out]; rfl
      have hF := fun i => frozen_of_row _ _ i _ _ HD.out
      have HD2 := Lib.hid (heap_setCell_same wn (w.heap.size + 2) 2 _ _ (.int .u64 (W64 p1)) HD.out)
      have HDA2 := Lib.hid ((heap_setCell_other wn ⟨w.heap.size + 2, 2, none⟩ w.heap.size (.int .u64 (W64 p1)) (by show w.heap.size ≠ w.heap.size + 2; omega)).trans HDA.out)
      have HDR2 := Lib.hid ((heap_setCell_other wn ⟨w.heap.size + 2, 2, none⟩ (w.heap.size + 1) (.int .u64 (W64 p1)) (by show w.heap.size + 1 ≠ w.heap.size + 2; omega)).trans HDR.out)
      have HDN2 := Lib.hid (HDN.out.setCell (p := ⟨w.heap.size + 2, 2, none⟩) (by show w.heap.size ≤ w.heap.size + 2; omega) (.int .u64 (W64 p1)))
      have hG := g1.out
      clear HD HDA HDR HDN
      go_wp2
      exact ⟨⟨(Or.inr (Or.inr (Or.inl ⟨rfl, HD2.out⟩))), HDA2.out, HDR2.out, HDN2.out⟩, by simp [intOf]⟩
    · have HS := Lib.hid hs2
      have hA : wr.cell? ⟨w.heap.size, 2, none⟩ = some (.int .u64 (W64 a2)) := by rw [cell_of_row _ _ _ _ _ _ HA.out]; rfl
      have hC : wr.cell? ⟨w.heap.size + 2, 2, none⟩ = some (.int .u64 (W64 p1)) := by rw [cell_of_row _ _ _ _ _ _ HS.out]; rfl
      have hF := fun i => frozen_of_row _ _ i _ _ HS.out
      have HD := Lib.hid (show ((wr.setCell ⟨w.heap.size + 1 + 1, 2, none⟩ (.int .u64 (W64 e2))).drew).heap[w.heap.size + 2]? = _ from heap_setCell_same wr (w.heap.size + 2) 2 _ _ (.int .u64 (W64 e2)) HS.out)
      have HDA := Lib.hid (show ((wr.setCell ⟨w.heap.size + 1 + 1, 2, none⟩ (.int .u64 (W64 e2))).drew).heap[w.heap.size]? = _ from (heap_setCell_other wr ⟨w.heap.size + 2, 2, none⟩ w.heap.size (.int .u64 (W64 e2)) (by show w.heap.size ≠ w.heap.size + 2; omega)).trans HA.out)
      have HDR := Lib.hid (show ((wr.setCell ⟨w.heap.size + 1 + 1, 2, none⟩ (.int .u64 (W64 e2))).drew).heap[w.heap.size + 1]? = _ from (heap_setCell_other wr ⟨w.heap.size + 2, 2, none⟩ (w.heap.size + 1) (.int .u64 (W64 e2)) (by show w.heap.size + 1 ≠ w.heap.size + 2; omega)).trans HR.out)
      have HDN := Lib.hid (show New w ((wr.setCell ⟨w.heap.size + 1 + 1, 2, none⟩ (.int .u64 (W64 e2))).drew) from (HN.out.setCell (p := ⟨w.heap.size + 2, 2, none⟩) (by show w.heap.size ≤ w.heap.size + 2; omega) (.int .u64 (W64 e2))).drew)
      have hE := h2.out
      clear hs2 HA HR HN HS
      go_wp2_with fail
      go_region
      obtain ⟨wn, hwn⟩ : ∃ z, z = (wr.setCell ⟨w.heap.size + 1 + 1, 2, none⟩ (.int .u64 (W64 e2))).drew := ⟨_, rfl⟩
      rw [← hwn] at HD HDA HDR HDN ⊢
      clear hwn hA hC hF
      have hA : wn.cell? ⟨w.heap.size, 2, none⟩ = some (.int .u64 (W64 a2)) := by rw [cell_of_row _ _ _ _ _ _ HDA.out]; rfl
      have hC : wn.cell? ⟨w.heap.size + 2, 3, none⟩ = some (.int .u64 0) := by rw [cell_of_row _ _ _ _ _ _ HD.out]; rfl
      have hF := fun i => frozen_of_row _ _ i _ _ HD.out
      have HD2 := Lib.hid (heap_setCell_same wn (w.heap.size + 2) 3 _ _ (.int .u64 (W64 p2)) HD.out)
      have HDA2 := Lib.hid ((heap_setCell_other wn ⟨w.heap.size + 2, 3, none⟩ w.heap.size (.int .u64 (W64 p2)) (by show w.heap.size ≠ w.heap.size + 2; omega)).trans HDA.out)
      have HDR2 := Lib.hid ((heap_setCell_other wn ⟨w.heap.size + 2, 3, none⟩ (w.heap.size + 1) (.int .u64 (W64 p2)) (by show w.heap.size + 1 ≠ w.heap.size + 2; omega)).trans HDR.out)
      have HDN2 := Lib.hid (HDN.out.setCell (p := ⟨w.heap.size + 2, 3, none⟩) (by show w.heap.size ≤ w.heap.size + 2; omega) (.int .u64 (W64 p2)))
      have hG := g2.out
      clear HD HDA HDR HDN
      go_wp2
      exact ⟨⟨(Or.inr (Or.inr (Or.inr (Or.inl ⟨rfl, HD2.out⟩)))), HDA2.out, HDR2.out, HDN2.out⟩, by simp [intOf]⟩
    · have HS := Lib.hid hs2
      have hA : wr.cell? ⟨w.heap.size, 3, none⟩ = some (.int .u64 (W64 a3)) := by rw [cell_of_row _ _ _ _ _ _ HA.out]; rfl
      have hC : wr.cell? ⟨w.heap.size + 2, 3, none⟩ = some (.int .u64 (W64 p2)) := by rw [cell_of_row _ _ _ _ _ _ HS.out]; rfl
      have hF := fun i => frozen_of_row _ _ i _ _ HS.out
      have HD := Lib.hid (show ((wr.setCell ⟨w.heap.size + 1 + 1, 3, none⟩ (.int .u64 (W64 e3))).drew).heap[w.heap.size + 2]? = _ from heap_setCell_same wr (w.heap.size + 2) 3 _ _ (.int .u64 (W64 e3)) HS.out)
      have HDA := Lib.hid (show ((wr.setCell ⟨w.heap.size + 1 + 1, 3, none⟩ (.int .u64 (W64 e3))).drew).heap[w.heap.size]? = _ from (heap_setCell_other wr ⟨w.heap.size + 2, 3, none⟩ w.heap.size (.int .u64 (W64 e3)) (by show w.heap.size ≠ w.heap.size + 2; omega)).trans HA.out)
      have HDR := Lib.hid (show ((wr.setCell ⟨w.heap.size + 1 + 1, 3, none⟩ (.int .u64 (W64 e3))).drew).heap[w.heap.size + 1]? = _ from (heap_setCell_other wr ⟨w.heap.size + 2, 3, none⟩ (w.heap.size + 1) (.int .u64 (W64 e3)) (by show w.heap.size + 1 ≠ w.heap.size + 2; omega)).trans HR.out)
      have HDN := Lib.hid (show New w ((wr.setCell ⟨w.heap.size + 1 + 1, 3, none⟩ (.int .u64 (W64 e3))).drew) from (HN.out.setCell (p := ⟨w.heap.size + 2, 3, none⟩) (by show w.heap.size ≤ w.heap.size + 2; omega) (.int .u64 (W64 e3))).drew)
      have hE := h3.out
      clear hs2 HA HR HN HS
      go_wp2_with fail
      go_region
      obtain ⟨wn, hwn⟩ : ∃ z, z = (wr.setCell ⟨w.heap.size + 1 + 1, 3, none⟩ (.int .u64 (W64 e3))).drew := ⟨_, rfl⟩
      rw [← hwn] at HD HDA HDR HDN ⊢
      clear hwn hA hC hF
      go_wp2
      exact ⟨⟨(Or.inr (Or.inr (Or.inr (Or.inr ⟨rfl, HD.out⟩)))), HDA.out, HDR.out, HDN.out⟩, by simp [intOf]⟩
    · have r0 : wr.cell? ⟨w.heap.size + 2, 0, none⟩ = some (.int .u64 (W64 e0)) := by rw [cell_of_row _ _ _ _ _ _ hs2]; rfl
      have r1 : wr.cell? ⟨w.heap.size + 2, 1, none⟩ = some (.int .u64 (W64 e1)) := by rw [cell_of_row _ _ _ _ _ _ hs2]; rfl
      have r2 : wr.cell? ⟨w.heap.size + 2, 2, none⟩ = some (.int .u64 (W64 e2)) := by rw [cell_of_row _ _ _ _ _ _ hs2]; rfl
      have r3 : wr.cell? ⟨w.heap.size + 2, 3, none⟩ = some (.int .u64 (W64 e3)) := by rw [cell_of_row _ _ _ _ _ _ hs2]; rfl
      have q0 : wr.cell? ⟨w.heap.size + 1, 0, none⟩ = some (.int .u64 0) := by rw [cell_of_row _ _ _ _ _ _ HR.out]; rfl
      have q1 : wr.cell? ⟨w.heap.size + 1, 1, none⟩ = some (.int .u64 0) := by rw [cell_of_row _ _ _ _ _ _ HR.out]; rfl
      have q2 : wr.cell? ⟨w.heap.size + 1, 2, none⟩ = some (.int .u64 0) := by rw [cell_of_row _ _ _ _ _ _ HR.out]; rfl
      have q3 : wr.cell? ⟨w.heap.size + 1, 3, none⟩ = some (.int .u64 0) := by rw [cell_of_row _ _ _ _ _ _ HR.out]; rfl
      have hF := fun i => frozen_of_row _ _ i _ _ HR.out
      clear hs2 HA HR
      go_wp2
      refine bodyPost_ret (by simp [results, Try.results54, go_sem, q0, q1, q2, q3]; try rfl) rfl ?_
      exact ⟨rfl, (((HN.out.setCell (by simp; try omega) _).setCell (by simp; try omega) _).setCell (by simp; try omega) _).setCell (by simp; try omega) _⟩
set_option maxRecDepth 100000 in
set_option maxHeartbeats 8000000 in
theorem shl4_1 (a0 a1 a2 a3 kb kr : BitVec 64) (k : Nat) (e0 e1 e2 p0 p1 : BitVec 64) (h0 : Hid (a0 <<< k = e0)) (h1 : Hid (p0 ||| a1 <<< k = e1)) (h2 : Hid (p1 ||| a2 <<< k = e2)) (g0 : Hid (a0 >>> (64 - k) = p0)) (g1 : Hid (a1 >>> (64 - k) = p1)) (n : Int) (HC : Hid (∀ w, Calls Try.prog 78 #[.int .i64 n] w fun e w' => e = .returned (.int .u64 (W64 kb)) ∧ w' = w))
    (hd : kb / 64#64 = 1#64) (hr : kb % 64#64 = kr) (hk : N64 kr = k) (hs : N64 (64#64 - kr) = 64 - k) (hge : decide (256 ≤ W64 kb) = false) (hkl : k < 64) (w : World) :
    Calls Try.prog 54 #[.agg #[.int .u64 (W64 a0), .int .u64 (W64 a1), .int .u64 (W64 a2), .int .u64 (W64 a3)], .int .i64 n] w fun e w' => e = .returned (.agg #[.int .u64 0, .int .u64 (W64 e0), .int .u64 (W64 e1), .int .u64 (W64 e2)]) ∧ New w w' := by
  have hwW : W64 1#64 = 1 := by decide
  have hwV : wrap64 (W64 1#64) = 1 := by rw [hwW]; unfold wrap64; omega
  go_enter Try.func54, Try.ntmps54
  go_wp2_with fail
  have hbx := three_b4 w (.cells #[.int .u64 (W64 a0), .int .u64 (W64 a1), .int .u64 (W64 a2), .int .u64 (W64 a3)] 45) (.cells #[.int .u64 0, .int .u64 0, .int .u64 0, .int .u64 0] 45) (.cells #[.int .u64 0, .int .u64 0, .int .u64 0, .int .u64 0] 45)
  generalize ((w.alloc (.cells #[.int .u64 (W64 a0), .int .u64 (W64 a1), .int .u64 (W64 a2), .int .u64 (W64 a3)] 45)).alloc (.cells #[.int .u64 0, .int .u64 0, .int .u64 0, .int .u64 0] 45)).alloc (.cells #[.int .u64 0, .int .u64 0, .int .u64 0, .int .u64 0] 45) = wz at *
  have HBX := Lib.hid hbx
  clear hbx
  refine (HC.out _).mono ?_
  rintro e w9 ⟨rfl, hw⟩
  replace hw := hw.symm
  subst hw
  go_wp2_with fail
  clear hd hr hge
  go_loopw [21] (fun iv wr => ((iv = .int .i64 0 ∧ wr.heap[w.heap.size + 2]? = some (.cells #[.int .u64 0, .int .u64 0, .int .u64 0, .int .u64 0] 45 (0, 0))) ∨ (iv = .int .i64 1 ∧ wr.heap[w.heap.size + 2]? = some (.cells #[.int .u64 0, .int .u64 (W64 e0), .int .u64 (W64 p0), .int .u64 0] 45 (0, 0))) ∨ (iv = .int .i64 2 ∧ wr.heap[w.heap.size + 2]? = some (.cells #[.int .u64 0, .int .u64 (W64 e0), .int .u64 (W64 e1), .int .u64 (W64 p1)] 45 (0, 0))) ∨ (iv = .int .i64 3 ∧ wr.heap[w.heap.size + 2]? = some (.cells #[.int .u64 0, .int .u64 (W64 e0), .int .u64 (W64 e1), .int .u64 (W64 e2)] 45 (0, 0)))) ∧ wr.heap[w.heap.size]? = some (.cells #[.int .u64 (W64 a0), .int .u64 (W64 a1), .int .u64 (W64 a2), .int .u64 (W64 a3)] 45 (0, 0)) ∧ wr.heap[w.heap.size + 1]? = some (.cells #[.int .u64 0, .int .u64 0, .int .u64 0, .int .u64 0] 45 (0, 0)) ∧ New w wr) (fun iv _ => 3 - (intOf iv).toNat)
  case atStart => exact ⟨Or.inl ⟨rfl, HBX.out.2.2.1⟩, HBX.out.1, HBX.out.2.1, HBX.out.2.2.2⟩
  case round =>
    clear HBX HC
    obtain ⟨hc, hba, hbr, hn⟩ := hrel
    have HA := Lib.hid hba
    have HR := Lib.hid hbr
    have HN := Lib.hid hn
    clear hba hbr hn
    rcases hc with ⟨rfl, hs2⟩ | ⟨rfl, hs2⟩ | ⟨rfl, hs2⟩ | ⟨rfl, hs2⟩
    · have HS := Lib.hid hs2
      have hA : wr.cell? ⟨w.heap.size, 0, none⟩ = some (.int .u64 (W64 a0)) := by rw [cell_of_row _ _ _ _ _ _ HA.out]; rfl
      have hC : wr.cell? ⟨w.heap.size + 2, 1, none⟩ = some (.int .u64 0) := by rw [cell_of_row _ _ _ _ _ _ HS.out]; rfl
      have hF := fun i => frozen_of_row _ _ i _ _ HS.out
      have HD := Lib.hid (show ((wr.setCell ⟨w.heap.size + 1 + 1, 1, none⟩ (.int .u64 (W64 e0))).drew).heap[w.heap.size + 2]? = _ from heap_setCell_same wr (w.heap.size + 2) 1 _ _ (.int .u64 (W64 e0)) HS.out)
      have HDA := Lib.hid (show ((wr.setCell ⟨w.heap.size + 1 + 1, 1, none⟩ (.int .u64 (W64 e0))).drew).heap[w.heap.size]? = _ from (heap_setCell_other wr ⟨w.heap.size + 2, 1, none⟩ w.heap.size (.int .u64 (W64 e0)) (by show w.heap.size ≠ w.heap.size + 2; omega)).trans HA.out)
      have HDR := Lib.hid (show ((wr.setCell ⟨w.heap.size + 1 + 1, 1, none⟩ (.int .u64 (W64 e0))).drew).heap[w.heap.size + 1]? = _ from (heap_setCell_other wr ⟨w.heap.size + 2, 1, none⟩ (w.heap.size + 1) (.int .u64 (W64 e0)) (by show w.heap.size + 1 ≠ w.heap.size + 2; omega)).trans HR.out)
      have HDN := Lib.hid (show New w ((wr.setCell ⟨w.heap.size + 1 + 1, 1, none⟩ (.int .u64 (W64 e0))).drew) from (HN.out.setCell (p := ⟨w.heap.size + 2, 1, none⟩) (by show w.heap.size ≤ w.heap.size + 2; omega) (.int .u64 (W64 e0))).drew)
      have hE := h0.out
      clear hs2 HA HR HN HS
      go_wp2_with fail
      go_region
      obtain ⟨wn, hwn⟩ : ∃ z, z = (wr.setCell ⟨w.heap.size + 1 + 1, 1, none⟩ (.int .u64 (W64 e0))).drew := ⟨_, rfl⟩
      rw [← hwn] at HD HDA HDR HDN ⊢
      clear hwn hA hC hF
      have hA : wn.cell? ⟨w.heap.size, 0, none⟩ = some (.int .u64 (W64 a0)) := by rw [cell_of_row _ _ _ _ _ _ HDA.out]; rfl
      have hC : wn.cell? ⟨w.heap.size + 2, 2, none⟩ = some (.int .u64 0) := by rw [cell_of_row _ _ _ _ _ _ HD.out]; rfl
      have hF := fun i => frozen_of_row _ _ i _ _ HD.out
      have HD2 := Lib.hid (heap_setCell_same wn (w.heap.size + 2) 2 _ _ (.int .u64 (W64 p0)) HD.out)
      have HDA2 := Lib.hid ((heap_setCell_other wn ⟨w.heap.size + 2, 2, none⟩ w.heap.size (.int .u64 (W64 p0)) (by show w.heap.size ≠ w.heap.size + 2; omega)).trans HDA.out)
      have HDR2 := Lib.hid ((heap_setCell_other wn ⟨w.heap.size + 2, 2, none⟩ (w.heap.size + 1) (.int .u64 (W64 p0)) (by show w.heap.size + 1 ≠ w.heap.size + 2; omega)).trans HDR.out)
      have HDN2 := Lib.hid (HDN.out.setCell (p := ⟨w.heap.size + 2, 2, none⟩) (by show w.heap.size ≤ w.heap.size + 2; omega) (.int .u64 (W64 p0)))
      have hG := g0.out
      clear HD HDA HDR HDN
      go_wp2
      exact ⟨⟨(Or.inr (Or.inl ⟨rfl, HD2.out⟩)), HDA2.out, HDR2.out, HDN2.out⟩, by simp [intOf]⟩
    · have HS := Lib.hid hs2
      have hA : wr.cell? ⟨w.heap.size, 1, none⟩ = some (.int .u64 (W64 a1)) := by rw [cell_of_row _ _ _ _ _ _ HA.out]; rfl
      have hC : wr.cell? ⟨w.heap.size + 2, 2, none⟩ = some (.int .u64 (W64 p0)) := by rw [cell_of_row _ _ _ _ _ _ HS.out]; rfl
      have hF := fun i => frozen_of_row _ _ i _ _ HS.out
      have HD := Lib.hid (show ((wr.setCell ⟨w.heap.size + 1 + 1, 2, none⟩ (.int .u64 (W64 e1))).drew).heap[w.heap.size + 2]? = _ from heap_setCell_same wr (w.heap.size + 2) 2 _ _ (.int .u64 (W64 e1)) HS.out)
      have HDA := Lib.hid (show ((wr.setCell ⟨w.heap.size + 1 + 1, 2, none⟩ (.int .u64 (W64 e1))).drew).heap[w.heap.size]? = _ from (heap_setCell_other wr ⟨w.heap.size + 2, 2, none⟩ w.heap.size (.int .u64 (W64 e1)) (by show w.heap.size ≠ w.heap.size + 2; omega)).trans HA.out)
      have HDR := Lib.hid (show ((wr.setCell ⟨w.heap.size + 1 + 1, 2, none⟩ (.int .u64 (W64 e1))).drew).heap[w.heap.size + 1]? = _ from (heap_setCell_other wr ⟨w.heap.size + 2, 2, none⟩ (w.heap.size + 1) (.int .u64 (W64 e1)) (by show w.heap.size + 1 ≠ w.heap.size + 2; omega)).trans HR.out)
      have HDN := Lib.hid (show New w ((wr.setCell ⟨w.heap.size + 1 + 1, 2, none⟩ (.int .u64 (W64 e1))).drew) from (HN.out.setCell (p := ⟨w.heap.size + 2, 2, none⟩) (by show w.heap.size ≤ w.heap.size + 2; omega) (.int .u64 (W64 e1))).drew)
      have hE := h1.out
      clear hs2 HA HR HN HS
      go_wp2_with fail
      go_region
      obtain ⟨wn, hwn⟩ : ∃ z, z = (wr.setCell ⟨w.heap.size + 1 + 1, 2, none⟩ (.int .u64 (W64 e1))).drew := ⟨_, rfl⟩
      rw [← hwn] at HD HDA HDR HDN ⊢
      clear hwn hA hC hF
      have hA : wn.cell? ⟨w.heap.size, 1, none⟩ = some (.int .u64 (W64 a1)) := by rw [cell_of_row _ _ _ _ _ _ HDA.out]; rfl
      have hC : wn.cell? ⟨w.heap.size + 2, 3, none⟩ = some (.int .u64 0) := by rw [cell_of_row _ _ _ _ _ _ HD.out]; rfl
      have hF := fun i => frozen_of_row _ _ i _ _ HD.out
      have HD2 := Lib.hid (heap_setCell_same wn (w.heap.size + 2) 3 _ _ (.int .u64 (W64 p1)) HD.out)
      have HDA2 := Lib.hid ((heap_setCell_other wn ⟨w.heap.size + 2, 3, none⟩ w.heap.size (.int .u64 (W64 p1)) (by show w.heap.size ≠ w.heap.size + 2; omega)).trans HDA.out)
      have HDR2 := Lib.hid ((heap_setCell_other wn ⟨w.heap.size + 2, 3, none⟩ (w.heap.size + 1) (.int .u64 (W64 p1)) (by show w.heap.size + 1 ≠ w.heap.size + 2; omega)).trans HDR.out)
      have HDN2 := Lib.hid (HDN.out.setCell (p := ⟨w.heap.size + 2, 3, none⟩) (by show w.heap.size ≤ w.heap.size + 2; omega) (.int .u64 (W64 p1)))
      have hG := g1.out
      clear HD HDA HDR HDN
      go_wp2
      exact ⟨⟨(Or.inr (Or.inr (Or.inl ⟨rfl, HD2.out⟩))), HDA2.out, HDR2.out, HDN2.out⟩, by simp [intOf]⟩
    · have HS := Lib.hid hs2
      have hA : wr.cell? ⟨w.heap.size, 2, none⟩ = some (.int .u64 (W64 a2)) := by rw [cell_of_row _ _ _ _ _ _ HA.out]; rfl
      have hC : wr.cell? ⟨w.heap.size + 2, 3, none⟩ = some (.int .u64 (W64 p1)) := by rw [cell_of_row _ _ _ _ _ _ HS.out]; rfl
      have hF := fun i => frozen_of_row _ _ i _ _ HS.out
      have HD := Lib.hid (show ((wr.setCell ⟨w.heap.size + 1 + 1, 3, none⟩ (.int .u64 (W64 e2))).drew).heap[w.heap.size + 2]? = _ from heap_setCell_same wr (w.heap.size + 2) 3 _ _ (.int .u64 (W64 e2)) HS.out)
      have HDA := Lib.hid (show ((wr.setCell ⟨w.heap.size + 1 + 1, 3, none⟩ (.int .u64 (W64 e2))).drew).heap[w.heap.size]? = _ from (heap_setCell_other wr ⟨w.heap.size + 2, 3, none⟩ w.heap.size (.int .u64 (W64 e2)) (by show w.heap.size ≠ w.heap.size + 2; omega)).trans HA.out)
      have HDR := Lib.hid (show ((wr.setCell ⟨w.heap.size + 1 + 1, 3, none⟩ (.int .u64 (W64 e2))).drew).heap[w.heap.size + 1]? = _ from (heap_setCell_other wr ⟨w.heap.size + 2, 3, none⟩ (w.heap.size + 1) (.int .u64 (W64 e2)) (by show w.heap.size + 1 ≠ w.heap.size + 2; omega)).trans HR.out)
      have HDN := Lib.hid (show New w ((wr.setCell ⟨w.heap.size + 1 + 1, 3, none⟩ (.int .u64 (W64 e2))).drew) from (HN.out.setCell (p := ⟨w.heap.size + 2, 3, none⟩) (by show w.heap.size ≤ w.heap.size + 2; omega) (.int .u64 (W64 e2))).drew)
      have hE := h2.out
      clear hs2 HA HR HN HS
      go_wp2_with fail
      go_region
      obtain ⟨wn, hwn⟩ : ∃ z, z = (wr.setCell ⟨w.heap.size + 1 + 1, 3, none⟩ (.int .u64 (W64 e2))).drew := ⟨_, rfl⟩
      rw [← hwn] at HD HDA HDR HDN ⊢
      clear hwn hA hC hF
      go_wp2
      exact ⟨⟨(Or.inr (Or.inr (Or.inr ⟨rfl, HD.out⟩))), HDA.out, HDR.out, HDN.out⟩, by simp [intOf]⟩
    · have r0 : wr.cell? ⟨w.heap.size + 2, 0, none⟩ = some (.int .u64 0) := by rw [cell_of_row _ _ _ _ _ _ hs2]; rfl
      have r1 : wr.cell? ⟨w.heap.size + 2, 1, none⟩ = some (.int .u64 (W64 e0)) := by rw [cell_of_row _ _ _ _ _ _ hs2]; rfl
      have r2 : wr.cell? ⟨w.heap.size + 2, 2, none⟩ = some (.int .u64 (W64 e1)) := by rw [cell_of_row _ _ _ _ _ _ hs2]; rfl
      have r3 : wr.cell? ⟨w.heap.size + 2, 3, none⟩ = some (.int .u64 (W64 e2)) := by rw [cell_of_row _ _ _ _ _ _ hs2]; rfl
      have q0 : wr.cell? ⟨w.heap.size + 1, 0, none⟩ = some (.int .u64 0) := by rw [cell_of_row _ _ _ _ _ _ HR.out]; rfl
      have q1 : wr.cell? ⟨w.heap.size + 1, 1, none⟩ = some (.int .u64 0) := by rw [cell_of_row _ _ _ _ _ _ HR.out]; rfl
      have q2 : wr.cell? ⟨w.heap.size + 1, 2, none⟩ = some (.int .u64 0) := by rw [cell_of_row _ _ _ _ _ _ HR.out]; rfl
      have q3 : wr.cell? ⟨w.heap.size + 1, 3, none⟩ = some (.int .u64 0) := by rw [cell_of_row _ _ _ _ _ _ HR.out]; rfl
      have hF := fun i => frozen_of_row _ _ i _ _ HR.out
      clear hs2 HA HR
      go_wp2
      refine bodyPost_ret (by simp [results, Try.results54, go_sem, q0, q1, q2, q3]; try rfl) rfl ?_
      exact ⟨rfl, (((HN.out.setCell (by simp; try omega) _).setCell (by simp; try omega) _).setCell (by simp; try omega) _).setCell (by simp; try omega) _⟩
set_option maxRecDepth 100000 in
set_option maxHeartbeats 8000000 in
theorem shl4_2 (a0 a1 a2 a3 kb kr : BitVec 64) (k : Nat) (e0 e1 p0 : BitVec 64) (h0 : Hid (a0 <<< k = e0)) (h1 : Hid (p0 ||| a1 <<< k = e1)) (g0 : Hid (a0 >>> (64 - k) = p0)) (n : Int) (HC : Hid (∀ w, Calls Try.prog 78 #[.int .i64 n] w fun e w' => e = .returned (.int .u64 (W64 kb)) ∧ w' = w))
    (hd : kb / 64#64 = 2#64) (hr : kb % 64#64 = kr) (hk : N64 kr = k) (hs : N64 (64#64 - kr) = 64 - k) (hge : decide (256 ≤ W64 kb) = false) (hkl : k < 64) (w : World) :
    Calls Try.prog 54 #[.agg #[.int .u64 (W64 a0), .int .u64 (W64 a1), .int .u64 (W64 a2), .int .u64 (W64 a3)], .int .i64 n] w fun e w' => e = .returned (.agg #[.int .u64 0, .int .u64 0, .int .u64 (W64 e0), .int .u64 (W64 e1)]) ∧ New w w' := by
  have hwW : W64 2#64 = 2 := by decide
  have hwV : wrap64 (W64 2#64) = 2 := by rw [hwW]; unfold wrap64; omega
  go_enter Try.func54, Try.ntmps54
  go_wp2_with fail
  have hbx := three_b4 w (.cells #[.int .u64 (W64 a0), .int .u64 (W64 a1), .int .u64 (W64 a2), .int .u64 (W64 a3)] 45) (.cells #[.int .u64 0, .int .u64 0, .int .u64 0, .int .u64 0] 45) (.cells #[.int .u64 0, .int .u64 0, .int .u64 0, .int .u64 0] 45)
  generalize ((w.alloc (.cells #[.int .u64 (W64 a0), .int .u64 (W64 a1), .int .u64 (W64 a2), .int .u64 (W64 a3)] 45)).alloc (.cells #[.int .u64 0, .int .u64 0, .int .u64 0, .int .u64 0] 45)).alloc (.cells #[.int .u64 0, .int .u64 0, .int .u64 0, .int .u64 0] 45) = wz at *
  have HBX := Lib.hid hbx
  clear hbx
  refine (HC.out _).mono ?_
  rintro e w9 ⟨rfl, hw⟩
  replace hw := hw.symm
  subst hw
  go_wp2_with fail
  clear hd hr hge
  go_loopw [21] (fun iv wr => ((iv = .int .i64 0 ∧ wr.heap[w.heap.size + 2]? = some (.cells #[.int .u64 0, .int .u64 0, .int .u64 0, .int .u64 0] 45 (0, 0))) ∨ (iv = .int .i64 1 ∧ wr.heap[w.heap.size + 2]? = some (.cells #[.int .u64 0, .int .u64 0, .int .u64 (W64 e0), .int .u64 (W64 p0)] 45 (0, 0))) ∨ (iv = .int .i64 2 ∧ wr.heap[w.heap.size + 2]? = some (.cells #[.int .u64 0, .int .u64 0, .int .u64 (W64 e0), .int .u64 (W64 e1)] 45 (0, 0)))) ∧ wr.heap[w.heap.size]? = some (.cells #[.int .u64 (W64 a0), .int .u64 (W64 a1), .int .u64 (W64 a2), .int .u64 (W64 a3)] 45 (0, 0)) ∧ wr.heap[w.heap.size + 1]? = some (.cells #[.int .u64 0, .int .u64 0, .int .u64 0, .int .u64 0] 45 (0, 0)) ∧ New w wr) (fun iv _ => 2 - (intOf iv).toNat)
  case atStart => exact ⟨Or.inl ⟨rfl, HBX.out.2.2.1⟩, HBX.out.1, HBX.out.2.1, HBX.out.2.2.2⟩
  case round =>
    clear HBX HC
    obtain ⟨hc, hba, hbr, hn⟩ := hrel
    have HA := Lib.hid hba
    have HR := Lib.hid hbr
    have HN := Lib.hid hn
    clear hba hbr hn
    rcases hc with ⟨rfl, hs2⟩ | ⟨rfl, hs2⟩ | ⟨rfl, hs2⟩
    · have HS := Lib.hid hs2
      have hA : wr.cell? ⟨w.heap.size, 0, none⟩ = some (.int .u64 (W64 a0)) := by rw [cell_of_row _ _ _ _ _ _ HA.out]; rfl
      have hC : wr.cell? ⟨w.heap.size + 2, 2, none⟩ = some (.int .u64 0) := by rw [cell_of_row _ _ _ _ _ _ HS.out]; rfl
      have hF := fun i => frozen_of_row _ _ i _ _ HS.out
      have HD := Lib.hid (show ((wr.setCell ⟨w.heap.size + 1 + 1, 2, none⟩ (.int .u64 (W64 e0))).drew).heap[w.heap.size + 2]? = _ from heap_setCell_same wr (w.heap.size + 2) 2 _ _ (.int .u64 (W64 e0)) HS.out)
      have HDA := Lib.hid (show ((wr.setCell ⟨w.heap.size + 1 + 1, 2, none⟩ (.int .u64 (W64 e0))).drew).heap[w.heap.size]? = _ from (heap_setCell_other wr ⟨w.heap.size + 2, 2, none⟩ w.heap.size (.int .u64 (W64 e0)) (by show w.heap.size ≠ w.heap.size + 2; omega)).trans HA.out)
      have HDR := Lib.hid (show ((wr.setCell ⟨w.heap.size + 1 + 1, 2, none⟩ (.int .u64 (W64 e0))).drew).heap[w.heap.size + 1]? = _ from (heap_setCell_other wr ⟨w.heap.size + 2, 2, none⟩ (w.heap.size + 1) (.int .u64 (W64 e0)) (by show w.heap.size + 1 ≠ w.heap.size + 2; omega)).trans HR.out)
      have HDN := Lib.hid (show New w ((wr.setCell ⟨w.heap.size + 1 + 1, 2, none⟩ (.int .u64 (W64 e0))).drew) from (HN.out.setCell (p := ⟨w.heap.size + 2, 2, none⟩) (by show w.heap.size ≤ w.heap.size + 2; omega) (.int .u64 (W64 e0))).drew)
      have hE := h0.out
      clear hs2 HA HR HN HS
      go_wp2_with fail
      go_region
      obtain ⟨wn, hwn⟩ : ∃ z, z = (wr.setCell ⟨w.heap.size + 1 + 1, 2, none⟩ (.int .u64 (W64 e0))).drew := ⟨_, rfl⟩
      rw [← hwn] at HD HDA HDR HDN ⊢
      clear hwn hA hC hF
      have hA : wn.cell? ⟨w.heap.size, 0, none⟩ = some (.int .u64 (W64 a0)) := by rw [cell_of_row _ _ _ _ _ _ HDA.out]; rfl
      have hC : wn.cell? ⟨w.heap.size + 2, 3, none⟩ = some (.int .u64 0) := by rw [cell_of_row _ _ _ _ _ _ HD.out]; rfl
      have hF := fun i => frozen_of_row _ _ i _ _ HD.out
      have HD2 := Lib.hid (heap_setCell_same wn (w.heap.size + 2) 3 _ _ (.int .u64 (W64 p0)) HD.out)
      have HDA2 := Lib.hid ((heap_setCell_other wn ⟨w.heap.size + 2, 3, none⟩ w.heap.size (.int .u64 (W64 p0)) (by show w.heap.size ≠ w.heap.size + 2; omega)).trans HDA.out)
      have HDR2 := Lib.hid ((heap_setCell_other wn ⟨w.heap.size + 2, 3, none⟩ (w.heap.size + 1) (.int .u64 (W64 p0)) (by show w.heap.size + 1 ≠ w.heap.size + 2; omega)).trans HDR.out)
      have HDN2 := Lib.hid (HDN.out.setCell (p := ⟨w.heap.size + 2, 3, none⟩) (by show w.heap.size ≤ w.heap.size + 2; omega) (.int .u64 (W64 p0)))
      have hG := g0.out
      clear HD HDA HDR HDN
      go_wp2
      exact ⟨⟨(Or.inr (Or.inl ⟨rfl, HD2.out⟩)), HDA2.out, HDR2.out, HDN2.out⟩, by simp [intOf]⟩
    · have HS := Lib.hid hs2
      have hA : wr.cell? ⟨w.heap.size, 1, none⟩ = some (.int .u64 (W64 a1)) := by rw [cell_of_row _ _ _ _ _ _ HA.out]; rfl
      have hC : wr.cell? ⟨w.heap.size + 2, 3, none⟩ = some (.int .u64 (W64 p0)) := by rw [cell_of_row _ _ _ _ _ _ HS.out]; rfl
      have hF := fun i => frozen_of_row _ _ i _ _ HS.out
      have HD := Lib.hid (show ((wr.setCell ⟨w.heap.size + 1 + 1, 3, none⟩ (.int .u64 (W64 e1))).drew).heap[w.heap.size + 2]? = _ from heap_setCell_same wr (w.heap.size + 2) 3 _ _ (.int .u64 (W64 e1)) HS.out)
      have HDA := Lib.hid (show ((wr.setCell ⟨w.heap.size + 1 + 1, 3, none⟩ (.int .u64 (W64 e1))).drew).heap[w.heap.size]? = _ from (heap_setCell_other wr ⟨w.heap.size + 2, 3, none⟩ w.heap.size (.int .u64 (W64 e1)) (by show w.heap.size ≠ w.heap.size + 2; omega)).trans HA.out)
      have HDR := Lib.hid (show ((wr.setCell ⟨w.heap.size + 1 + 1, 3, none⟩ (.int .u64 (W64 e1))).drew).heap[w.heap.size + 1]? = _ from (heap_setCell_other wr ⟨w.heap.size + 2, 3, none⟩ (w.heap.size + 1) (.int .u64 (W64 e1)) (by show w.heap.size + 1 ≠ w.heap.size + 2; omega)).trans HR.out)
      have HDN := Lib.hid (show New w ((wr.setCell ⟨w.heap.size + 1 + 1, 3, none⟩ (.int .u64 (W64 e1))).drew) from (HN.out.setCell (p := ⟨w.heap.size + 2, 3, none⟩) (by show w.heap.size ≤ w.heap.size + 2; omega) (.int .u64 (W64 e1))).drew)
      have hE := h1.out
      clear hs2 HA HR HN HS
      go_wp2_with fail
      go_region
      obtain ⟨wn, hwn⟩ : ∃ z, z = (wr.setCell ⟨w.heap.size + 1 + 1, 3, none⟩ (.int .u64 (W64 e1))).drew := ⟨_, rfl⟩
      rw [← hwn] at HD HDA HDR HDN ⊢
      clear hwn hA hC hF
      go_wp2
      exact ⟨⟨(Or.inr (Or.inr ⟨rfl, HD.out⟩)), HDA.out, HDR.out, HDN.out⟩, by simp [intOf]⟩
    · have r0 : wr.cell? ⟨w.heap.size + 2, 0, none⟩ = some (.int .u64 0) := by rw [cell_of_row _ _ _ _ _ _ hs2]; rfl
      have r1 : wr.cell? ⟨w.heap.size + 2, 1, none⟩ = some (.int .u64 0) := by rw [cell_of_row _ _ _ _ _ _ hs2]; rfl
      have r2 : wr.cell? ⟨w.heap.size + 2, 2, none⟩ = some (.int .u64 (W64 e0)) := by rw [cell_of_row _ _ _ _ _ _ hs2]; rfl
      have r3 : wr.cell? ⟨w.heap.size + 2, 3, none⟩ = some (.int .u64 (W64 e1)) := by rw [cell_of_row _ _ _ _ _ _ hs2]; rfl
      have q0 : wr.cell? ⟨w.heap.size + 1, 0, none⟩ = some (.int .u64 0) := by rw [cell_of_row _ _ _ _ _ _ HR.out]; rfl
      have q1 : wr.cell? ⟨w.heap.size + 1, 1, none⟩ = some (.int .u64 0) := by rw [cell_of_row _ _ _ _ _ _ HR.out]; rfl
      have q2 : wr.cell? ⟨w.heap.size + 1, 2, none⟩ = some (.int .u64 0) := by rw [cell_of_row _ _ _ _ _ _ HR.out]; rfl
      have q3 : wr.cell? ⟨w.heap.size + 1, 3, none⟩ = some (.int .u64 0) := by rw [cell_of_row _ _ _ _ _ _ HR.out]; rfl
      have hF := fun i => frozen_of_row _ _ i _ _ HR.out
      clear hs2 HA HR
      go_wp2
      refine bodyPost_ret (by simp [results, Try.results54, go_sem, q0, q1, q2, q3]; try rfl) rfl ?_
      exact ⟨rfl, (((HN.out.setCell (by simp; try omega) _).setCell (by simp; try omega) _).setCell (by simp; try omega) _).setCell (by simp; try omega) _⟩
set_option maxRecDepth 100000 in
set_option maxHeartbeats 8000000 in
theorem shl4_3 (a0 a1 a2 a3 kb kr : BitVec 64) (k : Nat) (e0 : BitVec 64) (h0 : Hid (a0 <<< k = e0)) (n : Int) (HC : Hid (∀ w, Calls Try.prog 78 #[.int .i64 n] w fun e w' => e = .returned (.int .u64 (W64 kb)) ∧ w' = w))
    (hd : kb / 64#64 = 3#64) (hr : kb % 64#64 = kr) (hk : N64 kr = k) (hs : N64 (64#64 - kr) = 64 - k) (hge : decide (256 ≤ W64 kb) = false) (hkl : k < 64) (w : World) :
    Calls Try.prog 54 #[.agg #[.int .u64 (W64 a0), .int .u64 (W64 a1), .int .u64 (W64 a2), .int .u64 (W64 a3)], .int .i64 n] w fun e w' => e = .returned (.agg #[.int .u64 0, .int .u64 0, .int .u64 0, .int .u64 (W64 e0)]) ∧ New w w' := by
  have hwW : W64 3#64 = 3 := by decide
  have hwV : wrap64 (W64 3#64) = 3 := by rw [hwW]; unfold wrap64; omega
  go_enter Try.func54, Try.ntmps54
  go_wp2_with fail
  have hbx := three_b4 w (.cells #[.int .u64 (W64 a0), .int .u64 (W64 a1), .int .u64 (W64 a2), .int .u64 (W64 a3)] 45) (.cells #[.int .u64 0, .int .u64 0, .int .u64 0, .int .u64 0] 45) (.cells #[.int .u64 0, .int .u64 0, .int .u64 0, .int .u64 0] 45)
  generalize ((w.alloc (.cells #[.int .u64 (W64 a0), .int .u64 (W64 a1), .int .u64 (W64 a2), .int .u64 (W64 a3)] 45)).alloc (.cells #[.int .u64 0, .int .u64 0, .int .u64 0, .int .u64 0] 45)).alloc (.cells #[.int .u64 0, .int .u64 0, .int .u64 0, .int .u64 0] 45) = wz at *
  have HBX := Lib.hid hbx
  clear hbx
  refine (HC.out _).mono ?_
  rintro e w9 ⟨rfl, hw⟩
  replace hw := hw.symm
  subst hw
  go_wp2_with fail
  clear hd hr hge
  go_loopw [21] (fun iv wr => ((iv = .int .i64 0 ∧ wr.heap[w.heap.size + 2]? = some (.cells #[.int .u64 0, .int .u64 0, .int .u64 0, .int .u64 0] 45 (0, 0))) ∨ (iv = .int .i64 1 ∧ wr.heap[w.heap.size + 2]? = some (.cells #[.int .u64 0, .int .u64 0, .int .u64 0, .int .u64 (W64 e0)] 45 (0, 0)))) ∧ wr.heap[w.heap.size]? = some (.cells #[.int .u64 (W64 a0), .int .u64 (W64 a1), .int .u64 (W64 a2), .int .u64 (W64 a3)] 45 (0, 0)) ∧ wr.heap[w.heap.size + 1]? = some (.cells #[.int .u64 0, .int .u64 0, .int .u64 0, .int .u64 0] 45 (0, 0)) ∧ New w wr) (fun iv _ => 1 - (intOf iv).toNat)
  case atStart => exact ⟨Or.inl ⟨rfl, HBX.out.2.2.1⟩, HBX.out.1, HBX.out.2.1, HBX.out.2.2.2⟩
  case round =>
    clear HBX HC
    obtain ⟨hc, hba, hbr, hn⟩ := hrel
    have HA := Lib.hid hba
    have HR := Lib.hid hbr
    have HN := Lib.hid hn
    clear hba hbr hn
    rcases hc with ⟨rfl, hs2⟩ | ⟨rfl, hs2⟩
    · have HS := Lib.hid hs2
      have hA : wr.cell? ⟨w.heap.size, 0, none⟩ = some (.int .u64 (W64 a0)) := by rw [cell_of_row _ _ _ _ _ _ HA.out]; rfl
      have hC : wr.cell? ⟨w.heap.size + 2, 3, none⟩ = some (.int .u64 0) := by rw [cell_of_row _ _ _ _ _ _ HS.out]; rfl
      have hF := fun i => frozen_of_row _ _ i _ _ HS.out
      have HD := Lib.hid (show ((wr.setCell ⟨w.heap.size + 1 + 1, 3, none⟩ (.int .u64 (W64 e0))).drew).heap[w.heap.size + 2]? = _ from heap_setCell_same wr (w.heap.size + 2) 3 _ _ (.int .u64 (W64 e0)) HS.out)
      have HDA := Lib.hid (show ((wr.setCell ⟨w.heap.size + 1 + 1, 3, none⟩ (.int .u64 (W64 e0))).drew).heap[w.heap.size]? = _ from (heap_setCell_other wr ⟨w.heap.size + 2, 3, none⟩ w.heap.size (.int .u64 (W64 e0)) (by show w.heap.size ≠ w.heap.size + 2; omega)).trans HA.out)
      have HDR := Lib.hid (show ((wr.setCell ⟨w.heap.size + 1 + 1, 3, none⟩ (.int .u64 (W64 e0))).drew).heap[w.heap.size + 1]? = _ from (heap_setCell_other wr ⟨w.heap.size + 2, 3, none⟩ (w.heap.size + 1) (.int .u64 (W64 e0)) (by show w.heap.size + 1 ≠ w.heap.size + 2; omega)).trans HR.out)
      have HDN := Lib.hid (show New w ((wr.setCell ⟨w.heap.size + 1 + 1, 3, none⟩ (.int .u64 (W64 e0))).drew) from (HN.out.setCell (p := ⟨w.heap.size + 2, 3, none⟩) (by show w.heap.size ≤ w.heap.size + 2; omega) (.int .u64 (W64 e0))).drew)
      have hE := h0.out
      clear hs2 HA HR HN HS
      go_wp2_with fail
      go_region
      obtain ⟨wn, hwn⟩ : ∃ z, z = (wr.setCell ⟨w.heap.size + 1 + 1, 3, none⟩ (.int .u64 (W64 e0))).drew := ⟨_, rfl⟩
      rw [← hwn] at HD HDA HDR HDN ⊢
      clear hwn hA hC hF
      go_wp2
      exact ⟨⟨(Or.inr ⟨rfl, HD.out⟩), HDA.out, HDR.out, HDN.out⟩, by simp [intOf]⟩
    · have r0 : wr.cell? ⟨w.heap.size + 2, 0, none⟩ = some (.int .u64 0) := by rw [cell_of_row _ _ _ _ _ _ hs2]; rfl
      have r1 : wr.cell? ⟨w.heap.size + 2, 1, none⟩ = some (.int .u64 0) := by rw [cell_of_row _ _ _ _ _ _ hs2]; rfl
      have r2 : wr.cell? ⟨w.heap.size + 2, 2, none⟩ = some (.int .u64 0) := by rw [cell_of_row _ _ _ _ _ _ hs2]; rfl
      have r3 : wr.cell? ⟨w.heap.size + 2, 3, none⟩ = some (.int .u64 (W64 e0)) := by rw [cell_of_row _ _ _ _ _ _ hs2]; rfl
      have q0 : wr.cell? ⟨w.heap.size + 1, 0, none⟩ = some (.int .u64 0) := by rw [cell_of_row _ _ _ _ _ _ HR.out]; rfl
      have q1 : wr.cell? ⟨w.heap.size + 1, 1, none⟩ = some (.int .u64 0) := by rw [cell_of_row _ _ _ _ _ _ HR.out]; rfl
      have q2 : wr.cell? ⟨w.heap.size + 1, 2, none⟩ = some (.int .u64 0) := by rw [cell_of_row _ _ _ _ _ _ HR.out]; rfl
      have q3 : wr.cell? ⟨w.heap.size + 1, 3, none⟩ = some (.int .u64 0) := by rw [cell_of_row _ _ _ _ _ _ HR.out]; rfl
      have hF := fun i => frozen_of_row _ _ i _ _ HR.out
      clear hs2 HA HR
      go_wp2
      refine bodyPost_ret (by simp [results, Try.results54, go_sem, q0, q1, q2, q3]; try rfl) rfl ?_
      exact ⟨rfl, (((HN.out.setCell (by simp; try omega) _).setCell (by simp; try omega) _).setCell (by simp; try omega) _).setCell (by simp; try omega) _⟩
end Go.Proofs.Ytppmpledcaonkaa
namespace Go.Proofs.Ytppmpledcaonkaa
open Go.RowKit Go.Bv
set_option linter.unusedVariables false
set_option maxHeartbeats 2000000 in
theorem shl4_far (a0 a1 a2 a3 kb : BitVec 64) (n : Int) (HC : Hid (∀ w, Calls Try.prog 78 #[.int .i64 n] w fun e w' => e = .returned (.int .u64 (W64 kb)) ∧ w' = w)) (hge : decide (256 ≤ W64 kb) = true) (w : World) :
    Calls Try.prog 54 #[.agg #[.int .u64 (W64 a0), .int .u64 (W64 a1), .int .u64 (W64 a2), .int .u64 (W64 a3)], .int .i64 n] w fun e w' => e = .returned (.agg #[.int .u64 0, .int .u64 0, .int .u64 0, .int .u64 0]) ∧ New w w' := by
  go_enter Try.func54, Try.ntmps54
  go_wp2_with fail
  have hbx := three_b4 w (.cells #[.int .u64 (W64 a0), .int .u64 (W64 a1), .int .u64 (W64 a2), .int .u64 (W64 a3)] 45) (.cells #[.int .u64 0, .int .u64 0, .int .u64 0, .int .u64 0] 45) (.cells #[.int .u64 0, .int .u64 0, .int .u64 0, .int .u64 0] 45)
  generalize ((w.alloc (.cells #[.int .u64 (W64 a0), .int .u64 (W64 a1), .int .u64 (W64 a2), .int .u64 (W64 a3)] 45)).alloc (.cells #[.int .u64 0, .int .u64 0, .int .u64 0, .int .u64 0] 45)).alloc (.cells #[.int .u64 0, .int .u64 0, .int .u64 0, .int .u64 0] 45) = wz at *
  have HBX := Lib.hid hbx
  clear hbx
  refine (HC.out _).mono ?_
  rintro e w9 ⟨rfl, hw⟩
  replace hw := hw.symm
  subst hw
  have q0 : wz.cell? ⟨w.heap.size + 1, 0, none⟩ = some (.int .u64 0) := by rw [cell_of_row _ _ _ _ _ _ HBX.out.2.1]; rfl
  have q1 : wz.cell? ⟨w.heap.size + 1, 1, none⟩ = some (.int .u64 0) := by rw [cell_of_row _ _ _ _ _ _ HBX.out.2.1]; rfl
  have q2 : wz.cell? ⟨w.heap.size + 1, 2, none⟩ = some (.int .u64 0) := by rw [cell_of_row _ _ _ _ _ _ HBX.out.2.1]; rfl
  have q3 : wz.cell? ⟨w.heap.size + 1, 3, none⟩ = some (.int .u64 0) := by rw [cell_of_row _ _ _ _ _ _ HBX.out.2.1]; rfl
  have r0 : wz.cell? ⟨w.heap.size + 2, 0, none⟩ = some (.int .u64 0) := by rw [cell_of_row _ _ _ _ _ _ HBX.out.2.2.1]; rfl
  have r1 : wz.cell? ⟨w.heap.size + 2, 1, none⟩ = some (.int .u64 0) := by rw [cell_of_row _ _ _ _ _ _ HBX.out.2.2.1]; rfl
  have r2 : wz.cell? ⟨w.heap.size + 2, 2, none⟩ = some (.int .u64 0) := by rw [cell_of_row _ _ _ _ _ _ HBX.out.2.2.1]; rfl
  have r3 : wz.cell? ⟨w.heap.size + 2, 3, none⟩ = some (.int .u64 0) := by rw [cell_of_row _ _ _ _ _ _ HBX.out.2.2.1]; rfl
  have hF := fun i => frozen_of_row _ _ i _ _ HBX.out.2.1
  have HN := Lib.hid HBX.out.2.2.2
  clear HBX HC
  go_wp2
  refine bodyPost_ret (by simp [results, Try.results54, go_sem, q0, q1, q2, q3]; try rfl) rfl ?_
  exact ⟨rfl, (((HN.out.setCell (by simp; try omega) _).setCell (by simp; try omega) _).setCell (by simp; try omega) _).setCell (by simp; try omega) _⟩
theorem wshl4 (a0 a1 a2 a3 : BitVec 64) (n : Int) (K m : Nat) (hK : max n 0 = (K : Int)) (hn : n ≤ 9223372036854775807) (hm : min K 256 = m) (w : World) :
    Calls Try.prog 54 #[.agg #[.int .u64 (W64 a0), .int .u64 (W64 a1), .int .u64 (W64 a2), .int .u64 (W64 a3)], .int .i64 n] w fun e w' => e = .returned (.agg #[.int .u64 (W64 (BitVec.ofNat 64 (four a0 a1 a2 a3 * 2 ^ m))), .int .u64 (W64 (BitVec.ofNat 64 (four a0 a1 a2 a3 * 2 ^ m / 2 ^ 64))), .int .u64 (W64 (BitVec.ofNat 64 (four a0 a1 a2 a3 * 2 ^ m / 2 ^ 128))), .int .u64 (W64 (BitVec.ofNat 64 (four a0 a1 a2 a3 * 2 ^ m / 2 ^ 192)))]) ∧ New w w' := by
  have hc := fun w => count_any n w
  rw [hK, BitVec.ofInt_natCast] at hc
  have hkb : (BitVec.ofNat 64 K).toNat = K := by rw [BitVec.toNat_ofNat]; omega
  have e0 : four a0 a1 a2 a3 * 2 ^ m = four a0 a1 a2 a3 * 2 ^ m / 2 ^ 0 := by rw [Nat.pow_zero, Nat.div_one]
  rw [show BitVec.ofNat 64 (four a0 a1 a2 a3 * 2 ^ m) = BitVec.ofNat 64 (four a0 a1 a2 a3 * 2 ^ m / 2 ^ 0) from congrArg _ e0]
  clear e0
  generalize BitVec.ofNat 64 K = kb at *
  by_cases h : 256 ≤ K
  · obtain rfl : m = 256 := by omega
    rw [← shl_none _ 256 0 (by omega), ← shl_none _ 256 64 (by omega), ← shl_none _ 256 128 (by omega), ← shl_none _ 256 192 (by omega), lo_zero]
    exact shl4_far a0 a1 a2 a3 kb n (Lib.hid hc) (decide_eq_true (by unfold W64; omega)) w
  · have hge : decide (256 ≤ W64 kb) = false := decide_eq_false (by unfold W64; omega)
    obtain rfl : m = K := by omega
    obtain ⟨k, hk⟩ : ∃ k, m % 64 = k := ⟨_, rfl⟩
    have hkl : k < 64 := by omega
    have hr : N64 (kb % 64#64) = k := by show (kb % 64#64).toNat = k; rw [BitVec.toNat_umod, hkb]; exact hk
    have hs : N64 (64#64 - kb % 64#64) = 64 - k := by
      show (64#64 - kb % 64#64).toNat = _
      have h5 : (kb % 64#64).toNat = k := hr
      rw [BitVec.toNat_sub, h5]; show (2 ^ 64 - k + 64) % 2 ^ 64 = _; omega
    have hd : ∀ W : Nat, m / 64 = W → W < 64 → kb / 64#64 = BitVec.ofNat 64 W := fun W hW hl => by
      apply BitVec.eq_of_toNat_eq
      rw [BitVec.toNat_udiv, hkb, BitVec.toNat_ofNat]
      show m / 64 = W % 2 ^ 64
      omega
    rcases (show m / 64 = 0 ∨ m / 64 = 1 ∨ m / 64 = 2 ∨ m / 64 = 3 by omega) with hW | hW | hW | hW
    · have hmk : m = 0 + k := by omega
      have r := shl4_0 a0 a1 a2 a3 kb (kb % 64#64) k _ _ _ _ _ _ _ (Lib.hid rfl) (Lib.hid rfl) (Lib.hid rfl) (Lib.hid rfl) (Lib.hid rfl) (Lib.hid rfl) (Lib.hid rfl) n (Lib.hid hc) (hd 0 hW (by omega)) rfl hr hs hge hkl w
      rw [shl_first a0 a1 a2 a3 0 k, shl_next1 a0 a1 a2 a3 0 k hkl, shl_next2 a0 a1 a2 a3 0 k hkl, shl_next3 a0 a1 a2 a3 0 k hkl, ← hmk] at r
      exact r
    · have hmk : m = 64 + k := by omega
      have r := shl4_1 a0 a1 a2 a3 kb (kb % 64#64) k _ _ _ _ _ (Lib.hid rfl) (Lib.hid rfl) (Lib.hid rfl) (Lib.hid rfl) (Lib.hid rfl) n (Lib.hid hc) (hd 1 hW (by omega)) rfl hr hs hge hkl w
      rw [shl_first a0 a1 a2 a3 64 k, shl_next1 a0 a1 a2 a3 64 k hkl, shl_next2 a0 a1 a2 a3 64 k hkl, ← hmk] at r
      rw [← shl_none _ m 0 (by omega), lo_zero]
      exact r
    · have hmk : m = 128 + k := by omega
      have r := shl4_2 a0 a1 a2 a3 kb (kb % 64#64) k _ _ _ (Lib.hid rfl) (Lib.hid rfl) (Lib.hid rfl) n (Lib.hid hc) (hd 2 hW (by omega)) rfl hr hs hge hkl w
      rw [shl_first a0 a1 a2 a3 128 k, shl_next1 a0 a1 a2 a3 128 k hkl, ← hmk] at r
      rw [← shl_none _ m 0 (by omega), ← shl_none _ m 64 (by omega), lo_zero]
      exact r
    · have hmk : m = 192 + k := by omega
      have r := shl4_3 a0 a1 a2 a3 kb (kb % 64#64) k _ (Lib.hid rfl) n (Lib.hid hc) (hd 3 hW (by omega)) rfl hr hs hge hkl w
      rw [shl_first a0 a1 a2 a3 192 k, ← hmk] at r
      rw [← shl_none _ m 0 (by omega), ← shl_none _ m 64 (by omega), ← shl_none _ m 128 (by omega), lo_zero]
      exact r
end Go.Proofs.Ytppmpledcaonkaa
