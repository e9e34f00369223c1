/- wide.Cmp4, Len4, Of4. -/
import Derived.Test.YtppmpledcaonkaaFouA
namespace Go.Proofs.Ytppmpledcaonkaa
open Go.RowKit Go.Bv
set_option linter.unusedVariables false
theorem eq4 (x0 x1 x2 x3 y0 y1 y2 y3 : BitVec 64) : (x0 == y0 && (x1 == y1 && (x2 == y2 && x3 == y3))) = decide (four x0 x1 x2 x3 = four y0 y1 y2 y3) := by
  by_cases h : four x0 x1 x2 x3 = four y0 y1 y2 y3
  · obtain ⟨rfl, rfl, rfl, rfl⟩ := four_inj h
    rw [decide_eq_true rfl]; simp
  · rw [decide_eq_false h]
    by_cases h0 : x0 = y0
    · by_cases h1 : x1 = y1
      · by_cases h2 : x2 = y2
        · by_cases h3 : x3 = y3
          · exact absurd (by rw [h0, h1, h2, h3]) h
          · rw [beq_eq_false_iff_ne.2 h3]; simp
        · rw [beq_eq_false_iff_ne.2 h2]; simp
      · rw [beq_eq_false_iff_ne.2 h1]; simp
    · rw [beq_eq_false_iff_ne.2 h0]; simp
theorem two_b4 (w : World) (A B : Obj) : ((w.alloc A).alloc B).heap[w.heap.size]? = some A ∧ ((w.alloc A).alloc B).heap[w.heap.size + 1]? = some B ∧ New w ((w.alloc A).alloc B) := by
  have e1 : (w.alloc A).heap.size = w.heap.size + 1 := by simp
  refine ⟨?_, ?_, ((New.refl w).alloc _).alloc _⟩
  · rw [((New.refl (w.alloc A)).alloc B).block _ (by rw [e1]; omega)]; exact heap_alloc_new _ _
  · rw [← e1]; exact heap_alloc_new _ _
set_option maxHeartbeats 4000000 in
theorem wlen4_run (a0 a1 a2 a3 : BitVec 64) (L1 L2 L3 L4 : Nat) (h1 : L1 = (if a0 = 0#64 then 0 else Lib.bitLen a0.toNat)) (h2 : L2 = (if a1 = 0#64 then L1 else 64 + Lib.bitLen a1.toNat)) (h3 : L3 = (if a2 = 0#64 then L2 else 128 + Lib.bitLen a2.toNat)) (h4 : L4 = (if a3 = 0#64 then L3 else 192 + Lib.bitLen a3.toNat)) (w : World) :
    Calls Try.prog 62 #[.agg #[.int .u64 (W64 a0), .int .u64 (W64 a1), .int .u64 (W64 a2), .int .u64 (W64 a3)]] w fun e w' => e = .returned (.int .i64 (L4 : Nat)) ∧ New w w' := by
  have HL1 := Lib.hid h1
  have HL2 := Lib.hid h2
  have HL3 := Lib.hid h3
  have HL4 := Lib.hid h4
  have HBX := Lib.hid (heap_alloc_new w (.cells #[.int .u64 (W64 a0), .int .u64 (W64 a1), .int .u64 (W64 a2), .int .u64 (W64 a3)] 45))
  have HN0 := Lib.hid ((New.refl w).alloc (.cells #[.int .u64 (W64 a0), .int .u64 (W64 a1), .int .u64 (W64 a2), .int .u64 (W64 a3)] 45))
  clear h1 h2 h3 h4
  go_enter Try.func62, Try.ntmps62
  go_wp2_with fail
  generalize w.alloc (.cells #[.int .u64 (W64 a0), .int .u64 (W64 a1), .int .u64 (W64 a2), .int .u64 (W64 a3)] 45) = wz at *
  go_loopw [3, 5] (fun lv iv wr => ((iv = .int .i64 0 ∧ lv = .int .i64 0) ∨ (iv = .int .i64 1 ∧ lv = .int .i64 (L1 : Nat)) ∨ (iv = .int .i64 2 ∧ lv = .int .i64 (L2 : Nat)) ∨ (iv = .int .i64 3 ∧ lv = .int .i64 (L3 : Nat)) ∨ (iv = .int .i64 4 ∧ lv = .int .i64 (L4 : Nat))) ∧ wr = wz) (fun _ iv _ => 4 - (intOf iv).toNat)
  case atStart => exact ⟨Or.inl ⟨rfl, rfl⟩, rfl⟩
  case round =>
    obtain ⟨hc, hwr⟩ := hrel
    replace hwr := hwr.symm
    subst hwr
    rcases hc with ⟨rfl, rfl⟩ | ⟨rfl, rfl⟩ | ⟨rfl, rfl⟩ | ⟨rfl, rfl⟩ | ⟨rfl, rfl⟩
    · have hA : wz.cell? ⟨w.heap.size, 0, none⟩ = some (.int .u64 (W64 a0)) := by rw [cell_of_row _ _ _ _ _ _ HBX.out]; rfl
      by_cases h0 : a0 = 0#64
      · have HE : Hid (L1 = 0) := Lib.hid (by rw [HL1.out, if_pos h0])
        rw [h0, lo_zero] at hA
        clear h0
        go_wp2
        exact ⟨⟨(Or.inr (Or.inl ⟨rfl, by rw [HE.out] <;> first | rfl | simp⟩)), by first | rfl | trivial⟩, by simp [intOf]⟩
      · have HE : Hid (L1 = Lib.bitLen a0.toNat) := Lib.hid (by rw [HL1.out, if_neg h0])
        have hne : (a0 != 0#64) = true := by rw [bne_iff_ne]; exact h0
        have hl := (bitLen_of a0 h0).2.1
        have HB := Lib.hid (fun w => Try.bits_Len64 (W64 a0) w (by unfold W64; omega) (by have := a0.isLt; unfold W64; omega))
        rw [show (W64 a0).toNat = a0.toNat from toNat_W64 _] at HB
        clear h0
        obtain ⟨l, hl2⟩ : ∃ z, Lib.bitLen a0.toNat = z := ⟨_, rfl⟩
        rw [hl2] at hl HB HE
        clear hl2
        go_wp2_with fail
        refine (HB.out _).mono ?_
        rintro e w' ⟨rfl, hw⟩
        replace hw := hw.symm
        subst hw
        go_wp2
        exact ⟨⟨(Or.inr (Or.inl ⟨rfl, by rw [HE.out] <;> first | rfl | simp⟩)), by first | rfl | trivial⟩, by simp [intOf]⟩
    · have hA : wz.cell? ⟨w.heap.size, 1, none⟩ = some (.int .u64 (W64 a1)) := by rw [cell_of_row _ _ _ _ _ _ HBX.out]; rfl
      by_cases h0 : a1 = 0#64
      · have HE : Hid (L2 = L1) := Lib.hid (by rw [HL2.out, if_pos h0])
        rw [h0, lo_zero] at hA
        clear h0
        go_wp2
        exact ⟨⟨(Or.inr (Or.inr (Or.inl ⟨rfl, by rw [HE.out] <;> first | rfl | simp⟩))), by first | rfl | trivial⟩, by simp [intOf]⟩
      · have HE : Hid (L2 = 64 + Lib.bitLen a1.toNat) := Lib.hid (by rw [HL2.out, if_neg h0])
        have hne : (a1 != 0#64) = true := by rw [bne_iff_ne]; exact h0
        have hl := (bitLen_of a1 h0).2.1
        have HB := Lib.hid (fun w => Try.bits_Len64 (W64 a1) w (by unfold W64; omega) (by have := a1.isLt; unfold W64; omega))
        rw [show (W64 a1).toNat = a1.toNat from toNat_W64 _] at HB
        clear h0
        obtain ⟨l, hl2⟩ : ∃ z, Lib.bitLen a1.toNat = z := ⟨_, rfl⟩
        rw [hl2] at hl HB HE
        clear hl2
        go_wp2_with fail
        refine (HB.out _).mono ?_
        rintro e w' ⟨rfl, hw⟩
        replace hw := hw.symm
        subst hw
        go_wp2
        exact ⟨⟨(Or.inr (Or.inr (Or.inl ⟨rfl, by rw [HE.out] <;> first | rfl | simp⟩))), by first | rfl | trivial⟩, by simp [intOf]⟩
    · have hA : wz.cell? ⟨w.heap.size, 2, none⟩ = some (.int .u64 (W64 a2)) := by rw [cell_of_row _ _ _ _ _ _ HBX.out]; rfl
      by_cases h0 : a2 = 0#64
      · have HE : Hid (L3 = L2) := Lib.hid (by rw [HL3.out, if_pos h0])
        rw [h0, lo_zero] at hA
        clear h0
        go_wp2
        exact ⟨⟨(Or.inr (Or.inr (Or.inr (Or.inl ⟨rfl, by rw [HE.out] <;> first | rfl | simp⟩)))), by first | rfl | trivial⟩, by simp [intOf]⟩
      · have HE : Hid (L3 = 128 + Lib.bitLen a2.toNat) := Lib.hid (by rw [HL3.out, if_neg h0])
        have hne : (a2 != 0#64) = true := by rw [bne_iff_ne]; exact h0
        have hl := (bitLen_of a2 h0).2.1
        have HB := Lib.hid (fun w => Try.bits_Len64 (W64 a2) w (by unfold W64; omega) (by have := a2.isLt; unfold W64; omega))
        rw [show (W64 a2).toNat = a2.toNat from toNat_W64 _] at HB
        clear h0
        obtain ⟨l, hl2⟩ : ∃ z, Lib.bitLen a2.toNat = z := ⟨_, rfl⟩
        rw [hl2] at hl HB HE
        clear hl2
        go_wp2_with fail
        refine (HB.out _).mono ?_
        rintro e w' ⟨rfl, hw⟩
        replace hw := hw.symm
        subst hw
        go_wp2
        exact ⟨⟨(Or.inr (Or.inr (Or.inr (Or.inl ⟨rfl, by rw [HE.out] <;> first | rfl | simp⟩)))), by first | rfl | trivial⟩, by simp [intOf]⟩
    · have hA : wz.cell? ⟨w.heap.size, 3, none⟩ = some (.int .u64 (W64 a3)) := by rw [cell_of_row _ _ _ _ _ _ HBX.out]; rfl
      by_cases h0 : a3 = 0#64
      · have HE : Hid (L4 = L3) := Lib.hid (by rw [HL4.out, if_pos h0])
        rw [h0, lo_zero] at hA
        clear h0
        go_wp2
        exact ⟨⟨(Or.inr (Or.inr (Or.inr (Or.inr ⟨rfl, by rw [HE.out] <;> first | rfl | simp⟩)))), by first | rfl | trivial⟩, by simp [intOf]⟩
      · have HE : Hid (L4 = 192 + Lib.bitLen a3.toNat) := Lib.hid (by rw [HL4.out, if_neg h0])
        have hne : (a3 != 0#64) = true := by rw [bne_iff_ne]; exact h0
        have hl := (bitLen_of a3 h0).2.1
        have HB := Lib.hid (fun w => Try.bits_Len64 (W64 a3) w (by unfold W64; omega) (by have := a3.isLt; unfold W64; omega))
        rw [show (W64 a3).toNat = a3.toNat from toNat_W64 _] at HB
        clear h0
        obtain ⟨l, hl2⟩ : ∃ z, Lib.bitLen a3.toNat = z := ⟨_, rfl⟩
        rw [hl2] at hl HB HE
        clear hl2
        go_wp2_with fail
        refine (HB.out _).mono ?_
        rintro e w' ⟨rfl, hw⟩
        replace hw := hw.symm
        subst hw
        go_wp2
        exact ⟨⟨(Or.inr (Or.inr (Or.inr (Or.inr ⟨rfl, by rw [HE.out] <;> first | rfl | simp⟩)))), by first | rfl | trivial⟩, by simp [intOf]⟩
    · go_wp2
      go_ret
      exact ⟨rfl, HN0.out⟩
theorem wof4 (x : BitVec 64) (w : World) :
    Calls Try.prog 35 #[.int .u64 (W64 x)] w fun e w' => e = .returned (.agg #[.int .u64 (W64 x), .int .u64 0, .int .u64 0, .int .u64 0]) ∧ New w w' := by
  go_enter Try.func35, Try.ntmps35
  go_wp2
  go_returns
  first | exact ⟨rfl, (New.refl _).alloc _⟩ | exact ⟨rfl, (((((New.refl w).alloc _).setCell (by simp) _).setCell (by simp) _).setCell (by simp) _).setCell (by simp) _⟩
end Go.Proofs.Ytppmpledcaonkaa
