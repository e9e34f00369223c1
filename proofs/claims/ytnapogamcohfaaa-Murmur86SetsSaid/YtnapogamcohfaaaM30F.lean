/- Layer 30: finish. -/
import Derived.Test.YtnapogamcohfaaaM30W
import Derived.Test.YtnapogamcohfaaaM30V
import Derived.Test.YtnapogamcohfaaaM30J
import Derived.Defers
import Derived.Recover
import Derived.Laws.Pointers
import Derived.Handy
import Derived.Laws.EntriesVeiled
import Derived.LoopN
namespace Go.Proofs.Ytnapogamcohfaaa
open Go.RowKit Go.Bv
set_option linter.unusedVariables false
set_option maxRecDepth 100000 in
set_option maxHeartbeats 8000000 in
theorem finish_30s (s : BitVec 32 × BitVec 32 × BitVec 32 × BitVec 32) (a : Option Addr) (n c : Nat) (tl : List (BitVec 8)) (lg : BitVec 64) (w : World) (h : BRow w a n c tl) :
    Calls Try.prog 26 #[.agg #[.int .u32 (W32 (s.1)), .int .u32 (W32 (s.2.1)), .int .u32 (W32 (s.2.2.1)), .int .u32 (W32 (s.2.2.2))], .slice a n c, .int .u64 (W64 lg)] w fun e w' => e = .returned (.agg #[.int .u64 (W64 (end30 s tl lg).2), .int .u64 (W64 (end30 s tl lg).1)]) ∧ New w w' := by
  obtain ⟨s0, s1, s2, s3⟩ := s
  have HW := Lib.hid (fun w' (hn : New w w') => words_30s a n c tl w' (h.stay hn))
  clear h
  unfold end30 endw30 xl30 xw30
  simp only
  obtain ⟨k0, hk⟩ : ∃ z, (rd tl 0 4).setWidth 32 = z := ⟨_, rfl⟩
  rw [hk] at HW
  rw [hk]
  clear hk
  have HS0 := Lib.hid (scr0_p k0)
  have hs0 : k0 = 0#32 → sa30 k0 = 0#32 := by rintro rfl; decide
  obtain ⟨y0, hy⟩ : ∃ z, sa30 k0 = z := ⟨_, rfl⟩
  rw [hy] at HS0 hs0
  rw [hy]
  clear hy
  have HY0 := Lib.hid hs0
  obtain ⟨x0, hx⟩ : ∃ z, s0 ^^^ y0 = z := ⟨_, rfl⟩
  have HX0 := Lib.hid hx
  rw [hx]
  clear hx hs0
  obtain ⟨z0, hz⟩ : ∃ z, x0 ^^^ lg.setWidth 32 = z := ⟨_, rfl⟩
  have HZ0 := Lib.hid hz
  rw [hz]
  clear hz
  obtain ⟨k1, hk⟩ : ∃ z, (rd tl 4 4).setWidth 32 = z := ⟨_, rfl⟩
  rw [hk] at HW
  rw [hk]
  clear hk
  have HS1 := Lib.hid (scr1_p k1)
  have hs0 : k1 = 0#32 → sb30 k1 = 0#32 := by rintro rfl; decide
  obtain ⟨y1, hy⟩ : ∃ z, sb30 k1 = z := ⟨_, rfl⟩
  rw [hy] at HS1 hs0
  rw [hy]
  clear hy
  have HY1 := Lib.hid hs0
  obtain ⟨x1, hx⟩ : ∃ z, s1 ^^^ y1 = z := ⟨_, rfl⟩
  have HX1 := Lib.hid hx
  rw [hx]
  clear hx hs0
  obtain ⟨z1, hz⟩ : ∃ z, x1 ^^^ lg.setWidth 32 = z := ⟨_, rfl⟩
  have HZ1 := Lib.hid hz
  rw [hz]
  clear hz
  obtain ⟨k2, hk⟩ : ∃ z, (rd tl 8 4).setWidth 32 = z := ⟨_, rfl⟩
  rw [hk] at HW
  rw [hk]
  clear hk
  have HS2 := Lib.hid (scr2_p k2)
  have hs0 : k2 = 0#32 → sc30 k2 = 0#32 := by rintro rfl; decide
  obtain ⟨y2, hy⟩ : ∃ z, sc30 k2 = z := ⟨_, rfl⟩
  rw [hy] at HS2 hs0
  rw [hy]
  clear hy
  have HY2 := Lib.hid hs0
  obtain ⟨x2, hx⟩ : ∃ z, s2 ^^^ y2 = z := ⟨_, rfl⟩
  have HX2 := Lib.hid hx
  rw [hx]
  clear hx hs0
  obtain ⟨z2, hz⟩ : ∃ z, x2 ^^^ lg.setWidth 32 = z := ⟨_, rfl⟩
  have HZ2 := Lib.hid hz
  rw [hz]
  clear hz
  obtain ⟨k3, hk⟩ : ∃ z, (rd tl 12 4).setWidth 32 = z := ⟨_, rfl⟩
  rw [hk] at HW
  rw [hk]
  clear hk
  have HS3 := Lib.hid (scr3_p k3)
  have hs0 : k3 = 0#32 → sd30 k3 = 0#32 := by rintro rfl; decide
  obtain ⟨y3, hy⟩ : ∃ z, sd30 k3 = z := ⟨_, rfl⟩
  rw [hy] at HS3 hs0
  rw [hy]
  clear hy
  have HY3 := Lib.hid hs0
  obtain ⟨x3, hx⟩ : ∃ z, s3 ^^^ y3 = z := ⟨_, rfl⟩
  have HX3 := Lib.hid hx
  rw [hx]
  clear hx hs0
  obtain ⟨z3, hz⟩ : ∃ z, x3 ^^^ lg.setWidth 32 = z := ⟨_, rfl⟩
  have HZ3 := Lib.hid hz
  rw [hz]
  clear hz
  have HJ1 := Lib.hid (joined_30s (z0, z1, z2, z3))
  obtain ⟨⟨j0, j1, j2, j3⟩, hj⟩ : ∃ z, join30 (z0, z1, z2, z3) = z := ⟨_, rfl⟩
  rw [hj] at HJ1 ⊢
  clear hj
  unfold fm30
  simp only at HJ1 ⊢
  have HF0 := Lib.hid (fmix32_n j0)
  obtain ⟨f0, hf⟩ : ∃ z, fmix32 j0 = z := ⟨_, rfl⟩
  rw [hf] at HF0 ⊢
  clear hf
  have HF1 := Lib.hid (fmix32_n j1)
  obtain ⟨f1, hf⟩ : ∃ z, fmix32 j1 = z := ⟨_, rfl⟩
  rw [hf] at HF1 ⊢
  clear hf
  have HF2 := Lib.hid (fmix32_n j2)
  obtain ⟨f2, hf⟩ : ∃ z, fmix32 j2 = z := ⟨_, rfl⟩
  rw [hf] at HF2 ⊢
  clear hf
  have HF3 := Lib.hid (fmix32_n j3)
  obtain ⟨f3, hf⟩ : ∃ z, fmix32 j3 = z := ⟨_, rfl⟩
  rw [hf] at HF3 ⊢
  clear hf
  have HJ2 := Lib.hid (joined_30s (f0, f1, f2, f3))
  obtain ⟨⟨o0, o1, o2, o3⟩, hj⟩ : ∃ z, join30 (f0, f1, f2, f3) = z := ⟨_, rfl⟩
  rw [hj] at HJ2 ⊢
  clear hj
  have HWD := Lib.hid (widened_30s (o0, o1, o2, o3))
  unfold out30
  simp only at HJ2 HWD ⊢
  obtain ⟨u0, hu⟩ : ∃ z, o0.setWidth 64 = z := ⟨_, rfl⟩
  rw [hu] at HWD ⊢
  clear hu
  obtain ⟨u1, hu⟩ : ∃ z, o1.setWidth 64 = z := ⟨_, rfl⟩
  rw [hu] at HWD ⊢
  clear hu
  obtain ⟨u2, hu⟩ : ∃ z, o2.setWidth 64 = z := ⟨_, rfl⟩
  rw [hu] at HWD ⊢
  clear hu
  obtain ⟨u3, hu⟩ : ∃ z, o3.setWidth 64 = z := ⟨_, rfl⟩
  rw [hu] at HWD ⊢
  clear hu
  have HB := Lib.hid (two_blocks w (.cells #[.int .u32 (W32 s0), .int .u32 (W32 s1), .int .u32 (W32 s2), .int .u32 (W32 s3)] 52) (.cells #[.int .u64 0, .int .u64 0] 27))
  have ix0 : ∀ w, (Instr.index 52 (.agg #[.int .u32 (W32 j0), .int .u32 (W32 j1), .int .u32 (W32 j2), .int .u32 (W32 j3)]) (.int .i64 0)).run Try.prog w = .ok (.int .u32 (W32 j0)) w := fun _ => rfl
  have ix1 : ∀ w, (Instr.index 52 (.agg #[.int .u32 (W32 j0), .int .u32 (W32 j1), .int .u32 (W32 j2), .int .u32 (W32 j3)]) (.int .i64 1)).run Try.prog w = .ok (.int .u32 (W32 j1)) w := fun _ => rfl
  have ix2 : ∀ w, (Instr.index 52 (.agg #[.int .u32 (W32 j0), .int .u32 (W32 j1), .int .u32 (W32 j2), .int .u32 (W32 j3)]) (.int .i64 2)).run Try.prog w = .ok (.int .u32 (W32 j2)) w := fun _ => rfl
  have ix3 : ∀ w, (Instr.index 52 (.agg #[.int .u32 (W32 j0), .int .u32 (W32 j1), .int .u32 (W32 j2), .int .u32 (W32 j3)]) (.int .i64 3)).run Try.prog w = .ok (.int .u32 (W32 j3)) w := fun _ => rfl
  have heq := fun w => eqw30 w k0 k1 k2 k3 0#32 0#32 0#32 0#32
  rw [show W32 0#32 = 0 by decide] at heq
  go_enter Try.func26, Try.ntmps26
  go_wp2_with fail
  refine (HW.out _ HB.out.2.2).mono ?_
  rintro e w9 ⟨rfl, hn⟩
  have HA := Lib.hid ((hn.block _ (lt_of_block HB.out.1)).trans HB.out.1)
  have HO := Lib.hid ((hn.block _ (lt_of_block HB.out.2.1)).trans HB.out.2.1)
  have HN := Lib.hid (HB.out.2.2.trans hn)
  clear hn HB HW
  have hx := heap_alloc_new w9 (.cells #[.int .u32 (W32 k0), .int .u32 (W32 k1), .int .u32 (W32 k2), .int .u32 (W32 k3)] 52)
  have hn2 := (New.refl w9).alloc (.cells #[.int .u32 (W32 k0), .int .u32 (W32 k1), .int .u32 (W32 k2), .int .u32 (W32 k3)] 52)
  obtain ⟨qHK, hq⟩ : ∃ q, w9.heap.size = q := ⟨_, rfl⟩
  have hle := HN.out.le
  rw [hq] at hx hle
  have hw0 := And.intro (rfl : w9.alloc (.cells #[.int .u32 (W32 k0), .int .u32 (W32 k1), .int .u32 (W32 k2), .int .u32 (W32 k3)] 52) = w9.alloc (.cells #[.int .u32 (W32 k0), .int .u32 (W32 k1), .int .u32 (W32 k2), .int .u32 (W32 k3)] 52)) hq
  have HLTHK0 := Lib.hid (show w.heap.size + 1 < qHK from hq ▸ lt_of_block HO.out)
  generalize hw2 : w9.alloc (.cells #[.int .u32 (W32 k0), .int .u32 (W32 k1), .int .u32 (W32 k2), .int .u32 (W32 k3)] 52) = w10 at hx hn2 hw0
  have HE := Lib.hid (show w9.alloc (.cells #[.int .u32 (W32 k0), .int .u32 (W32 k1), .int .u32 (W32 k2), .int .u32 (W32 k3)] 52) = w10 ∧ w9.heap.size = qHK from ⟨hw2, hq⟩)
  clear hw0 hw2
  replace HA := Lib.hid ((hn2.block _ (lt_of_block HA.out)).trans HA.out)
  replace HO := Lib.hid ((hn2.block _ (lt_of_block HO.out)).trans HO.out)
  replace HN := Lib.hid (HN.out.trans hn2)
  have HK := Lib.hid hx
  have HLHK := Lib.hid hle
  clear hx hn2 hq hle
  have ck0 := cell_of_row _ _ 0 _ _ _ HK.out
  have ck1 := cell_of_row _ _ 1 _ _ _ HK.out
  have ck2 := cell_of_row _ _ 2 _ _ _ HK.out
  have ck3 := cell_of_row _ _ 3 _ _ _ HK.out
  by_cases hall : (k0 == 0#32 && (k1 == 0#32 && (k2 == 0#32 && k3 == 0#32))) = true
  · rw [hall] at heq
    go_wp2_with (rw [HE.out.1, HE.out.2])
    rw [Bool.and_eq_true, Bool.and_eq_true, Bool.and_eq_true, beq_iff_eq, beq_iff_eq, beq_iff_eq, beq_iff_eq] at hall
    have e0 : s0 = x0 := by have h := HX0.out; rw [HY0.out hall.1] at h; simpa using h
    have e1 : s1 = x1 := by have h := HX1.out; rw [HY1.out hall.2.1] at h; simpa using h
    have e2 : s2 = x2 := by have h := HX2.out; rw [HY2.out hall.2.2.1] at h; simpa using h
    have e3 : s3 = x3 := by have h := HX3.out; rw [HY3.out hall.2.2.2] at h; simpa using h
    rw [e0, e1, e2, e3] at HA
    clear e0 e1 e2 e3 hall heq ck0 ck1 ck2 ck3 HE HK HLHK HLTHK0 HX0 HX1 HX2 HX3 HY0 HY1 HY2 HY3 HS0 HS1 HS2 HS3
    obtain ⟨w9, hw9⟩ : ∃ z, w10 = z := ⟨_, rfl⟩
    rw [hw9] at HA HO HN ⊢
    clear hw9 w10
    go_wp2_with fail
    refine wp_loop_rounds 5 ?_
    rw [rounds_succ]
    have c0 := cell_of_row _ _ 0 _ _ _ HA.out
    have cf := fun i => frozen_of_row _ _ i _ _ HA.out
    have hv := HZ0.out
    go_wp2_with fail
    clear c0 cf hv HZ0
    have h0 := heap_setCell_same w9 w.heap.size 0 _ _ (.int .u32 (W32 z0)) HA.out
    have ho := fun q (hq : q ≠ w.heap.size) => heap_setCell_other w9 ⟨w.heap.size, 0, none⟩ q (.int .u32 (W32 z0)) hq
    have h2 := (HN.out.setCell (p := ⟨w.heap.size, 0, none⟩) (Nat.le_refl _) (.int .u32 (W32 z0)))
    replace HA := Lib.hid (show ((w9.setCell ⟨w.heap.size, 0, none⟩ (.int .u32 (W32 z0)))).heap[w.heap.size]? = some (.cells #[.int .u32 (W32 z0), .int .u32 (W32 x1), .int .u32 (W32 x2), .int .u32 (W32 x3)] 52 (0, 0)) from h0)
    replace HO := Lib.hid (show ((w9.setCell ⟨w.heap.size, 0, none⟩ (.int .u32 (W32 z0)))).heap[w.heap.size + 1]? = _ from (ho _ (by omega)).trans HO.out)
    replace HN := Lib.hid h2
    clear h0 ho h2
    generalize (w9.setCell ⟨w.heap.size, 0, none⟩ (.int .u32 (W32 z0))) = w8 at *
    obtain ⟨w9, hw9⟩ : ∃ z, w8 = z := ⟨_, rfl⟩
    rw [hw9] at HA HN HO ⊢
    clear hw9 w8
    rw [rounds_succ]
    have c1 := cell_of_row _ _ 1 _ _ _ HA.out
    have cf := fun i => frozen_of_row _ _ i _ _ HA.out
    have hv := HZ1.out
    go_wp2_with fail
    clear c1 cf hv HZ1
    have h0 := heap_setCell_same w9 w.heap.size 1 _ _ (.int .u32 (W32 z1)) HA.out
    have ho := fun q (hq : q ≠ w.heap.size) => heap_setCell_other w9 ⟨w.heap.size, 1, none⟩ q (.int .u32 (W32 z1)) hq
    have h2 := (HN.out.setCell (p := ⟨w.heap.size, 1, none⟩) (Nat.le_refl _) (.int .u32 (W32 z1)))
    replace HA := Lib.hid (show ((w9.setCell ⟨w.heap.size, 1, none⟩ (.int .u32 (W32 z1)))).heap[w.heap.size]? = some (.cells #[.int .u32 (W32 z0), .int .u32 (W32 z1), .int .u32 (W32 x2), .int .u32 (W32 x3)] 52 (0, 0)) from h0)
    replace HO := Lib.hid (show ((w9.setCell ⟨w.heap.size, 1, none⟩ (.int .u32 (W32 z1)))).heap[w.heap.size + 1]? = _ from (ho _ (by omega)).trans HO.out)
    replace HN := Lib.hid h2
    clear h0 ho h2
    generalize (w9.setCell ⟨w.heap.size, 1, none⟩ (.int .u32 (W32 z1))) = w8 at *
    obtain ⟨w9, hw9⟩ : ∃ z, w8 = z := ⟨_, rfl⟩
    rw [hw9] at HA HN HO ⊢
    clear hw9 w8
    rw [rounds_succ]
    have c2 := cell_of_row _ _ 2 _ _ _ HA.out
    have cf := fun i => frozen_of_row _ _ i _ _ HA.out
    have hv := HZ2.out
    go_wp2_with fail
    clear c2 cf hv HZ2
    have h0 := heap_setCell_same w9 w.heap.size 2 _ _ (.int .u32 (W32 z2)) HA.out
    have ho := fun q (hq : q ≠ w.heap.size) => heap_setCell_other w9 ⟨w.heap.size, 2, none⟩ q (.int .u32 (W32 z2)) hq
    have h2 := (HN.out.setCell (p := ⟨w.heap.size, 2, none⟩) (Nat.le_refl _) (.int .u32 (W32 z2)))
    replace HA := Lib.hid (show ((w9.setCell ⟨w.heap.size, 2, none⟩ (.int .u32 (W32 z2)))).heap[w.heap.size]? = some (.cells #[.int .u32 (W32 z0), .int .u32 (W32 z1), .int .u32 (W32 z2), .int .u32 (W32 x3)] 52 (0, 0)) from h0)
    replace HO := Lib.hid (show ((w9.setCell ⟨w.heap.size, 2, none⟩ (.int .u32 (W32 z2)))).heap[w.heap.size + 1]? = _ from (ho _ (by omega)).trans HO.out)
    replace HN := Lib.hid h2
    clear h0 ho h2
    generalize (w9.setCell ⟨w.heap.size, 2, none⟩ (.int .u32 (W32 z2))) = w8 at *
    obtain ⟨w9, hw9⟩ : ∃ z, w8 = z := ⟨_, rfl⟩
    rw [hw9] at HA HN HO ⊢
    clear hw9 w8
    rw [rounds_succ]
    have c3 := cell_of_row _ _ 3 _ _ _ HA.out
    have cf := fun i => frozen_of_row _ _ i _ _ HA.out
    have hv := HZ3.out
    go_wp2_with fail
    clear c3 cf hv HZ3
    have h0 := heap_setCell_same w9 w.heap.size 3 _ _ (.int .u32 (W32 z3)) HA.out
    have ho := fun q (hq : q ≠ w.heap.size) => heap_setCell_other w9 ⟨w.heap.size, 3, none⟩ q (.int .u32 (W32 z3)) hq
    have h2 := (HN.out.setCell (p := ⟨w.heap.size, 3, none⟩) (Nat.le_refl _) (.int .u32 (W32 z3)))
    replace HA := Lib.hid (show ((w9.setCell ⟨w.heap.size, 3, none⟩ (.int .u32 (W32 z3)))).heap[w.heap.size]? = some (.cells #[.int .u32 (W32 z0), .int .u32 (W32 z1), .int .u32 (W32 z2), .int .u32 (W32 z3)] 52 (0, 0)) from h0)
    replace HO := Lib.hid (show ((w9.setCell ⟨w.heap.size, 3, none⟩ (.int .u32 (W32 z3)))).heap[w.heap.size + 1]? = _ from (ho _ (by omega)).trans HO.out)
    replace HN := Lib.hid h2
    clear h0 ho h2
    generalize (w9.setCell ⟨w.heap.size, 3, none⟩ (.int .u32 (W32 z3))) = w8 at *
    obtain ⟨w9, hw9⟩ : ∃ z, w8 = z := ⟨_, rfl⟩
    rw [hw9] at HA HN HO ⊢
    clear hw9 w8
    rw [rounds_succ]
    have c0 := cell_of_row _ _ 0 _ _ _ HA.out
    have c1 := cell_of_row _ _ 1 _ _ _ HA.out
    have c2 := cell_of_row _ _ 2 _ _ _ HA.out
    have c3 := cell_of_row _ _ 3 _ _ _ HA.out
    have cf := fun i => frozen_of_row _ _ i _ _ HA.out
    go_wp2_with fail
    refine (HJ1.out _).mono ?_
    rintro e w9 ⟨rfl, hn⟩
    replace HA := Lib.hid ((hn.block _ (lt_of_block HA.out)).trans HA.out)
    replace HO := Lib.hid ((hn.block _ (lt_of_block HO.out)).trans HO.out)
    replace HN := Lib.hid (HN.out.trans hn)
    clear hn c0 c1 c2 c3 cf HJ1
    have c0 := cell_of_row _ _ 0 _ _ _ HA.out
    have c1 := cell_of_row _ _ 1 _ _ _ HA.out
    have c2 := cell_of_row _ _ 2 _ _ _ HA.out
    have c3 := cell_of_row _ _ 3 _ _ _ HA.out
    have cf := fun i => frozen_of_row _ _ i _ _ HA.out
    go_simp
    first | go_skip | go_guarded | go_step | go_upon | go_in | go_back
    first | go_skip | go_guarded | go_step | go_upon | go_in | go_back
    first | go_skip | go_guarded | go_step | go_upon | go_in | go_back
    first | go_skip | go_guarded | go_step | go_upon | go_in | go_back
    first | go_skip | go_guarded | go_step | go_upon | go_in | go_back
    first | go_skip | go_guarded | go_step | go_upon | go_in | go_back
    first | go_skip | go_guarded | go_step | go_upon | go_in | go_back
    first | go_skip | go_guarded | go_step | go_upon | go_in | go_back
    have hp := put4h (.int .u32 (W32 j0)) (.int .u32 (W32 j1)) (.int .u32 (W32 j2)) (.int .u32 (W32 j3)) HA.out
    replace HO := Lib.hid ((hp.2.1 _ (by omega)).trans HO.out)
    replace HN := Lib.hid (hp.2.2 _ HN.out (Nat.le_refl _))
    replace HA := Lib.hid hp.1
    clear hp
    generalize (((w9.setCell ⟨w.heap.size, 0, none⟩ (.int .u32 (W32 j0))).setCell ⟨w.heap.size, 1, none⟩ (.int .u32 (W32 j1))).setCell ⟨w.heap.size, 2, none⟩ (.int .u32 (W32 j2))).setCell ⟨w.heap.size, 3, none⟩ (.int .u32 (W32 j3)) = w8 at *
    obtain ⟨w9, hw9⟩ : ∃ z, w8 = z := ⟨_, rfl⟩
    rw [hw9] at HA HO HN ⊢
    clear hw9 w8
    have c0 := cell_of_row _ _ 0 _ _ _ HA.out
    have c1 := cell_of_row _ _ 1 _ _ _ HA.out
    have c2 := cell_of_row _ _ 2 _ _ _ HA.out
    have c3 := cell_of_row _ _ 3 _ _ _ HA.out
    have cf := fun i => frozen_of_row _ _ i _ _ HA.out
    go_wp2_with fail
    clear c0 c1 c2 c3 cf
    refine wp_loop_rounds 5 ?_
    rw [rounds_succ]
    go_wp2_with fail
    refine (HF0.out _).mono ?_
    rintro e w9 ⟨rfl, hn⟩
    replace HA := Lib.hid ((hn.block _ (lt_of_block HA.out)).trans HA.out)
    replace HO := Lib.hid ((hn.block _ (lt_of_block HO.out)).trans HO.out)
    replace HN := Lib.hid (HN.out.trans hn)
    clear hn HF0
    have c0 := cell_of_row _ _ 0 _ _ _ HA.out
    have cf := fun i => frozen_of_row _ _ i _ _ HA.out
    go_wp2_with fail
    clear c0 cf
    have h0 := heap_setCell_same w9 w.heap.size 0 _ _ (.int .u32 (W32 f0)) HA.out
    have ho := fun q (hq : q ≠ w.heap.size) => heap_setCell_other w9 ⟨w.heap.size, 0, none⟩ q (.int .u32 (W32 f0)) hq
    have h2 := (HN.out.setCell (p := ⟨w.heap.size, 0, none⟩) (Nat.le_refl _) (.int .u32 (W32 f0)))
    replace HA := Lib.hid (show ((w9.setCell ⟨w.heap.size, 0, none⟩ (.int .u32 (W32 f0)))).heap[w.heap.size]? = some (.cells #[.int .u32 (W32 f0), .int .u32 (W32 j1), .int .u32 (W32 j2), .int .u32 (W32 j3)] 52 (0, 0)) from h0)
    replace HO := Lib.hid (show ((w9.setCell ⟨w.heap.size, 0, none⟩ (.int .u32 (W32 f0)))).heap[w.heap.size + 1]? = _ from (ho _ (by omega)).trans HO.out)
    replace HN := Lib.hid h2
    clear h0 ho h2
    generalize (w9.setCell ⟨w.heap.size, 0, none⟩ (.int .u32 (W32 f0))) = w8 at *
    obtain ⟨w9, hw9⟩ : ∃ z, w8 = z := ⟨_, rfl⟩
    rw [hw9] at HA HN HO ⊢
    clear hw9 w8
    rw [rounds_succ]
    go_wp2_with fail
    refine (HF1.out _).mono ?_
    rintro e w9 ⟨rfl, hn⟩
    replace HA := Lib.hid ((hn.block _ (lt_of_block HA.out)).trans HA.out)
    replace HO := Lib.hid ((hn.block _ (lt_of_block HO.out)).trans HO.out)
    replace HN := Lib.hid (HN.out.trans hn)
    clear hn HF1
    have c1 := cell_of_row _ _ 1 _ _ _ HA.out
    have cf := fun i => frozen_of_row _ _ i _ _ HA.out
    go_wp2_with fail
    clear c1 cf
    have h0 := heap_setCell_same w9 w.heap.size 1 _ _ (.int .u32 (W32 f1)) HA.out
    have ho := fun q (hq : q ≠ w.heap.size) => heap_setCell_other w9 ⟨w.heap.size, 1, none⟩ q (.int .u32 (W32 f1)) hq
    have h2 := (HN.out.setCell (p := ⟨w.heap.size, 1, none⟩) (Nat.le_refl _) (.int .u32 (W32 f1)))
    replace HA := Lib.hid (show ((w9.setCell ⟨w.heap.size, 1, none⟩ (.int .u32 (W32 f1)))).heap[w.heap.size]? = some (.cells #[.int .u32 (W32 f0), .int .u32 (W32 f1), .int .u32 (W32 j2), .int .u32 (W32 j3)] 52 (0, 0)) from h0)
    replace HO := Lib.hid (show ((w9.setCell ⟨w.heap.size, 1, none⟩ (.int .u32 (W32 f1)))).heap[w.heap.size + 1]? = _ from (ho _ (by omega)).trans HO.out)
    replace HN := Lib.hid h2
    clear h0 ho h2
    generalize (w9.setCell ⟨w.heap.size, 1, none⟩ (.int .u32 (W32 f1))) = w8 at *
    obtain ⟨w9, hw9⟩ : ∃ z, w8 = z := ⟨_, rfl⟩
    rw [hw9] at HA HN HO ⊢
    clear hw9 w8
    rw [rounds_succ]
    go_wp2_with fail
    refine (HF2.out _).mono ?_
    rintro e w9 ⟨rfl, hn⟩
    replace HA := Lib.hid ((hn.block _ (lt_of_block HA.out)).trans HA.out)
    replace HO := Lib.hid ((hn.block _ (lt_of_block HO.out)).trans HO.out)
    replace HN := Lib.hid (HN.out.trans hn)
    clear hn HF2
    have c2 := cell_of_row _ _ 2 _ _ _ HA.out
    have cf := fun i => frozen_of_row _ _ i _ _ HA.out
    go_wp2_with fail
    clear c2 cf
    have h0 := heap_setCell_same w9 w.heap.size 2 _ _ (.int .u32 (W32 f2)) HA.out
    have ho := fun q (hq : q ≠ w.heap.size) => heap_setCell_other w9 ⟨w.heap.size, 2, none⟩ q (.int .u32 (W32 f2)) hq
    have h2 := (HN.out.setCell (p := ⟨w.heap.size, 2, none⟩) (Nat.le_refl _) (.int .u32 (W32 f2)))
    replace HA := Lib.hid (show ((w9.setCell ⟨w.heap.size, 2, none⟩ (.int .u32 (W32 f2)))).heap[w.heap.size]? = some (.cells #[.int .u32 (W32 f0), .int .u32 (W32 f1), .int .u32 (W32 f2), .int .u32 (W32 j3)] 52 (0, 0)) from h0)
    replace HO := Lib.hid (show ((w9.setCell ⟨w.heap.size, 2, none⟩ (.int .u32 (W32 f2)))).heap[w.heap.size + 1]? = _ from (ho _ (by omega)).trans HO.out)
    replace HN := Lib.hid h2
    clear h0 ho h2
    generalize (w9.setCell ⟨w.heap.size, 2, none⟩ (.int .u32 (W32 f2))) = w8 at *
    obtain ⟨w9, hw9⟩ : ∃ z, w8 = z := ⟨_, rfl⟩
    rw [hw9] at HA HN HO ⊢
    clear hw9 w8
    rw [rounds_succ]
    go_wp2_with fail
    refine (HF3.out _).mono ?_
    rintro e w9 ⟨rfl, hn⟩
    replace HA := Lib.hid ((hn.block _ (lt_of_block HA.out)).trans HA.out)
    replace HO := Lib.hid ((hn.block _ (lt_of_block HO.out)).trans HO.out)
    replace HN := Lib.hid (HN.out.trans hn)
    clear hn HF3
    have c3 := cell_of_row _ _ 3 _ _ _ HA.out
    have cf := fun i => frozen_of_row _ _ i _ _ HA.out
    go_wp2_with fail
    clear c3 cf
    have h0 := heap_setCell_same w9 w.heap.size 3 _ _ (.int .u32 (W32 f3)) HA.out
    have ho := fun q (hq : q ≠ w.heap.size) => heap_setCell_other w9 ⟨w.heap.size, 3, none⟩ q (.int .u32 (W32 f3)) hq
    have h2 := (HN.out.setCell (p := ⟨w.heap.size, 3, none⟩) (Nat.le_refl _) (.int .u32 (W32 f3)))
    replace HA := Lib.hid (show ((w9.setCell ⟨w.heap.size, 3, none⟩ (.int .u32 (W32 f3)))).heap[w.heap.size]? = some (.cells #[.int .u32 (W32 f0), .int .u32 (W32 f1), .int .u32 (W32 f2), .int .u32 (W32 f3)] 52 (0, 0)) from h0)
    replace HO := Lib.hid (show ((w9.setCell ⟨w.heap.size, 3, none⟩ (.int .u32 (W32 f3)))).heap[w.heap.size + 1]? = _ from (ho _ (by omega)).trans HO.out)
    replace HN := Lib.hid h2
    clear h0 ho h2
    generalize (w9.setCell ⟨w.heap.size, 3, none⟩ (.int .u32 (W32 f3))) = w8 at *
    obtain ⟨w9, hw9⟩ : ∃ z, w8 = z := ⟨_, rfl⟩
    rw [hw9] at HA HN HO ⊢
    clear hw9 w8
    rw [rounds_succ]
    clear ix0 ix1 ix2 ix3
    have c0 := cell_of_row _ _ 0 _ _ _ HA.out
    have c1 := cell_of_row _ _ 1 _ _ _ HA.out
    have c2 := cell_of_row _ _ 2 _ _ _ HA.out
    have c3 := cell_of_row _ _ 3 _ _ _ HA.out
    have cf := fun i => frozen_of_row _ _ i _ _ HA.out
    go_wp2_with fail
    refine (HJ2.out _).mono ?_
    rintro e w9 ⟨rfl, hn⟩
    replace HO := Lib.hid ((hn.block _ (lt_of_block HO.out)).trans HO.out)
    replace HN := Lib.hid (HN.out.trans hn)
    clear hn HJ2 c0 c1 c2 c3 cf HA
    go_wp2_with fail
    refine (HWD.out _).mono ?_
    rintro e w9 ⟨rfl, hn⟩
    replace HO := Lib.hid ((hn.block _ (lt_of_block HO.out)).trans HO.out)
    replace HN := Lib.hid (HN.out.trans hn)
    clear hn HWD
    replace HO := Lib.hid ((((New.refl w9).alloc (.cells #[.int .u64 (W64 u0), .int .u64 (W64 u1), .int .u64 (W64 u2), .int .u64 (W64 u3)] 38)).block _ (lt_of_block HO.out)).trans HO.out)
    replace HN := Lib.hid (HN.out.alloc (.cells #[.int .u64 (W64 u0), .int .u64 (W64 u1), .int .u64 (W64 u2), .int .u64 (W64 u3)] 38))
    have r0 := cell_of_row _ _ 0 _ _ _ HO.out
    have r1 := cell_of_row _ _ 1 _ _ _ HO.out
    have rf := fun i => frozen_of_row _ _ i _ _ HO.out
    go_simp
    first | go_skip | go_guarded | go_step | go_upon | go_in | go_back
    first | go_skip | go_guarded | go_step | go_upon | go_in | go_back
    first | go_skip | go_guarded | go_step | go_upon | go_in | go_back
    first | go_skip | go_guarded | go_step | go_upon | go_in | go_back
    first | go_skip | go_guarded | go_step | go_upon | go_in | go_back
    first | go_skip | go_guarded | go_step | go_upon | go_in | go_back
    first | go_skip | go_guarded | go_step | go_upon | go_in | go_back
    first | go_skip | go_guarded | go_step | go_upon | go_in | go_back
    first | go_skip | go_guarded | go_step | go_upon | go_in | go_back
    first | go_skip | go_guarded | go_step | go_upon | go_in | go_back
    first | go_skip | go_guarded | go_step | go_upon | go_in | go_back
    first | go_skip | go_guarded | go_step | go_upon | go_in | go_back
    first | go_skip | go_guarded | go_step | go_upon | go_in | go_back
    first | go_skip | go_guarded | go_step | go_upon | go_in | go_back
    first | go_skip | go_guarded | go_step | go_upon | go_in | go_back
    first | go_skip | go_guarded | go_step | go_upon | go_in | go_back
    first | go_skip | go_guarded | go_step | go_upon | go_in | go_back
    first | go_skip | go_guarded | go_step | go_upon | go_in | go_back
    first | go_skip | go_guarded | go_step | go_upon | go_in | go_back
    first | go_skip | go_guarded | go_step | go_upon | go_in | go_back
    first | go_skip | go_guarded | go_step | go_upon | go_in | go_back
    first | go_skip | go_guarded | go_step | go_upon | go_in | go_back
    first | go_skip | go_guarded | go_step | go_upon | go_in | go_back
    first | go_skip | go_guarded | go_step | go_upon | go_in | go_back
    first | go_skip | go_guarded | go_step | go_upon | go_in | go_back
    first | go_skip | go_guarded | go_step | go_upon | go_in | go_back
    first | go_skip | go_guarded | go_step | go_upon | go_in | go_back
    first | go_skip | go_guarded | go_step | go_upon | go_in | go_back
    first | go_skip | go_guarded | go_step | go_upon | go_in | go_back
    first | go_skip | go_guarded | go_step | go_upon | go_in | go_back
    first | go_skip | go_guarded | go_step | go_upon | go_in | go_back
    first | go_skip | go_guarded | go_step | go_upon | go_in | go_back
    first | go_skip | go_guarded | go_step | go_upon | go_in | go_back
    first | go_skip | go_guarded | go_step | go_upon | go_in | go_back
    first | go_skip | go_guarded | go_step | go_upon | go_in | go_back
    first | go_skip | go_guarded | go_step | go_upon | go_in | go_back
    first | go_skip | go_guarded | go_step | go_upon | go_in | go_back
    first | go_skip | go_guarded | go_step | go_upon | go_in | go_back
    first | go_skip | go_guarded | go_step | go_upon | go_in | go_back
    first | go_skip | go_guarded | go_step | go_upon | go_in | go_back
    first | go_skip | go_guarded | go_step | go_upon | go_in | go_back
    first | go_skip | go_guarded | go_step | go_upon | go_in | go_back
    first | go_skip | go_guarded | go_step | go_upon | go_in | go_back
    first | go_skip | go_guarded | go_step | go_upon | go_in | go_back
    first | go_skip | go_guarded | go_step | go_upon | go_in | go_back
    first | go_skip | go_guarded | go_step | go_upon | go_in | go_back
    first | go_skip | go_guarded | go_step | go_upon | go_in | go_back
    first | go_skip | go_guarded | go_step | go_upon | go_in | go_back
    first | go_skip | go_guarded | go_step | go_upon | go_in | go_back
    first | go_skip | go_guarded | go_step | go_upon | go_in | go_back
    first | go_skip | go_guarded | go_step | go_upon | go_in | go_back
    first | go_skip | go_guarded | go_step | go_upon | go_in | go_back
    first | go_skip | go_guarded | go_step | go_upon | go_in | go_back
    first | go_skip | go_guarded | go_step | go_upon | go_in | go_back
    first | go_skip | go_guarded | go_step | go_upon | go_in | go_back
    first | go_skip | go_guarded | go_step | go_upon | go_in | go_back
    first | go_skip | go_guarded | go_step | go_upon | go_in | go_back
    first | go_skip | go_guarded | go_step | go_upon | go_in | go_back
    refine bodyPost_ret (by simp [results, Try.results26, go_sem, r0, r1]; try rfl) rfl ?_
    exact ⟨rfl, ((HN.out.setCell (by show w.heap.size ≤ w.heap.size + 1; omega) _).setCell (by show w.heap.size ≤ w.heap.size + 1; omega) _)⟩
  · rw [Bool.not_eq_true] at hall
    rw [hall] at heq
    go_wp2_with (rw [HE.out.1, HE.out.2])
    clear hall heq ck0 ck1 ck2 ck3 HE HY0 HY1 HY2 HY3
    obtain ⟨w9, hw9⟩ : ∃ z, w10 = z := ⟨_, rfl⟩
    rw [hw9] at HA HO HN HK ⊢
    clear hw9 w10
    refine wp_loop_rounds 5 ?_
    rw [rounds_succ]
    go_wp2_with fail
    refine Gro3.wp_region_gro3S (fun w' => (∃ u0 u1 u2 u3 : Value, w'.heap[w.heap.size]? = some (.cells #[u0, u1, u2, u3] 52 (0, 0))) ∧ w'.heap[qHK]? = some (.cells #[.int .u32 (W32 k0), .int .u32 (W32 k1), .int .u32 (W32 k2), .int .u32 (W32 k3)] 52 (0, 0)) ∧ w'.heap[w.heap.size + 1]? = some (.cells #[.int .u64 0, .int .u64 0] 27 (0, 0)) ∧ New w w') (fun w' => w'.heap[w.heap.size]? = some (.cells #[.int .u32 (W32 s0), .int .u32 (W32 s1), .int .u32 (W32 s2), .int .u32 (W32 s3)] 52 (0, 0)) ∧ w'.heap[qHK]? = some (.cells #[.int .u32 (W32 k0), .int .u32 (W32 k1), .int .u32 (W32 k2), .int .u32 (W32 k3)] 52 (0, 0)) ∧ w'.heap[w.heap.size + 1]? = some (.cells #[.int .u64 0, .int .u64 0] 27 (0, 0)) ∧ New w w') [0,0,1,0,0,0,1,2,0,0,3] New (fun _ _ _ => True) (by kernel_rfl) (by kernel_rfl) (by kernel_rfl) (fun _ _ _ _ _ _ => trivial) (fun w' hw' => ⟨⟨_, _, _, _, hw'.1⟩, hw'.2⟩) (⟨HA.out, HK.out, HO.out, HN.out.drew⟩) ?_
    intro I J _ _ f g hfa hba hgb hbb
    have HFA := Lib.hid hfa
    have HBA := Lib.hid hba
    have HGB := Lib.hid hgb
    have HBB := Lib.hid hbb
    have q0 := fun n => cell_of_row _ _ 0 _ _ _ (hgb n).1
    have q1 := fun n => cell_of_row _ _ 0 _ _ _ (hgb n).2.1
    clear hfa hba hgb hbb
    refine Gro3.take0 2 (by kernel_rfl) ?_
    simp only [List.take, List.drop, List.length]
    repeat (go_big_quiet_step (fail))
    refine wpQuiet_nil ?_
    refine Gro3.take1 1 (by kernel_rfl) ?_
    simp only [List.take, List.drop, List.length]
    repeat (go_big_quiet_step (fail))
    refine wpQuiet_nil ?_
    refine Gro3.take0 3 (by kernel_rfl) ?_
    simp only [List.take, List.drop, List.length]
    repeat (go_big_quiet_step (fail))
    refine wpQuiet_nil ?_
    refine Gro3.take1 1 (by kernel_rfl) ?_
    simp only [List.take, List.drop, List.length]
    repeat (go_big_quiet_step (fail))
    refine wpQuiet_nil ?_
    refine Gro3.callt (fun v => v = .int .u32 (W32 y0)) (fun _ _ => True) rfl rfl (⟨_, rfl⟩) (fun _ _ _ _ _ => trivial) (fun w1 hB hG => ?_) (fun v1 A1 hv1 hA => ?_)
    · obtain ⟨nq, rfl⟩ := hB
      clear q0 q1
      go_simp
      refine (HS0.out _).mono ?_
      rintro e w2 ⟨rfl, hn⟩
      have HX := HBB.out _ ⟨(hn.block _ (lt_of_block (HGB.out nq).1)).trans (HGB.out nq).1, (hn.block _ (lt_of_block (HGB.out nq).2.1)).trans (HGB.out nq).2.1, (hn.block _ (lt_of_block (HGB.out nq).2.2.1)).trans (HGB.out nq).2.2.1, (HGB.out nq).2.2.2.trans hn⟩
      first | exact ⟨_, rfl, HX, hn, rfl⟩ | exact ⟨_, rfl, HX, hn, rfl, trivial⟩ | exact ⟨rfl, HX, hn⟩ | exact ⟨HX, hn, rfl⟩ | exact ⟨HX, hn⟩
    simp [Act.put] at hA
    subst hA
    obtain rfl := hv1
    have hv := HX0.out
    refine Gro3.take0 2 (by kernel_rfl) ?_
    simp only [List.take, List.drop, List.length]
    repeat (go_big_quiet_step (fail))
    refine wpQuiet_nil ?_
    clear hv
    refine Gro3.turn (fun v => v = undef) (fun _ w9 => Lies w9 w.heap.size (.cells #[.int .u32 (W32 x0), .int .u32 (W32 s1), .int .u32 (W32 s2), .int .u32 (W32 s3)] 52 (0, 0))) rfl rfl ⟨_, rfl⟩ (fun w1 hB hG => ?_) (fun v2 A2 hv2 hA => ?_)
    · obtain ⟨nq, rfl⟩ : ∃ nq, w1 = g nq := hB
      have HX := Lib.hid (HGB.out nq)
      have c0 := cell_of_row _ _ 0 _ _ _ HX.out.1
      have cf := fun i => frozen_of_row _ _ i _ _ HX.out.1
      have h0 := heap_setCell_same _ w.heap.size 0 _ _ (.int .u32 (W32 x0)) HX.out.1
      have HLI := Lib.hid (show Lies _ _ _ from h0)
      have HOT := Lib.hid (fun q (hq : q ≠ w.heap.size) => heap_setCell_other (g nq) ⟨w.heap.size, 0, none⟩ q (.int .u32 (W32 x0)) hq)
      clear h0 q0 q1
      go_simp
      exact ⟨HBA.out _ ⟨⟨_, _, _, _, HLI.out⟩, (HOT.out _ (by have := HLTHK0.out; omega)).trans HX.out.2.1, (HOT.out _ (by omega)).trans HX.out.2.2.1, HX.out.2.2.2.setCell (by show w.heap.size ≤ w.heap.size; omega) _⟩, HLI.out⟩
    simp [Act.put] at hA
    subst hA
    refine Gro3.nil ?_
    rintro w11 ⟨n9, rfl⟩ hG
    have hF := HFA.out n9
    replace HA := Lib.hid (show (f n9).heap[w.heap.size]? = _ from hG)
    replace HK := Lib.hid hF.2.1
    replace HO := Lib.hid hF.2.2.1
    replace HN := Lib.hid hF.2.2.2
    clear HFA HBA HGB HBB hG hF q0 q1 HS0 HX0
    generalize f n9 = w9 at *
    first | go_wp2_with fail | skip
    rw [rounds_succ]
    go_wp2_with fail
    refine Gro3.wp_region_gro3S (fun w' => (∃ u0 u1 u2 u3 : Value, w'.heap[w.heap.size]? = some (.cells #[u0, u1, u2, u3] 52 (0, 0))) ∧ w'.heap[qHK]? = some (.cells #[.int .u32 (W32 k0), .int .u32 (W32 k1), .int .u32 (W32 k2), .int .u32 (W32 k3)] 52 (0, 0)) ∧ w'.heap[w.heap.size + 1]? = some (.cells #[.int .u64 0, .int .u64 0] 27 (0, 0)) ∧ New w w') (fun w' => w'.heap[w.heap.size]? = some (.cells #[.int .u32 (W32 x0), .int .u32 (W32 s1), .int .u32 (W32 s2), .int .u32 (W32 s3)] 52 (0, 0)) ∧ w'.heap[qHK]? = some (.cells #[.int .u32 (W32 k0), .int .u32 (W32 k1), .int .u32 (W32 k2), .int .u32 (W32 k3)] 52 (0, 0)) ∧ w'.heap[w.heap.size + 1]? = some (.cells #[.int .u64 0, .int .u64 0] 27 (0, 0)) ∧ New w w') [0,0,1,0,0,0,1,2,0,0,3] New (fun _ _ _ => True) (by kernel_rfl) (by kernel_rfl) (by kernel_rfl) (fun _ _ _ _ _ _ => trivial) (fun w' hw' => ⟨⟨_, _, _, _, hw'.1⟩, hw'.2⟩) (⟨HA.out, HK.out, HO.out, HN.out.drew⟩) ?_
    intro I J _ _ f g hfa hba hgb hbb
    have HFA := Lib.hid hfa
    have HBA := Lib.hid hba
    have HGB := Lib.hid hgb
    have HBB := Lib.hid hbb
    have q0 := fun n => cell_of_row _ _ 1 _ _ _ (hgb n).1
    have q1 := fun n => cell_of_row _ _ 1 _ _ _ (hgb n).2.1
    clear hfa hba hgb hbb
    refine Gro3.take0 2 (by kernel_rfl) ?_
    simp only [List.take, List.drop, List.length]
    repeat (go_big_quiet_step (fail))
    refine wpQuiet_nil ?_
    refine Gro3.take1 1 (by kernel_rfl) ?_
    simp only [List.take, List.drop, List.length]
    repeat (go_big_quiet_step (fail))
    refine wpQuiet_nil ?_
    refine Gro3.take0 3 (by kernel_rfl) ?_
    simp only [List.take, List.drop, List.length]
    repeat (go_big_quiet_step (fail))
    refine wpQuiet_nil ?_
    refine Gro3.take1 1 (by kernel_rfl) ?_
    simp only [List.take, List.drop, List.length]
    repeat (go_big_quiet_step (fail))
    refine wpQuiet_nil ?_
    refine Gro3.callt (fun v => v = .int .u32 (W32 y1)) (fun _ _ => True) rfl rfl (⟨_, rfl⟩) (fun _ _ _ _ _ => trivial) (fun w1 hB hG => ?_) (fun v1 A1 hv1 hA => ?_)
    · obtain ⟨nq, rfl⟩ := hB
      clear q0 q1
      go_simp
      refine (HS1.out _).mono ?_
      rintro e w2 ⟨rfl, hn⟩
      have HX := HBB.out _ ⟨(hn.block _ (lt_of_block (HGB.out nq).1)).trans (HGB.out nq).1, (hn.block _ (lt_of_block (HGB.out nq).2.1)).trans (HGB.out nq).2.1, (hn.block _ (lt_of_block (HGB.out nq).2.2.1)).trans (HGB.out nq).2.2.1, (HGB.out nq).2.2.2.trans hn⟩
      first | exact ⟨_, rfl, HX, hn, rfl⟩ | exact ⟨_, rfl, HX, hn, rfl, trivial⟩ | exact ⟨rfl, HX, hn⟩ | exact ⟨HX, hn, rfl⟩ | exact ⟨HX, hn⟩
    simp [Act.put] at hA
    subst hA
    obtain rfl := hv1
    have hv := HX1.out
    refine Gro3.take0 2 (by kernel_rfl) ?_
    simp only [List.take, List.drop, List.length]
    repeat (go_big_quiet_step (fail))
    refine wpQuiet_nil ?_
    clear hv
    refine Gro3.turn (fun v => v = undef) (fun _ w9 => Lies w9 w.heap.size (.cells #[.int .u32 (W32 x0), .int .u32 (W32 x1), .int .u32 (W32 s2), .int .u32 (W32 s3)] 52 (0, 0))) rfl rfl ⟨_, rfl⟩ (fun w1 hB hG => ?_) (fun v2 A2 hv2 hA => ?_)
    · obtain ⟨nq, rfl⟩ : ∃ nq, w1 = g nq := hB
      have HX := Lib.hid (HGB.out nq)
      have c0 := cell_of_row _ _ 1 _ _ _ HX.out.1
      have cf := fun i => frozen_of_row _ _ i _ _ HX.out.1
      have h0 := heap_setCell_same _ w.heap.size 1 _ _ (.int .u32 (W32 x1)) HX.out.1
      have HLI := Lib.hid (show Lies _ _ _ from h0)
      have HOT := Lib.hid (fun q (hq : q ≠ w.heap.size) => heap_setCell_other (g nq) ⟨w.heap.size, 1, none⟩ q (.int .u32 (W32 x1)) hq)
      clear h0 q0 q1
      go_simp
      exact ⟨HBA.out _ ⟨⟨_, _, _, _, HLI.out⟩, (HOT.out _ (by have := HLTHK0.out; omega)).trans HX.out.2.1, (HOT.out _ (by omega)).trans HX.out.2.2.1, HX.out.2.2.2.setCell (by show w.heap.size ≤ w.heap.size; omega) _⟩, HLI.out⟩
    simp [Act.put] at hA
    subst hA
    refine Gro3.nil ?_
    rintro w11 ⟨n9, rfl⟩ hG
    have hF := HFA.out n9
    replace HA := Lib.hid (show (f n9).heap[w.heap.size]? = _ from hG)
    replace HK := Lib.hid hF.2.1
    replace HO := Lib.hid hF.2.2.1
    replace HN := Lib.hid hF.2.2.2
    clear HFA HBA HGB HBB hG hF q0 q1 HS1 HX1
    generalize f n9 = w9 at *
    first | go_wp2_with fail | skip
    rw [rounds_succ]
    go_wp2_with fail
    refine Gro3.wp_region_gro3S (fun w' => (∃ u0 u1 u2 u3 : Value, w'.heap[w.heap.size]? = some (.cells #[u0, u1, u2, u3] 52 (0, 0))) ∧ w'.heap[qHK]? = some (.cells #[.int .u32 (W32 k0), .int .u32 (W32 k1), .int .u32 (W32 k2), .int .u32 (W32 k3)] 52 (0, 0)) ∧ w'.heap[w.heap.size + 1]? = some (.cells #[.int .u64 0, .int .u64 0] 27 (0, 0)) ∧ New w w') (fun w' => w'.heap[w.heap.size]? = some (.cells #[.int .u32 (W32 x0), .int .u32 (W32 x1), .int .u32 (W32 s2), .int .u32 (W32 s3)] 52 (0, 0)) ∧ w'.heap[qHK]? = some (.cells #[.int .u32 (W32 k0), .int .u32 (W32 k1), .int .u32 (W32 k2), .int .u32 (W32 k3)] 52 (0, 0)) ∧ w'.heap[w.heap.size + 1]? = some (.cells #[.int .u64 0, .int .u64 0] 27 (0, 0)) ∧ New w w') [0,0,1,0,0,0,1,2,0,0,3] New (fun _ _ _ => True) (by kernel_rfl) (by kernel_rfl) (by kernel_rfl) (fun _ _ _ _ _ _ => trivial) (fun w' hw' => ⟨⟨_, _, _, _, hw'.1⟩, hw'.2⟩) (⟨HA.out, HK.out, HO.out, HN.out.drew⟩) ?_
    intro I J _ _ f g hfa hba hgb hbb
    have HFA := Lib.hid hfa
    have HBA := Lib.hid hba
    have HGB := Lib.hid hgb
    have HBB := Lib.hid hbb
    have q0 := fun n => cell_of_row _ _ 2 _ _ _ (hgb n).1
    have q1 := fun n => cell_of_row _ _ 2 _ _ _ (hgb n).2.1
    clear hfa hba hgb hbb
    refine Gro3.take0 2 (by kernel_rfl) ?_
    simp only [List.take, List.drop, List.length]
    repeat (go_big_quiet_step (fail))
    refine wpQuiet_nil ?_
    refine Gro3.take1 1 (by kernel_rfl) ?_
    simp only [List.take, List.drop, List.length]
    repeat (go_big_quiet_step (fail))
    refine wpQuiet_nil ?_
    refine Gro3.take0 3 (by kernel_rfl) ?_
    simp only [List.take, List.drop, List.length]
    repeat (go_big_quiet_step (fail))
    refine wpQuiet_nil ?_
    refine Gro3.take1 1 (by kernel_rfl) ?_
    simp only [List.take, List.drop, List.length]
    repeat (go_big_quiet_step (fail))
    refine wpQuiet_nil ?_
    refine Gro3.callt (fun v => v = .int .u32 (W32 y2)) (fun _ _ => True) rfl rfl (⟨_, rfl⟩) (fun _ _ _ _ _ => trivial) (fun w1 hB hG => ?_) (fun v1 A1 hv1 hA => ?_)
    · obtain ⟨nq, rfl⟩ := hB
      clear q0 q1
      go_simp
      refine (HS2.out _).mono ?_
      rintro e w2 ⟨rfl, hn⟩
      have HX := HBB.out _ ⟨(hn.block _ (lt_of_block (HGB.out nq).1)).trans (HGB.out nq).1, (hn.block _ (lt_of_block (HGB.out nq).2.1)).trans (HGB.out nq).2.1, (hn.block _ (lt_of_block (HGB.out nq).2.2.1)).trans (HGB.out nq).2.2.1, (HGB.out nq).2.2.2.trans hn⟩
      first | exact ⟨_, rfl, HX, hn, rfl⟩ | exact ⟨_, rfl, HX, hn, rfl, trivial⟩ | exact ⟨rfl, HX, hn⟩ | exact ⟨HX, hn, rfl⟩ | exact ⟨HX, hn⟩
    simp [Act.put] at hA
    subst hA
    obtain rfl := hv1
    have hv := HX2.out
    refine Gro3.take0 2 (by kernel_rfl) ?_
    simp only [List.take, List.drop, List.length]
    repeat (go_big_quiet_step (fail))
    refine wpQuiet_nil ?_
    clear hv
    refine Gro3.turn (fun v => v = undef) (fun _ w9 => Lies w9 w.heap.size (.cells #[.int .u32 (W32 x0), .int .u32 (W32 x1), .int .u32 (W32 x2), .int .u32 (W32 s3)] 52 (0, 0))) rfl rfl ⟨_, rfl⟩ (fun w1 hB hG => ?_) (fun v2 A2 hv2 hA => ?_)
    · obtain ⟨nq, rfl⟩ : ∃ nq, w1 = g nq := hB
      have HX := Lib.hid (HGB.out nq)
      have c0 := cell_of_row _ _ 2 _ _ _ HX.out.1
      have cf := fun i => frozen_of_row _ _ i _ _ HX.out.1
      have h0 := heap_setCell_same _ w.heap.size 2 _ _ (.int .u32 (W32 x2)) HX.out.1
      have HLI := Lib.hid (show Lies _ _ _ from h0)
      have HOT := Lib.hid (fun q (hq : q ≠ w.heap.size) => heap_setCell_other (g nq) ⟨w.heap.size, 2, none⟩ q (.int .u32 (W32 x2)) hq)
      clear h0 q0 q1
      go_simp
      exact ⟨HBA.out _ ⟨⟨_, _, _, _, HLI.out⟩, (HOT.out _ (by have := HLTHK0.out; omega)).trans HX.out.2.1, (HOT.out _ (by omega)).trans HX.out.2.2.1, HX.out.2.2.2.setCell (by show w.heap.size ≤ w.heap.size; omega) _⟩, HLI.out⟩
    simp [Act.put] at hA
    subst hA
    refine Gro3.nil ?_
    rintro w11 ⟨n9, rfl⟩ hG
    have hF := HFA.out n9
    replace HA := Lib.hid (show (f n9).heap[w.heap.size]? = _ from hG)
    replace HK := Lib.hid hF.2.1
    replace HO := Lib.hid hF.2.2.1
    replace HN := Lib.hid hF.2.2.2
    clear HFA HBA HGB HBB hG hF q0 q1 HS2 HX2
    generalize f n9 = w9 at *
    first | go_wp2_with fail | skip
    rw [rounds_succ]
    go_wp2_with fail
    refine Gro3.wp_region_gro3S (fun w' => (∃ u0 u1 u2 u3 : Value, w'.heap[w.heap.size]? = some (.cells #[u0, u1, u2, u3] 52 (0, 0))) ∧ w'.heap[qHK]? = some (.cells #[.int .u32 (W32 k0), .int .u32 (W32 k1), .int .u32 (W32 k2), .int .u32 (W32 k3)] 52 (0, 0)) ∧ w'.heap[w.heap.size + 1]? = some (.cells #[.int .u64 0, .int .u64 0] 27 (0, 0)) ∧ New w w') (fun w' => w'.heap[w.heap.size]? = some (.cells #[.int .u32 (W32 x0), .int .u32 (W32 x1), .int .u32 (W32 x2), .int .u32 (W32 s3)] 52 (0, 0)) ∧ w'.heap[qHK]? = some (.cells #[.int .u32 (W32 k0), .int .u32 (W32 k1), .int .u32 (W32 k2), .int .u32 (W32 k3)] 52 (0, 0)) ∧ w'.heap[w.heap.size + 1]? = some (.cells #[.int .u64 0, .int .u64 0] 27 (0, 0)) ∧ New w w') [0,0,1,0,0,0,1,2,0,0,3] New (fun _ _ _ => True) (by kernel_rfl) (by kernel_rfl) (by kernel_rfl) (fun _ _ _ _ _ _ => trivial) (fun w' hw' => ⟨⟨_, _, _, _, hw'.1⟩, hw'.2⟩) (⟨HA.out, HK.out, HO.out, HN.out.drew⟩) ?_
    intro I J _ _ f g hfa hba hgb hbb
    have HFA := Lib.hid hfa
    have HBA := Lib.hid hba
    have HGB := Lib.hid hgb
    have HBB := Lib.hid hbb
    have q0 := fun n => cell_of_row _ _ 3 _ _ _ (hgb n).1
    have q1 := fun n => cell_of_row _ _ 3 _ _ _ (hgb n).2.1
    clear hfa hba hgb hbb
    refine Gro3.take0 2 (by kernel_rfl) ?_
    simp only [List.take, List.drop, List.length]
    repeat (go_big_quiet_step (fail))
    refine wpQuiet_nil ?_
    refine Gro3.take1 1 (by kernel_rfl) ?_
    simp only [List.take, List.drop, List.length]
    repeat (go_big_quiet_step (fail))
    refine wpQuiet_nil ?_
    refine Gro3.take0 3 (by kernel_rfl) ?_
    simp only [List.take, List.drop, List.length]
    repeat (go_big_quiet_step (fail))
    refine wpQuiet_nil ?_
    refine Gro3.take1 1 (by kernel_rfl) ?_
    simp only [List.take, List.drop, List.length]
    repeat (go_big_quiet_step (fail))
    refine wpQuiet_nil ?_
    refine Gro3.callt (fun v => v = .int .u32 (W32 y3)) (fun _ _ => True) rfl rfl (⟨_, rfl⟩) (fun _ _ _ _ _ => trivial) (fun w1 hB hG => ?_) (fun v1 A1 hv1 hA => ?_)
    · obtain ⟨nq, rfl⟩ := hB
      clear q0 q1
      go_simp
      refine (HS3.out _).mono ?_
      rintro e w2 ⟨rfl, hn⟩
      have HX := HBB.out _ ⟨(hn.block _ (lt_of_block (HGB.out nq).1)).trans (HGB.out nq).1, (hn.block _ (lt_of_block (HGB.out nq).2.1)).trans (HGB.out nq).2.1, (hn.block _ (lt_of_block (HGB.out nq).2.2.1)).trans (HGB.out nq).2.2.1, (HGB.out nq).2.2.2.trans hn⟩
      first | exact ⟨_, rfl, HX, hn, rfl⟩ | exact ⟨_, rfl, HX, hn, rfl, trivial⟩ | exact ⟨rfl, HX, hn⟩ | exact ⟨HX, hn, rfl⟩ | exact ⟨HX, hn⟩
    simp [Act.put] at hA
    subst hA
    obtain rfl := hv1
    have hv := HX3.out
    refine Gro3.take0 2 (by kernel_rfl) ?_
    simp only [List.take, List.drop, List.length]
    repeat (go_big_quiet_step (fail))
    refine wpQuiet_nil ?_
    clear hv
    refine Gro3.turn (fun v => v = undef) (fun _ w9 => Lies w9 w.heap.size (.cells #[.int .u32 (W32 x0), .int .u32 (W32 x1), .int .u32 (W32 x2), .int .u32 (W32 x3)] 52 (0, 0))) rfl rfl ⟨_, rfl⟩ (fun w1 hB hG => ?_) (fun v2 A2 hv2 hA => ?_)
    · obtain ⟨nq, rfl⟩ : ∃ nq, w1 = g nq := hB
      have HX := Lib.hid (HGB.out nq)
      have c0 := cell_of_row _ _ 3 _ _ _ HX.out.1
      have cf := fun i => frozen_of_row _ _ i _ _ HX.out.1
      have h0 := heap_setCell_same _ w.heap.size 3 _ _ (.int .u32 (W32 x3)) HX.out.1
      have HLI := Lib.hid (show Lies _ _ _ from h0)
      have HOT := Lib.hid (fun q (hq : q ≠ w.heap.size) => heap_setCell_other (g nq) ⟨w.heap.size, 3, none⟩ q (.int .u32 (W32 x3)) hq)
      clear h0 q0 q1
      go_simp
      exact ⟨HBA.out _ ⟨⟨_, _, _, _, HLI.out⟩, (HOT.out _ (by have := HLTHK0.out; omega)).trans HX.out.2.1, (HOT.out _ (by omega)).trans HX.out.2.2.1, HX.out.2.2.2.setCell (by show w.heap.size ≤ w.heap.size; omega) _⟩, HLI.out⟩
    simp [Act.put] at hA
    subst hA
    refine Gro3.nil ?_
    rintro w11 ⟨n9, rfl⟩ hG
    have hF := HFA.out n9
    replace HA := Lib.hid (show (f n9).heap[w.heap.size]? = _ from hG)
    replace HK := Lib.hid hF.2.1
    replace HO := Lib.hid hF.2.2.1
    replace HN := Lib.hid hF.2.2.2
    clear HFA HBA HGB HBB hG hF q0 q1 HS3 HX3
    generalize f n9 = w9 at *
    first | go_wp2_with fail | skip
    rw [rounds_succ]
    clear HK HLHK HLTHK0
    go_wp2_with fail
    refine wp_loop_rounds 5 ?_
    rw [rounds_succ]
    have c0 := cell_of_row _ _ 0 _ _ _ HA.out
    have cf := fun i => frozen_of_row _ _ i _ _ HA.out
    have hv := HZ0.out
    go_wp2_with fail
    clear c0 cf hv HZ0
    have h0 := heap_setCell_same w9 w.heap.size 0 _ _ (.int .u32 (W32 z0)) HA.out
    have ho := fun q (hq : q ≠ w.heap.size) => heap_setCell_other w9 ⟨w.heap.size, 0, none⟩ q (.int .u32 (W32 z0)) hq
    have h2 := (HN.out.setCell (p := ⟨w.heap.size, 0, none⟩) (Nat.le_refl _) (.int .u32 (W32 z0)))
    replace HA := Lib.hid (show ((w9.setCell ⟨w.heap.size, 0, none⟩ (.int .u32 (W32 z0)))).heap[w.heap.size]? = some (.cells #[.int .u32 (W32 z0), .int .u32 (W32 x1), .int .u32 (W32 x2), .int .u32 (W32 x3)] 52 (0, 0)) from h0)
    replace HO := Lib.hid (show ((w9.setCell ⟨w.heap.size, 0, none⟩ (.int .u32 (W32 z0)))).heap[w.heap.size + 1]? = _ from (ho _ (by omega)).trans HO.out)
    replace HN := Lib.hid h2
    clear h0 ho h2
    generalize (w9.setCell ⟨w.heap.size, 0, none⟩ (.int .u32 (W32 z0))) = w8 at *
    obtain ⟨w9, hw9⟩ : ∃ z, w8 = z := ⟨_, rfl⟩
    rw [hw9] at HA HN HO ⊢
    clear hw9 w8
    rw [rounds_succ]
    have c1 := cell_of_row _ _ 1 _ _ _ HA.out
    have cf := fun i => frozen_of_row _ _ i _ _ HA.out
    have hv := HZ1.out
    go_wp2_with fail
    clear c1 cf hv HZ1
    have h0 := heap_setCell_same w9 w.heap.size 1 _ _ (.int .u32 (W32 z1)) HA.out
    have ho := fun q (hq : q ≠ w.heap.size) => heap_setCell_other w9 ⟨w.heap.size, 1, none⟩ q (.int .u32 (W32 z1)) hq
    have h2 := (HN.out.setCell (p := ⟨w.heap.size, 1, none⟩) (Nat.le_refl _) (.int .u32 (W32 z1)))
    replace HA := Lib.hid (show ((w9.setCell ⟨w.heap.size, 1, none⟩ (.int .u32 (W32 z1)))).heap[w.heap.size]? = some (.cells #[.int .u32 (W32 z0), .int .u32 (W32 z1), .int .u32 (W32 x2), .int .u32 (W32 x3)] 52 (0, 0)) from h0)
    replace HO := Lib.hid (show ((w9.setCell ⟨w.heap.size, 1, none⟩ (.int .u32 (W32 z1)))).heap[w.heap.size + 1]? = _ from (ho _ (by omega)).trans HO.out)
    replace HN := Lib.hid h2
    clear h0 ho h2
    generalize (w9.setCell ⟨w.heap.size, 1, none⟩ (.int .u32 (W32 z1))) = w8 at *
    obtain ⟨w9, hw9⟩ : ∃ z, w8 = z := ⟨_, rfl⟩
    rw [hw9] at HA HN HO ⊢
    clear hw9 w8
    rw [rounds_succ]
    have c2 := cell_of_row _ _ 2 _ _ _ HA.out
    have cf := fun i => frozen_of_row _ _ i _ _ HA.out
    have hv := HZ2.out
    go_wp2_with fail
    clear c2 cf hv HZ2
    have h0 := heap_setCell_same w9 w.heap.size 2 _ _ (.int .u32 (W32 z2)) HA.out
    have ho := fun q (hq : q ≠ w.heap.size) => heap_setCell_other w9 ⟨w.heap.size, 2, none⟩ q (.int .u32 (W32 z2)) hq
    have h2 := (HN.out.setCell (p := ⟨w.heap.size, 2, none⟩) (Nat.le_refl _) (.int .u32 (W32 z2)))
    replace HA := Lib.hid (show ((w9.setCell ⟨w.heap.size, 2, none⟩ (.int .u32 (W32 z2)))).heap[w.heap.size]? = some (.cells #[.int .u32 (W32 z0), .int .u32 (W32 z1), .int .u32 (W32 z2), .int .u32 (W32 x3)] 52 (0, 0)) from h0)
    replace HO := Lib.hid (show ((w9.setCell ⟨w.heap.size, 2, none⟩ (.int .u32 (W32 z2)))).heap[w.heap.size + 1]? = _ from (ho _ (by omega)).trans HO.out)
    replace HN := Lib.hid h2
    clear h0 ho h2
    generalize (w9.setCell ⟨w.heap.size, 2, none⟩ (.int .u32 (W32 z2))) = w8 at *
    obtain ⟨w9, hw9⟩ : ∃ z, w8 = z := ⟨_, rfl⟩
    rw [hw9] at HA HN HO ⊢
    clear hw9 w8
    rw [rounds_succ]
    have c3 := cell_of_row _ _ 3 _ _ _ HA.out
    have cf := fun i => frozen_of_row _ _ i _ _ HA.out
    have hv := HZ3.out
    go_wp2_with fail
    clear c3 cf hv HZ3
    have h0 := heap_setCell_same w9 w.heap.size 3 _ _ (.int .u32 (W32 z3)) HA.out
    have ho := fun q (hq : q ≠ w.heap.size) => heap_setCell_other w9 ⟨w.heap.size, 3, none⟩ q (.int .u32 (W32 z3)) hq
    have h2 := (HN.out.setCell (p := ⟨w.heap.size, 3, none⟩) (Nat.le_refl _) (.int .u32 (W32 z3)))
    replace HA := Lib.hid (show ((w9.setCell ⟨w.heap.size, 3, none⟩ (.int .u32 (W32 z3)))).heap[w.heap.size]? = some (.cells #[.int .u32 (W32 z0), .int .u32 (W32 z1), .int .u32 (W32 z2), .int .u32 (W32 z3)] 52 (0, 0)) from h0)
    replace HO := Lib.hid (show ((w9.setCell ⟨w.heap.size, 3, none⟩ (.int .u32 (W32 z3)))).heap[w.heap.size + 1]? = _ from (ho _ (by omega)).trans HO.out)
    replace HN := Lib.hid h2
    clear h0 ho h2
    generalize (w9.setCell ⟨w.heap.size, 3, none⟩ (.int .u32 (W32 z3))) = w8 at *
    obtain ⟨w9, hw9⟩ : ∃ z, w8 = z := ⟨_, rfl⟩
    rw [hw9] at HA HN HO ⊢
    clear hw9 w8
    rw [rounds_succ]
    have c0 := cell_of_row _ _ 0 _ _ _ HA.out
    have c1 := cell_of_row _ _ 1 _ _ _ HA.out
    have c2 := cell_of_row _ _ 2 _ _ _ HA.out
    have c3 := cell_of_row _ _ 3 _ _ _ HA.out
    have cf := fun i => frozen_of_row _ _ i _ _ HA.out
    go_wp2_with fail
    refine (HJ1.out _).mono ?_
    rintro e w9 ⟨rfl, hn⟩
    replace HA := Lib.hid ((hn.block _ (lt_of_block HA.out)).trans HA.out)
    replace HO := Lib.hid ((hn.block _ (lt_of_block HO.out)).trans HO.out)
    replace HN := Lib.hid (HN.out.trans hn)
    clear hn c0 c1 c2 c3 cf HJ1
    have c0 := cell_of_row _ _ 0 _ _ _ HA.out
    have c1 := cell_of_row _ _ 1 _ _ _ HA.out
    have c2 := cell_of_row _ _ 2 _ _ _ HA.out
    have c3 := cell_of_row _ _ 3 _ _ _ HA.out
    have cf := fun i => frozen_of_row _ _ i _ _ HA.out
    go_simp
    first | go_skip | go_guarded | go_step | go_upon | go_in | go_back
    first | go_skip | go_guarded | go_step | go_upon | go_in | go_back
    first | go_skip | go_guarded | go_step | go_upon | go_in | go_back
    first | go_skip | go_guarded | go_step | go_upon | go_in | go_back
    first | go_skip | go_guarded | go_step | go_upon | go_in | go_back
    first | go_skip | go_guarded | go_step | go_upon | go_in | go_back
    first | go_skip | go_guarded | go_step | go_upon | go_in | go_back
    first | go_skip | go_guarded | go_step | go_upon | go_in | go_back
    have hp := put4h (.int .u32 (W32 j0)) (.int .u32 (W32 j1)) (.int .u32 (W32 j2)) (.int .u32 (W32 j3)) HA.out
    replace HO := Lib.hid ((hp.2.1 _ (by omega)).trans HO.out)
    replace HN := Lib.hid (hp.2.2 _ HN.out (Nat.le_refl _))
    replace HA := Lib.hid hp.1
    clear hp
    generalize (((w9.setCell ⟨w.heap.size, 0, none⟩ (.int .u32 (W32 j0))).setCell ⟨w.heap.size, 1, none⟩ (.int .u32 (W32 j1))).setCell ⟨w.heap.size, 2, none⟩ (.int .u32 (W32 j2))).setCell ⟨w.heap.size, 3, none⟩ (.int .u32 (W32 j3)) = w8 at *
    obtain ⟨w9, hw9⟩ : ∃ z, w8 = z := ⟨_, rfl⟩
    rw [hw9] at HA HO HN ⊢
    clear hw9 w8
    have c0 := cell_of_row _ _ 0 _ _ _ HA.out
    have c1 := cell_of_row _ _ 1 _ _ _ HA.out
    have c2 := cell_of_row _ _ 2 _ _ _ HA.out
    have c3 := cell_of_row _ _ 3 _ _ _ HA.out
    have cf := fun i => frozen_of_row _ _ i _ _ HA.out
    go_wp2_with fail
    clear c0 c1 c2 c3 cf
    refine wp_loop_rounds 5 ?_
    rw [rounds_succ]
    go_wp2_with fail
    refine (HF0.out _).mono ?_
    rintro e w9 ⟨rfl, hn⟩
    replace HA := Lib.hid ((hn.block _ (lt_of_block HA.out)).trans HA.out)
    replace HO := Lib.hid ((hn.block _ (lt_of_block HO.out)).trans HO.out)
    replace HN := Lib.hid (HN.out.trans hn)
    clear hn HF0
    have c0 := cell_of_row _ _ 0 _ _ _ HA.out
    have cf := fun i => frozen_of_row _ _ i _ _ HA.out
    go_wp2_with fail
    clear c0 cf
    have h0 := heap_setCell_same w9 w.heap.size 0 _ _ (.int .u32 (W32 f0)) HA.out
    have ho := fun q (hq : q ≠ w.heap.size) => heap_setCell_other w9 ⟨w.heap.size, 0, none⟩ q (.int .u32 (W32 f0)) hq
    have h2 := (HN.out.setCell (p := ⟨w.heap.size, 0, none⟩) (Nat.le_refl _) (.int .u32 (W32 f0)))
    replace HA := Lib.hid (show ((w9.setCell ⟨w.heap.size, 0, none⟩ (.int .u32 (W32 f0)))).heap[w.heap.size]? = some (.cells #[.int .u32 (W32 f0), .int .u32 (W32 j1), .int .u32 (W32 j2), .int .u32 (W32 j3)] 52 (0, 0)) from h0)
    replace HO := Lib.hid (show ((w9.setCell ⟨w.heap.size, 0, none⟩ (.int .u32 (W32 f0)))).heap[w.heap.size + 1]? = _ from (ho _ (by omega)).trans HO.out)
    replace HN := Lib.hid h2
    clear h0 ho h2
    generalize (w9.setCell ⟨w.heap.size, 0, none⟩ (.int .u32 (W32 f0))) = w8 at *
    obtain ⟨w9, hw9⟩ : ∃ z, w8 = z := ⟨_, rfl⟩
    rw [hw9] at HA HN HO ⊢
    clear hw9 w8
    rw [rounds_succ]
    go_wp2_with fail
    refine (HF1.out _).mono ?_
    rintro e w9 ⟨rfl, hn⟩
    replace HA := Lib.hid ((hn.block _ (lt_of_block HA.out)).trans HA.out)
    replace HO := Lib.hid ((hn.block _ (lt_of_block HO.out)).trans HO.out)
    replace HN := Lib.hid (HN.out.trans hn)
    clear hn HF1
    have c1 := cell_of_row _ _ 1 _ _ _ HA.out
    have cf := fun i => frozen_of_row _ _ i _ _ HA.out
    go_wp2_with fail
    clear c1 cf
    have h0 := heap_setCell_same w9 w.heap.size 1 _ _ (.int .u32 (W32 f1)) HA.out
    have ho := fun q (hq : q ≠ w.heap.size) => heap_setCell_other w9 ⟨w.heap.size, 1, none⟩ q (.int .u32 (W32 f1)) hq
    have h2 := (HN.out.setCell (p := ⟨w.heap.size, 1, none⟩) (Nat.le_refl _) (.int .u32 (W32 f1)))
    replace HA := Lib.hid (show ((w9.setCell ⟨w.heap.size, 1, none⟩ (.int .u32 (W32 f1)))).heap[w.heap.size]? = some (.cells #[.int .u32 (W32 f0), .int .u32 (W32 f1), .int .u32 (W32 j2), .int .u32 (W32 j3)] 52 (0, 0)) from h0)
    replace HO := Lib.hid (show ((w9.setCell ⟨w.heap.size, 1, none⟩ (.int .u32 (W32 f1)))).heap[w.heap.size + 1]? = _ from (ho _ (by omega)).trans HO.out)
    replace HN := Lib.hid h2
    clear h0 ho h2
    generalize (w9.setCell ⟨w.heap.size, 1, none⟩ (.int .u32 (W32 f1))) = w8 at *
    obtain ⟨w9, hw9⟩ : ∃ z, w8 = z := ⟨_, rfl⟩
    rw [hw9] at HA HN HO ⊢
    clear hw9 w8
    rw [rounds_succ]
    go_wp2_with fail
    refine (HF2.out _).mono ?_
    rintro e w9 ⟨rfl, hn⟩
    replace HA := Lib.hid ((hn.block _ (lt_of_block HA.out)).trans HA.out)
    replace HO := Lib.hid ((hn.block _ (lt_of_block HO.out)).trans HO.out)
    replace HN := Lib.hid (HN.out.trans hn)
    clear hn HF2
    have c2 := cell_of_row _ _ 2 _ _ _ HA.out
    have cf := fun i => frozen_of_row _ _ i _ _ HA.out
    go_wp2_with fail
    clear c2 cf
    have h0 := heap_setCell_same w9 w.heap.size 2 _ _ (.int .u32 (W32 f2)) HA.out
    have ho := fun q (hq : q ≠ w.heap.size) => heap_setCell_other w9 ⟨w.heap.size, 2, none⟩ q (.int .u32 (W32 f2)) hq
    have h2 := (HN.out.setCell (p := ⟨w.heap.size, 2, none⟩) (Nat.le_refl _) (.int .u32 (W32 f2)))
    replace HA := Lib.hid (show ((w9.setCell ⟨w.heap.size, 2, none⟩ (.int .u32 (W32 f2)))).heap[w.heap.size]? = some (.cells #[.int .u32 (W32 f0), .int .u32 (W32 f1), .int .u32 (W32 f2), .int .u32 (W32 j3)] 52 (0, 0)) from h0)
    replace HO := Lib.hid (show ((w9.setCell ⟨w.heap.size, 2, none⟩ (.int .u32 (W32 f2)))).heap[w.heap.size + 1]? = _ from (ho _ (by omega)).trans HO.out)
    replace HN := Lib.hid h2
    clear h0 ho h2
    generalize (w9.setCell ⟨w.heap.size, 2, none⟩ (.int .u32 (W32 f2))) = w8 at *
    obtain ⟨w9, hw9⟩ : ∃ z, w8 = z := ⟨_, rfl⟩
    rw [hw9] at HA HN HO ⊢
    clear hw9 w8
    rw [rounds_succ]
    go_wp2_with fail
    refine (HF3.out _).mono ?_
    rintro e w9 ⟨rfl, hn⟩
    replace HA := Lib.hid ((hn.block _ (lt_of_block HA.out)).trans HA.out)
    replace HO := Lib.hid ((hn.block _ (lt_of_block HO.out)).trans HO.out)
    replace HN := Lib.hid (HN.out.trans hn)
    clear hn HF3
    have c3 := cell_of_row _ _ 3 _ _ _ HA.out
    have cf := fun i => frozen_of_row _ _ i _ _ HA.out
    go_wp2_with fail
    clear c3 cf
    have h0 := heap_setCell_same w9 w.heap.size 3 _ _ (.int .u32 (W32 f3)) HA.out
    have ho := fun q (hq : q ≠ w.heap.size) => heap_setCell_other w9 ⟨w.heap.size, 3, none⟩ q (.int .u32 (W32 f3)) hq
    have h2 := (HN.out.setCell (p := ⟨w.heap.size, 3, none⟩) (Nat.le_refl _) (.int .u32 (W32 f3)))
    replace HA := Lib.hid (show ((w9.setCell ⟨w.heap.size, 3, none⟩ (.int .u32 (W32 f3)))).heap[w.heap.size]? = some (.cells #[.int .u32 (W32 f0), .int .u32 (W32 f1), .int .u32 (W32 f2), .int .u32 (W32 f3)] 52 (0, 0)) from h0)
    replace HO := Lib.hid (show ((w9.setCell ⟨w.heap.size, 3, none⟩ (.int .u32 (W32 f3)))).heap[w.heap.size + 1]? = _ from (ho _ (by omega)).trans HO.out)
    replace HN := Lib.hid h2
    clear h0 ho h2
    generalize (w9.setCell ⟨w.heap.size, 3, none⟩ (.int .u32 (W32 f3))) = w8 at *
    obtain ⟨w9, hw9⟩ : ∃ z, w8 = z := ⟨_, rfl⟩
    rw [hw9] at HA HN HO ⊢
    clear hw9 w8
    rw [rounds_succ]
    clear ix0 ix1 ix2 ix3
    have c0 := cell_of_row _ _ 0 _ _ _ HA.out
    have c1 := cell_of_row _ _ 1 _ _ _ HA.out
    have c2 := cell_of_row _ _ 2 _ _ _ HA.out
    have c3 := cell_of_row _ _ 3 _ _ _ HA.out
    have cf := fun i => frozen_of_row _ _ i _ _ HA.out
    go_wp2_with fail
    refine (HJ2.out _).mono ?_
    rintro e w9 ⟨rfl, hn⟩
    replace HO := Lib.hid ((hn.block _ (lt_of_block HO.out)).trans HO.out)
    replace HN := Lib.hid (HN.out.trans hn)
    clear hn HJ2 c0 c1 c2 c3 cf HA
    go_wp2_with fail
    refine (HWD.out _).mono ?_
    rintro e w9 ⟨rfl, hn⟩
    replace HO := Lib.hid ((hn.block _ (lt_of_block HO.out)).trans HO.out)
    replace HN := Lib.hid (HN.out.trans hn)
    clear hn HWD
    replace HO := Lib.hid ((((New.refl w9).alloc (.cells #[.int .u64 (W64 u0), .int .u64 (W64 u1), .int .u64 (W64 u2), .int .u64 (W64 u3)] 38)).block _ (lt_of_block HO.out)).trans HO.out)
    replace HN := Lib.hid (HN.out.alloc (.cells #[.int .u64 (W64 u0), .int .u64 (W64 u1), .int .u64 (W64 u2), .int .u64 (W64 u3)] 38))
    have r0 := cell_of_row _ _ 0 _ _ _ HO.out
    have r1 := cell_of_row _ _ 1 _ _ _ HO.out
    have rf := fun i => frozen_of_row _ _ i _ _ HO.out
    go_simp
    first | go_skip | go_guarded | go_step | go_upon | go_in | go_back
    first | go_skip | go_guarded | go_step | go_upon | go_in | go_back
    first | go_skip | go_guarded | go_step | go_upon | go_in | go_back
    first | go_skip | go_guarded | go_step | go_upon | go_in | go_back
    first | go_skip | go_guarded | go_step | go_upon | go_in | go_back
    first | go_skip | go_guarded | go_step | go_upon | go_in | go_back
    first | go_skip | go_guarded | go_step | go_upon | go_in | go_back
    first | go_skip | go_guarded | go_step | go_upon | go_in | go_back
    first | go_skip | go_guarded | go_step | go_upon | go_in | go_back
    first | go_skip | go_guarded | go_step | go_upon | go_in | go_back
    first | go_skip | go_guarded | go_step | go_upon | go_in | go_back
    first | go_skip | go_guarded | go_step | go_upon | go_in | go_back
    first | go_skip | go_guarded | go_step | go_upon | go_in | go_back
    first | go_skip | go_guarded | go_step | go_upon | go_in | go_back
    first | go_skip | go_guarded | go_step | go_upon | go_in | go_back
    first | go_skip | go_guarded | go_step | go_upon | go_in | go_back
    first | go_skip | go_guarded | go_step | go_upon | go_in | go_back
    first | go_skip | go_guarded | go_step | go_upon | go_in | go_back
    first | go_skip | go_guarded | go_step | go_upon | go_in | go_back
    first | go_skip | go_guarded | go_step | go_upon | go_in | go_back
    first | go_skip | go_guarded | go_step | go_upon | go_in | go_back
    first | go_skip | go_guarded | go_step | go_upon | go_in | go_back
    first | go_skip | go_guarded | go_step | go_upon | go_in | go_back
    first | go_skip | go_guarded | go_step | go_upon | go_in | go_back
    first | go_skip | go_guarded | go_step | go_upon | go_in | go_back
    first | go_skip | go_guarded | go_step | go_upon | go_in | go_back
    first | go_skip | go_guarded | go_step | go_upon | go_in | go_back
    first | go_skip | go_guarded | go_step | go_upon | go_in | go_back
    first | go_skip | go_guarded | go_step | go_upon | go_in | go_back
    first | go_skip | go_guarded | go_step | go_upon | go_in | go_back
    first | go_skip | go_guarded | go_step | go_upon | go_in | go_back
    first | go_skip | go_guarded | go_step | go_upon | go_in | go_back
    first | go_skip | go_guarded | go_step | go_upon | go_in | go_back
    first | go_skip | go_guarded | go_step | go_upon | go_in | go_back
    first | go_skip | go_guarded | go_step | go_upon | go_in | go_back
    first | go_skip | go_guarded | go_step | go_upon | go_in | go_back
    first | go_skip | go_guarded | go_step | go_upon | go_in | go_back
    first | go_skip | go_guarded | go_step | go_upon | go_in | go_back
    first | go_skip | go_guarded | go_step | go_upon | go_in | go_back
    first | go_skip | go_guarded | go_step | go_upon | go_in | go_back
    first | go_skip | go_guarded | go_step | go_upon | go_in | go_back
    first | go_skip | go_guarded | go_step | go_upon | go_in | go_back
    first | go_skip | go_guarded | go_step | go_upon | go_in | go_back
    first | go_skip | go_guarded | go_step | go_upon | go_in | go_back
    first | go_skip | go_guarded | go_step | go_upon | go_in | go_back
    first | go_skip | go_guarded | go_step | go_upon | go_in | go_back
    first | go_skip | go_guarded | go_step | go_upon | go_in | go_back
    first | go_skip | go_guarded | go_step | go_upon | go_in | go_back
    first | go_skip | go_guarded | go_step | go_upon | go_in | go_back
    first | go_skip | go_guarded | go_step | go_upon | go_in | go_back
    first | go_skip | go_guarded | go_step | go_upon | go_in | go_back
    first | go_skip | go_guarded | go_step | go_upon | go_in | go_back
    first | go_skip | go_guarded | go_step | go_upon | go_in | go_back
    first | go_skip | go_guarded | go_step | go_upon | go_in | go_back
    first | go_skip | go_guarded | go_step | go_upon | go_in | go_back
    first | go_skip | go_guarded | go_step | go_upon | go_in | go_back
    first | go_skip | go_guarded | go_step | go_upon | go_in | go_back
    first | go_skip | go_guarded | go_step | go_upon | go_in | go_back
    refine bodyPost_ret (by simp [results, Try.results26, go_sem, r0, r1]; try rfl) rfl ?_
    exact ⟨rfl, ((HN.out.setCell (by show w.heap.size ≤ w.heap.size + 1; omega) _).setCell (by show w.heap.size ≤ w.heap.size + 1; omega) _)⟩
end Go.Proofs.Ytnapogamcohfaaa
