import Derived.Test.YtebcfbcfipmahaaGreatZ3MxD
import Derived.Deep.RegionHeld3
import Derived.Deep.DeepCutAuto
/- madd: the slope. -/
namespace Go.Bv
open Go Go.RowKit
theorem boxes6 (w : World) (A0 A1 A2 A3 A4 A5 : Obj) : (((((((w.alloc A0).alloc A1).alloc A2).alloc A3).alloc A4).alloc A5).heap[w.heap.size]? = some A0 ∧ ((((((w.alloc A0).alloc A1).alloc A2).alloc A3).alloc A4).alloc A5).heap[w.heap.size+ 1]? = some A1 ∧ ((((((w.alloc A0).alloc A1).alloc A2).alloc A3).alloc A4).alloc A5).heap[w.heap.size+ 1+ 1]? = some A2 ∧ ((((((w.alloc A0).alloc A1).alloc A2).alloc A3).alloc A4).alloc A5).heap[w.heap.size+ 1+ 1+ 1]? = some A3 ∧ ((((((w.alloc A0).alloc A1).alloc A2).alloc A3).alloc A4).alloc A5).heap[w.heap.size+ 1+ 1+ 1+ 1]? = some A4 ∧ ((((((w.alloc A0).alloc A1).alloc A2).alloc A3).alloc A4).alloc A5).heap[w.heap.size+ 1+ 1+ 1+ 1+ 1]? = some A5) ∧ New w ((((((w.alloc A0).alloc A1).alloc A2).alloc A3).alloc A4).alloc A5) := by
  have e1 : (w.alloc A0).heap.size = w.heap.size + 1 := by simp
  have e2 : ((w.alloc A0).alloc A1).heap.size = w.heap.size + 1 + 1 := by simp
  have e3 : (((w.alloc A0).alloc A1).alloc A2).heap.size = w.heap.size + 1 + 1 + 1 := by simp
  have e4 : ((((w.alloc A0).alloc A1).alloc A2).alloc A3).heap.size = w.heap.size + 1 + 1 + 1 + 1 := by simp
  have e5 : (((((w.alloc A0).alloc A1).alloc A2).alloc A3).alloc A4).heap.size = w.heap.size + 1 + 1 + 1 + 1 + 1 := by simp
  have e6 : ((((((w.alloc A0).alloc A1).alloc A2).alloc A3).alloc A4).alloc A5).heap.size = w.heap.size + 1 + 1 + 1 + 1 + 1 + 1 := by simp
  exact ⟨⟨(((((((((((((New.refl (w.alloc A0))).alloc A1)).alloc A2)).alloc A3)).alloc A4)).alloc A5)).block _ (by rw [e1]; omega)).trans (heap_alloc_new _ _), (((((((((((New.refl ((w.alloc A0).alloc A1))).alloc A2)).alloc A3)).alloc A4)).alloc A5)).block _ (by rw [e2]; omega)).trans (by rw [← e1]; exact heap_alloc_new _ _), (((((((((New.refl (((w.alloc A0).alloc A1).alloc A2))).alloc A3)).alloc A4)).alloc A5)).block _ (by rw [e3]; omega)).trans (by rw [← e2]; exact heap_alloc_new _ _), (((((((New.refl ((((w.alloc A0).alloc A1).alloc A2).alloc A3))).alloc A4)).alloc A5)).block _ (by rw [e4]; omega)).trans (by rw [← e3]; exact heap_alloc_new _ _), (((((New.refl (((((w.alloc A0).alloc A1).alloc A2).alloc A3).alloc A4))).alloc A5)).block _ (by rw [e5]; omega)).trans (by rw [← e4]; exact heap_alloc_new _ _), (((New.refl ((((((w.alloc A0).alloc A1).alloc A2).alloc A3).alloc A4).alloc A5))).block _ (by rw [e6]; omega)).trans (by rw [← e5]; exact heap_alloc_new _ _)⟩, (((((((New.refl w).alloc A0).alloc A1).alloc A2).alloc A3).alloc A4).alloc A5)⟩
theorem lo_even {k i o : Nat} (hi : i < k) : (loN (2 ^ k * o / 2 ^ i)).toNat % 2 = 0 := by
  have h : 2 ^ k * o / 2 ^ i = 2 * (2 ^ (k - i - 1) * o) := by
    apply Nat.div_eq_of_eq_mul_left (Nat.two_pow_pos _)
    rw [show 2 ^ k = 2 ^ (k - i - 1) * 2 * 2 ^ i by rw [← Nat.pow_succ, ← Nat.pow_add]; congr 1; omega]
    generalize 2 ^ (k - i - 1) = p
    generalize 2 ^ i = q
    ac_rfl
  rw [h]; unfold loN; rw [BitVec.toNat_ofNat]; omega
theorem lo_odd {o : Nat} (h : o % 2 = 1) : (loN o).toNat % 2 = 1 := by unfold loN; rw [BitVec.toNat_ofNat]; omega
theorem run_last (k o : Nat) : 2 ^ k * o / 2 ^ k = o := Nat.mul_div_cancel_left _ (Nat.two_pow_pos _)
end Go.Bv
namespace Go.Proofs.YtebcfbcfipmahaaGreat
open Go Go.RowKit Go.Bv
set_option linter.unusedVariables false
theorem zu_new (w : World) : (w.alloc (.cells #[.int .u64 0, .int .u64 0] 63)).heap[w.heap.size]? = some (.cells #[.int .u64 0, .int .u64 0] 63 (0, 0)) := heap_alloc_new w _
theorem zu_stay {w w' : World} {b : Nat} {o : Obj} (h : w.heap[b]? = some o) (hn : New w w') : w'.heap[b]? = some o := (hn.block _ (lt_of_block h)).trans h
theorem zu_d (w : World) : (w.alloc (.cells #[.int .u64 0, .int .u64 0] 63)).drew.heap[w.heap.size]? = some (.cells #[.int .u64 0, .int .u64 0] 63 (0, 0)) := heap_alloc_new w _
theorem zu_dd (w : World) : (w.drew.alloc (.cells #[.int .u64 0, .int .u64 0] 63)).heap[w.heap.size]? = some (.cells #[.int .u64 0, .int .u64 0] 63 (0, 0)) := heap_alloc_new w.drew _
theorem zu_put {w : World} {b : Nat} (x y : Value) (h : w.heap[b]? = some (.cells #[.int .u64 0, .int .u64 0] 63 (0, 0))) : ((w.setCell ⟨b, 0, none⟩ x).setCell ⟨b, 1, none⟩ y).heap[b]? = some (.cells #[x, y] 63 (0, 0)) := heap_setCell_same _ _ _ _ _ _ (heap_setCell_same _ _ _ _ _ _ h)
theorem zu_put_new {W w : World} {b : Nat} {x y : Value} (hn : New W w) (hb : W.heap.size ≤ b) : New W ((w.setCell ⟨b, 0, none⟩ x).setCell ⟨b, 1, none⟩ y) := (hn.setCell hb _).setCell hb _
set_option maxRecDepth 100000 in
set_option maxHeartbeats 4000000 in
theorem slope_a (A rise wd kd k o : Nat) (hA : A < 2 ^ 128) (hrun : 2 ^ k * o < 2 ^ 128) (ho : o % 2 = 1) (hk : k < 64) (hrise : rise < 2 ^ 128) (hwd : wd ≤ 128) (hkw : k ≤ wd) (w : World) :
    Calls Tryz.prog 131 #[.agg #[.int .i64 (wd : Int), .int .i64 (kd : Int), .int .i64 (kd : Int)], .agg #[.int .u64 (W64 (hiN (A))), .int .u64 (W64 (loN (A)))], .agg #[.int .u64 (W64 (hiN (2 ^ k * o))), .int .u64 (W64 (loN (2 ^ k * o)))], .agg #[.int .u64 (W64 (hiN (rise))), .int .u64 (W64 (loN (rise)))]] w fun e w' => e = .returned (.agg #[.int .u64 (W64 (hiN (slN wd A k (inv2 o) rise))), .int .u64 (W64 (loN (slN wd A k (inv2 o) rise)))]) ∧ New w w' := by
  have ho2 : o < 2 ^ 128 := Nat.lt_of_le_of_lt (Nat.le_mul_of_pos_left o (Nat.two_pow_pos k)) hrun
  have hinv : inv2 o < 2 ^ 128 := Nat.mod_lt _ (Nat.two_pow_pos _)
  have h1 := fun i w => shr_n (2 ^ k * o / 2 ^ i) 1 (Nat.lt_of_le_of_lt (Nat.div_le_self _ _) hrun) (by omega) w
  have hev : ∀ i, i < k → (loN (2 ^ k * o / 2 ^ i) &&& 1#64 == 0#64) = true := fun i hi => by rw [and_zero, lo_even hi]; rfl
  have hod : (loN (2 ^ k * o / 2 ^ k) &&& 1#64 == 0#64) = false := by rw [run_last, and_zero, lo_odd ho]; rfl
  have h2 := odd2_yes o ho2 (lo_odd ho)
  have hM : rise / 2 ^ k < 2 ^ 128 := Nat.lt_of_le_of_lt (Nat.div_le_self _ _) hrise
  have h3 := shr_n rise k hrise (by omega)
  have h4 := times_n (rise / 2 ^ k) (inv2 o) hM hinv
  rw [← hi_mod (rise / 2 ^ k * inv2 o), ← lo_mod (rise / 2 ^ k * inv2 o)] at h4
  have h5 := lowest_a (rise / 2 ^ k * inv2 o % 2 ^ 128) (wd - k) (Nat.mod_lt _ (Nat.two_pow_pos _)) (by omega)
  rw [mod_small (show wd - k ≤ 128 by omega)] at h5
  have h6 := lowest_a A (wd - k) hA (by omega)
  have hL2 : A % 2 ^ (wd - k) ≤ A := Nat.mod_le _ _
  have h7 := sub_a A (A % 2 ^ (wd - k)) hA (by omega)
  rw [← hi_mod (A + 2 ^ 128 - A % 2 ^ (wd - k)), ← lo_mod (A + 2 ^ 128 - A % 2 ^ (wd - k)), show (A + 2 ^ 128 - A % 2 ^ (wd - k)) % 2 ^ 128 = A - A % 2 ^ (wd - k) by omega] at h7
  have hL : rise / 2 ^ k * inv2 o % 2 ^ (wd - k) < 2 ^ 128 := Nat.lt_of_lt_of_le (Nat.mod_lt _ (Nat.two_pow_pos _)) (Nat.pow_le_pow_right (by decide) (by omega))
  have h8 := add_a (rise / 2 ^ k * inv2 o % 2 ^ (wd - k)) (A - A % 2 ^ (wd - k)) hL (by omega)
  rw [show rise / 2 ^ k * inv2 o % 2 ^ (wd - k) + (A - A % 2 ^ (wd - k)) = slN wd A k (inv2 o) rise from rfl] at h8
  rw [show ((wd - k : Nat) : Int) = (wd : Int) - (k : Int) by omega] at h5 h6
  have hw : wrap64 ((wd : Int) - (k : Int)) = (wd : Int) - (k : Int) := by unfold wrap64; omega
  have hw2 : IntKind.i64.wrap ((wd : Int) - (k : Int)) = (wd : Int) - (k : Int) := by first | (rw [IntKind.wrap_i64]; exact hw) | (simp [IntKind.wrap, IntKind.signed, IntKind.bits]; omega)
  generalize slN wd A k (inv2 o) rise = R at *
  generalize A - A % 2 ^ (wd - k) = L3 at *
  generalize A % 2 ^ (wd - k) = L2 at *
  generalize rise / 2 ^ k * inv2 o % 2 ^ (wd - k) = L at *
  generalize rise / 2 ^ k * inv2 o % 2 ^ 128 = M2 at *
  generalize rise / 2 ^ k = M1 at *
  generalize inv2 o = iv at *
  have hrun0 : 2 ^ k * o / 2 ^ 0 = 2 ^ k * o := by rw [Nat.pow_zero, Nat.div_one]
  have hrunk := run_last k o
  have hnext : ∀ i, 2 ^ k * o / 2 ^ i / 2 ^ 1 = 2 ^ k * o / 2 ^ (i + 1) := fun i => by rw [Nat.div_div_eq_div_mul, ← Nat.pow_add]
  obtain ⟨g, hg⟩ : ∃ g : Nat → Nat, (fun i => 2 ^ k * o / 2 ^ i) = g := ⟨_, rfl⟩
  have hge : ∀ i, 2 ^ k * o / 2 ^ i = g i := fun i => congrFun hg i
  simp only [hge] at h1 hev hod hrunk hnext hrun0
  obtain ⟨run, hrr⟩ : ∃ run, 2 ^ k * o = run := ⟨_, rfl⟩
  rw [hrr] at hrun0 ⊢
  have h1b : ∀ i w, Calls Tryz.prog 128 #[.agg #[.int .u64 (W64 (hiN (g i))), .int .u64 (W64 (loN (g i)))], .int .i64 1] w fun e w' => e = .returned (.agg #[.int .u64 (W64 (hiN (g (i + 1)))), .int .u64 (W64 (loN (g (i + 1))))]) ∧ New w w' := fun i w => by rw [← hnext]; exact h1 i w
  rw [← hrunk] at h2
  have H1 := Lib.hid h1b
  have H2 := Lib.hid h2
  have H3 := Lib.hid h3
  have H4 := Lib.hid h4
  have H5 := Lib.hid h5
  have H6 := Lib.hid h6
  have H7 := Lib.hid h7
  have H8 := Lib.hid h8
  have HEV := Lib.hid hev
  have HOD := Lib.hid hod
  have HR0 := Lib.hid hrun0
  clear h1 h1b h2 h3 h4 h5 h6 h7 h8 hev hod hrun0 hrunk hnext hg hge hrr hM hL hL2 hrise hinv ho ho2 hrun hA hkw
  obtain ⟨hbl, HNN⟩ := boxes6 w (.cells #[.int .i64 (wd : Int), .int .i64 (kd : Int), .int .i64 (kd : Int)] 133) (.cells #[.int .u64 (W64 (hiN (A))), .int .u64 (W64 (loN (A)))] 63) (.cells #[.int .u64 (W64 (hiN (run))), .int .u64 (W64 (loN (run)))] 63) (.cells #[.int .u64 (W64 (hiN (rise))), .int .u64 (W64 (loN (rise)))] 63) (.cells #[.int .u64 0, .int .u64 0] 63) (.cells #[.int .u64 (W64 (hiN (run))), .int .u64 (W64 (loN (run)))] 63)
  obtain ⟨hb0, hb1, hb2, hb3, hb4, hb5⟩ := hbl
  have HN := Lib.hid HNN
  obtain ⟨w0, hw0⟩ : ∃ w0, (((((((((((w.alloc (.cells #[.int .i64 (wd : Int), .int .i64 (kd : Int), .int .i64 (kd : Int)] 133))).alloc (.cells #[.int .u64 (W64 (hiN (A))), .int .u64 (W64 (loN (A)))] 63))).alloc (.cells #[.int .u64 (W64 (hiN (run))), .int .u64 (W64 (loN (run)))] 63))).alloc (.cells #[.int .u64 (W64 (hiN (rise))), .int .u64 (W64 (loN (rise)))] 63))).alloc (.cells #[.int .u64 0, .int .u64 0] 63))).alloc (.cells #[.int .u64 (W64 (hiN (run))), .int .u64 (W64 (loN (run)))] 63)) = w0 := ⟨_, rfl⟩
  rw [hw0] at HN hb0 hb1 hb2 hb3 hb4 hb5
  have HW0 := Lib.hid hw0
  have HB0 := Lib.hid hb0
  have HB1 := Lib.hid hb1
  have HB2 := Lib.hid hb2
  have HB3 := Lib.hid hb3
  have HB4 := Lib.hid hb4
  have HB5 := Lib.hid hb5
  clear hw0 HNN hb0 hb1 hb2 hb3 hb4 hb5
  have r0 := cell_of_row _ _ 0 _ _ _ HB2.out
  have r1 := cell_of_row _ _ 1 _ _ _ HB2.out
  go_enter Tryz.func131, Tryz.ntmps131
  go_wp2_with fail
  rw [HW0.out]
  clear HW0 r0 r1
  go_loopw [10] (fun sv wr => ∃ i : Nat, i ≤ k ∧ sv = .int .i64 (i : Int) ∧ wr.heap[w.heap.size + 1 + 1 + 1 + 1 + 1]? = some (.cells #[.int .u64 (W64 (hiN (g i))), .int .u64 (W64 (loN (g i)))] 63 (0, 0)) ∧ wr.heap[w.heap.size]? = some (.cells #[.int .i64 (wd : Int), .int .i64 (kd : Int), .int .i64 (kd : Int)] 133 (0, 0)) ∧ wr.heap[w.heap.size + 1]? = some (.cells #[.int .u64 (W64 (hiN (A))), .int .u64 (W64 (loN (A)))] 63 (0, 0)) ∧ wr.heap[w.heap.size + 1 + 1 + 1]? = some (.cells #[.int .u64 (W64 (hiN (rise))), .int .u64 (W64 (loN (rise)))] 63 (0, 0)) ∧ wr.heap[w.heap.size + 1 + 1 + 1 + 1]? = some (.cells #[.int .u64 0, .int .u64 0] 63 (0, 0)) ∧ New w wr) (fun sv _ => k - (intOf sv).toNat)
  case atStart => exact ⟨0, Nat.zero_le _, rfl, by rw [HR0.out]; exact HB5.out, HB0.out, HB1.out, HB3.out, HB4.out, HN.out⟩
  case round =>
    clear HB0 HB1 HB2 HB3 HB4 HB5 HN
    obtain ⟨i, hi, rfl, hb5, hb0, hb1, hb3, hb4, hnew⟩ := hrel
    obtain ⟨wq, hwq⟩ : ∃ z, z = wr := ⟨_, rfl⟩
    rw [← hwq] at hb5 hb0 hb1 hb3 hb4 hnew ⊢
    clear hwq
    have HB5 := Lib.hid hb5
    have HB0 := Lib.hid hb0
    have HB1 := Lib.hid hb1
    have HB3 := Lib.hid hb3
    have HB4 := Lib.hid hb4
    have HN := Lib.hid hnew
    clear hb5 hb0 hb1 hb3 hb4 hnew
    have x0 := cell_of_row _ _ 0 _ _ _ HB5.out
    have x1 := cell_of_row _ _ 1 _ _ _ HB5.out
    by_cases hlt : i < k
    · have he := HEV.out i hlt
      have H1i := Lib.hid (H1.out i)
      go_wp2_with fail
      refine (H1i.out _).mono ?_
      rintro e w2 ⟨rfl, hn⟩
      have hx := zu_stay HB5.out hn
      have y0 := cell_of_row _ _ 0 _ _ _ hx
      have y1 := cell_of_row _ _ 1 _ _ _ hx
      have yf : ∀ j, w2.frozen? ⟨w.heap.size + 1 + 1 + 1 + 1 + 1, j, none⟩ = false := fun j => frozen_of_row _ _ j _ _ hx
      have HX := Lib.hid hx
      have HN2 := Lib.hid hn
      clear hx hn x0 x1 he H1i
      go_wp2
      refine ⟨⟨i + 1, by omega, by go_num, heap_setCell_same _ _ _ _ _ _ (heap_setCell_same _ _ _ _ _ _ HX.out), ?_, ?_, ?_, ?_, ?_⟩, by simp [intOf] <;> omega⟩
      · exact (heap_setCell_other _ _ _ _ (by simp; try omega)).trans ((heap_setCell_other _ _ _ _ (by simp; try omega)).trans (zu_stay HB0.out HN2.out))
      · exact (heap_setCell_other _ _ _ _ (by simp; try omega)).trans ((heap_setCell_other _ _ _ _ (by simp; try omega)).trans (zu_stay HB1.out HN2.out))
      · exact (heap_setCell_other _ _ _ _ (by simp; try omega)).trans ((heap_setCell_other _ _ _ _ (by simp; try omega)).trans (zu_stay HB3.out HN2.out))
      · exact (heap_setCell_other _ _ _ _ (by simp; try omega)).trans ((heap_setCell_other _ _ _ _ (by simp; try omega)).trans (zu_stay HB4.out HN2.out))
      · exact ((HN.out.trans HN2.out).setCell (by simp; try omega) _).setCell (by simp; try omega) _
    · obtain rfl : i = k := by omega
      have he := HOD.out
      go_wp2_with fail
      refine (H2.out _).mono ?_
      rintro e w8 ⟨rfl, hn⟩
      replace HN := Lib.hid (HN.out.trans hn)
      replace HB0 := Lib.hid (zu_stay HB0.out hn)
      replace HB1 := Lib.hid (zu_stay HB1.out hn)
      replace HB3 := Lib.hid (zu_stay HB3.out hn)
      replace HB4 := Lib.hid (zu_stay HB4.out hn)
      clear hn x0 x1 he H1 HEV HOD HR0 HB5 H2
      have hx := heap_alloc_new w8 (.cells #[.int .u64 (W64 (hiN iv)), .int .u64 (W64 (loN iv))] 63)
      have hn2 := (New.refl w8).alloc (.cells #[.int .u64 (W64 (hiN iv)), .int .u64 (W64 (loN iv))] 63)
      obtain ⟨wb7, hw2⟩ : ∃ w2, w8.alloc (.cells #[.int .u64 (W64 (hiN iv)), .int .u64 (W64 (loN iv))] 63) = w2 := ⟨_, rfl⟩
      rw [hw2] at hx hn2
      obtain ⟨q7, hq⟩ : ∃ q, w8.heap.size = q := ⟨_, rfl⟩
      rw [hq] at hx
      have HX7 := Lib.hid hx
      replace HN := Lib.hid (HN.out.trans hn2)
      have HM7 := Lib.hid hn2
      have HE7 := Lib.hid (show w8.alloc (.cells #[.int .u64 (W64 (hiN iv)), .int .u64 (W64 (loN iv))] 63) = wb7 ∧ w8.heap.size = q7 from ⟨hw2, hq⟩)
      clear hx hn2 hw2 hq
      replace HB0 := Lib.hid (zu_stay HB0.out HM7.out)
      replace HB1 := Lib.hid (zu_stay HB1.out HM7.out)
      replace HB3 := Lib.hid (zu_stay HB3.out HM7.out)
      replace HB4 := Lib.hid (zu_stay HB4.out HM7.out)
      go_wp2_with fail
      rw [HE7.out.1, HE7.out.2]
      clear HE7 HM7
      have SK : Hid (∀ w', New wb7 w' → New wb7 w' ∧ w'.cell? ⟨w.heap.size + 1 + 1 + 1, 0, none⟩ = some (.int .u64 (W64 (hiN (rise)))) ∧ w'.cell? ⟨w.heap.size + 1 + 1 + 1, 1, none⟩ = some (.int .u64 (W64 (loN (rise)))) ∧ w'.cell? ⟨q7, 0, none⟩ = some (.int .u64 (W64 (hiN (iv)))) ∧ w'.cell? ⟨q7, 1, none⟩ = some (.int .u64 (W64 (loN (iv)))) ∧ w'.cell? ⟨w.heap.size, 0, none⟩ = some (.int .i64 (wd : Int))) := Lib.hid (fun w' hn => ⟨hn, cell_of_row _ _ 0 _ _ _ (zu_stay HB3.out hn), cell_of_row _ _ 1 _ _ _ (zu_stay HB3.out hn), cell_of_row _ _ 0 _ _ _ (zu_stay HX7.out hn), cell_of_row _ _ 1 _ _ _ (zu_stay HX7.out hn), cell_of_row _ _ 0 _ _ _ (zu_stay HB0.out hn)⟩)
      obtain ⟨_, ce0, ce1, ce2, ce3, ce4⟩ := SK.out wb7 (New.refl _)
      go_cut [13] (fun p wx => ∃ b, p = .pointer (some ⟨b, 0, none⟩) ∧ wx.heap[b]? = some (.cells #[.int .u64 (W64 (hiN (L))), .int .u64 (W64 (loN (L)))] 63 (0, 0)) ∧ wb7.heap.size ≤ b ∧ New wb7 wx)
      case first =>
        go_region_held3 (fun w' => New wb7 w' ∧ w'.cell? ⟨w.heap.size + 1 + 1 + 1, 0, none⟩ = some (.int .u64 (W64 (hiN (rise)))) ∧ w'.cell? ⟨w.heap.size + 1 + 1 + 1, 1, none⟩ = some (.int .u64 (W64 (loN (rise)))) ∧ w'.cell? ⟨q7, 0, none⟩ = some (.int .u64 (W64 (hiN (iv)))) ∧ w'.cell? ⟨q7, 1, none⟩ = some (.int .u64 (W64 (loN (iv)))) ∧ w'.cell? ⟨w.heap.size, 0, none⟩ = some (.int .i64 (wd : Int)))
          ((refine SK.out _ ?_; first | with_reducible assumption | with_reducible exact (New.refl _).drew | with_reducible exact New.drew (by assumption) | with_reducible exact New.alloc (by assumption) _ | with_reducible exact (New.refl _).drew.alloc _ | with_reducible exact ((New.refl _).alloc _).drew | with_reducible exact zu_put_new (by assumption) (by assumption) | with_reducible exact (zu_put_new (by assumption) (by assumption)).drew))
          (first
          | (go_at_call 128
             refine (H3.out _).mono ?_
             rintro e q0 ⟨rfl, hc0⟩
             first
             | (have hg0 : New wb7 q0 := by first | with_reducible exact (New.refl wb7).drew.trans hc0 | with_reducible exact hc0)
             | (have hz0 : q0.heap[wb7.heap.size]? = some (.cells #[.int .u64 0, .int .u64 0] 63 (0, 0)) := by first | with_reducible exact zu_stay (zu_d wb7) hc0 | with_reducible exact zu_stay (zu_dd wb7) hc0
                have hg0 : New wb7 q0 := by first | with_reducible exact ((New.refl wb7).alloc _).drew.trans hc0 | with_reducible exact ((New.refl wb7).drew.alloc _).trans hc0
                have hzg : wb7.heap.size ≤ wb7.heap.size := Nat.le_refl _
                have HZ := Lib.hid hz0
                clear hz0)
             clear hc0)
          | (go_at_call 134
             refine (H4.out _).mono ?_
             rintro e q1 ⟨rfl, hc1⟩
             first
             | (have hg1 : New wb7 q1 := by first | with_reducible exact hg0.trans hc1 | with_reducible exact hg0.drew.trans hc1
                first
                | (have hz1 := by first | with_reducible exact zu_stay HZ.out hc1 | with_reducible exact zu_stay (zu_stay HZ.out (New.refl _).drew) hc1
                   have HZ := Lib.hid hz1
                   clear hz1)
                | skip)
             | (have hg1 : New wb7 q1 := by with_reducible exact (hg0.alloc _).trans hc1
                have hz1 : q1.heap[q0.heap.size]? = some (.cells #[.int .u64 0, .int .u64 0] 63 (0, 0)) := by with_reducible exact zu_stay (zu_new q0) hc1
                have hzg : wb7.heap.size ≤ q0.heap.size := hg0.le
                have HZ := Lib.hid hz1
                clear hz1)
             clear hc1)
          | (go_at_call 156
             refine (H5.out _).mono ?_
             rintro e q2 ⟨rfl, hc2⟩
             first
             | (have hg2 : New wb7 q2 := by first | with_reducible exact hg1.trans hc2 | with_reducible exact hg1.drew.trans hc2
                first
                | (have hz2 := by first | with_reducible exact zu_stay HZ.out hc2 | with_reducible exact zu_stay (zu_stay HZ.out (New.refl _).drew) hc2
                   have z0 := cell_of_row _ _ 0 _ _ _ hz2
                   have z1 := cell_of_row _ _ 1 _ _ _ hz2
                   have zf := fun i => frozen_of_row _ _ i _ _ hz2
                   have HZ := Lib.hid hz2
                   clear hz2)
                | skip)
             | (have hg2 : New wb7 q2 := by with_reducible exact (hg1.alloc _).trans hc2
                have hz2 : q2.heap[q1.heap.size]? = some (.cells #[.int .u64 0, .int .u64 0] 63 (0, 0)) := by with_reducible exact zu_stay (zu_new q1) hc2
                have hzg : wb7.heap.size ≤ q1.heap.size := hg1.le
                have z0 := cell_of_row _ _ 0 _ _ _ hz2
                have z1 := cell_of_row _ _ 1 _ _ _ hz2
                have zf := fun i => frozen_of_row _ _ i _ _ hz2
                have HZ := Lib.hid hz2
                clear hz2)
             clear hc2))
        all_goals (
          go_wp2_with fail
          go_meet
          case rel => first
            | exact ⟨_, rfl, heap_alloc_new q2 _, hg2.le, hg2.alloc _⟩
            | exact ⟨_, rfl, zu_put _ _ HZ.out, hzg, zu_put_new hg2 hzg⟩
            | exact ⟨_, rfl, zu_stay (zu_put _ _ HZ.out) (New.refl _).drew, hzg, (zu_put_new hg2 hzg).drew⟩)
      case rest =>
        obtain ⟨b9, rfl, hb9, hle9, hc9⟩ := hcut
        have HB9 := Lib.hid hb9
        have HC := Lib.hid hc9
        have HLE9 := Lib.hid hle9
        clear hb9 hc9 hle9 SK ce0 ce1 ce2 ce3 ce4
        have HNE : Hid (b9 ≠ w.heap.size + 1 + 1 + 1 + 1) := Lib.hid (by have h1 := lt_of_block HB4.out; have h2 := HLE9.out; omega)
        replace HN := Lib.hid (HN.out.trans HC.out)
        replace HB0 := Lib.hid (zu_stay HB0.out HC.out)
        replace HB1 := Lib.hid (zu_stay HB1.out HC.out)
        replace HB4 := Lib.hid (zu_stay HB4.out HC.out)
        clear HC HLE9 HX7 HB3 H3 H4 H5
        go_wp2_with fail
        refine Grow.wp_region_growS (fun w' => (w'.heap[b9]? = some (.cells #[.int .u64 (W64 (hiN (L))), .int .u64 (W64 (loN (L)))] 63 (0, 0)) ∧ w'.heap[w.heap.size + 1]? = some (.cells #[.int .u64 (W64 (hiN (A))), .int .u64 (W64 (loN (A)))] 63 (0, 0)) ∧ w'.heap[w.heap.size]? = some (.cells #[.int .i64 (wd : Int), .int .i64 (kd : Int), .int .i64 (kd : Int)] 133 (0, 0)) ∧ (∃ u v, w'.heap[w.heap.size + 1 + 1 + 1 + 1]? = some (.cells #[u, v] 63 (0, 0)))) ∧ New w w') (fun k => [7, 8, 9, 10].contains k) (by kernel_rfl) (by kernel_rfl) (by kernel_rfl) ⟨⟨HB9.out, HB1.out, HB0.out, ⟨_, _, HB4.out⟩⟩, HN.out.drew⟩ ?_
        intro I _ f hall hback
        have HALL := Lib.hid hall
        have HSTEP : Hid (∀ n w', New (f n) w' → ∃ m, w' = f m) := Lib.hid fun n w' hn => hback w' ⟨⟨zu_stay (hall n).1.1 hn, zu_stay (hall n).1.2.1 hn, zu_stay (hall n).1.2.2.1 hn, (by obtain ⟨u, v, h⟩ := (hall n).1.2.2.2; exact ⟨u, v, zu_stay h hn⟩)⟩, (hall n).2.trans hn⟩
        have HBACK := Lib.hid hback
        have s0 := fun n => cell_of_row _ _ 0 _ _ _ (hall n).1.1
        have s1 := fun n => cell_of_row _ _ 1 _ _ _ (hall n).1.1
        have s2 := fun n => cell_of_row _ _ 0 _ _ _ (hall n).1.2.1
        have s3 := fun n => cell_of_row _ _ 1 _ _ _ (hall n).1.2.1
        have s4 := fun n => cell_of_row _ _ 0 _ _ _ (hall n).1.2.2.1
        have s5 := fun n => cell_of_row _ _ 1 _ _ _ (hall n).1.2.2.1
        have s6 := fun n => cell_of_row _ _ 2 _ _ _ (hall n).1.2.2.1
        clear hall hback
        refine Grow.wpGrow_take 7 (by kernel_rfl) ?_
        simp only [List.take, List.drop, List.length]
        repeat (go_big_quiet_step (fail))
        refine wpQuiet_nil ?_
        refine Grow.wpGrow_one (.agg #[.int .u64 (W64 (hiN (L2))), .int .u64 (W64 (loN (L2)))]) rfl rfl (fun w1 hB hG => ?_) (fun A4 hA => ?_)
        · obtain ⟨n, rfl⟩ := hB
          go_simp
          refine (H6.out _).mono ?_
          rintro e w2 ⟨rfl, hn⟩
          first | exact ⟨_, rfl, HSTEP.out _ _ hn, rfl⟩ | exact ⟨rfl, HSTEP.out _ _ hn⟩ | exact ⟨_, rfl, HSTEP.out _ _ hn, rfl, hG⟩
        simp [Act.put] at hA
        subst hA
        refine Grow.wpGrow_one (.agg #[.int .u64 (W64 (hiN (L3))), .int .u64 (W64 (loN (L3)))]) rfl rfl (fun w1 hB hG => ?_) (fun A4 hA => ?_)
        · obtain ⟨n, rfl⟩ := hB
          go_simp
          refine (H7.out _).mono ?_
          rintro e w2 ⟨rfl, hn⟩
          first | exact ⟨_, rfl, HSTEP.out _ _ hn, rfl⟩ | exact ⟨rfl, HSTEP.out _ _ hn⟩ | exact ⟨_, rfl, HSTEP.out _ _ hn, rfl, hG⟩
        simp [Act.put] at hA
        subst hA
        refine Grow.wpGrow_one (.agg #[.int .u64 (W64 (hiN (R))), .int .u64 (W64 (loN (R)))]) rfl rfl (fun w1 hB hG => ?_) (fun A4 hA => ?_)
        · obtain ⟨n, rfl⟩ := hB
          go_simp
          refine (H8.out _).mono ?_
          rintro e w2 ⟨rfl, hn⟩
          first | exact ⟨_, rfl, HSTEP.out _ _ hn, rfl⟩ | exact ⟨rfl, HSTEP.out _ _ hn⟩ | exact ⟨_, rfl, HSTEP.out _ _ hn, rfl, hG⟩
        simp [Act.put] at hA
        subst hA
        refine Grow.wpGrow_turn (fun v => v = undef) (fun _ w9 => w9.heap[w.heap.size + 1 + 1 + 1 + 1]? = some (.cells #[.int .u64 (W64 (hiN (R))), .int .u64 (W64 (loN (R)))] 63 (0, 0))) rfl rfl ⟨_, rfl⟩ (fun w1 hB hG => ?_) (fun v7 A7 hv7 hA => ?_)
        · obtain ⟨n, rfl⟩ := hB
          obtain ⟨⟨hb0, hb1, hb2, ⟨u0, v0, hr0⟩⟩, hnw⟩ := HALL.out n
          have hc0 := cell_of_row _ _ 0 _ _ _ hr0
          have hc1 := cell_of_row _ _ 1 _ _ _ hr0
          have hfr := fun i => frozen_of_row _ _ i _ _ hr0
          have HP := Lib.hid (put_two (.int .u64 (W64 (hiN R))) (.int .u64 (W64 (loN R))) hr0)
          have Hhb0 := Lib.hid hb0
          have Hhb1 := Lib.hid hb1
          have Hhb2 := Lib.hid hb2
          have HNW := Lib.hid hnw
          clear hb0 hb1 hb2 hr0 hnw
          go_simp
          exact ⟨HBACK.out _ ⟨⟨(HP.out.2 _ (HNE.out)).trans Hhb0.out, (HP.out.2 _ (by omega)).trans Hhb1.out, (HP.out.2 _ (by omega)).trans Hhb2.out, ⟨_, _, HP.out.1⟩⟩, (HNW.out.setCell (by show w.heap.size ≤ w.heap.size + 1 + 1 + 1 + 1; omega) _).setCell (by show w.heap.size ≤ w.heap.size + 1 + 1 + 1 + 1; omega) _⟩, HP.out.1⟩
        simp [Act.put] at hA
        subst hA
        refine Grow.wpGrow_nil ?_
        rintro w9 ⟨n9, rfl⟩ hG
        have HN9 := Lib.hid (HALL.out n9).2
        have k0 := cell_of_row _ _ 0 _ _ _ hG
        have k1 := cell_of_row _ _ 1 _ _ _ hG
        clear HALL HSTEP HBACK s0 s1 s2 s3 s4 s5 s6 hG
        generalize f n9 = w9 at *
        go_wp2
        refine bodyPost_ret (by simp [results, Tryz.results131, go_sem, k0, k1]; try rfl) rfl ?_
        exact ⟨rfl, HN9.out⟩
end Go.Proofs.YtebcfbcfipmahaaGreat
