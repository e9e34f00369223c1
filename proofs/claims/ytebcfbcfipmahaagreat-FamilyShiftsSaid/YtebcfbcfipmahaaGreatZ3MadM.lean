import Derived.Test.YtebcfbcfipmahaaGreatZ3MadL
import Derived.Test.YtebcfbcfipmahaaGreatZ3PolC
/- Contracts of layer 21: Shift where it is right. -/
namespace Go.Proofs.YtebcfbcfipmahaaGreat
open Go Go.RowKit Go.Bv
set_option linter.unusedVariables false
set_option maxRecDepth 100000 in
set_option maxHeartbeats 8000000 in
theorem madshift_ok (A B wd kd j k o : Nat) (hA : A < 2 ^ wd) (hB : B < 2 ^ wd) (hwd : wd ≤ 128) (hj : j ≤ wd) (hkd : kd ≤ 64) (hkw : kd ≤ wd) (x y u v : BitVec 64) (hrun : dfN x.toNat y.toNat = 2 ^ k * o) (ho : o % 2 = 1) (hk : k < kd) (hu : u.toNat < 2 ^ j) (hv : v.toNat < 2 ^ j) (hxy : (x == y) = false) (kind : Int) (HC : Hid (∀ w : World, Calls Tryz.prog 125 #[.int .i64 kind, .int .i64 (j : Int), .agg #[.int .u64 (W64 (hiN (A))), .int .u64 (W64 (loN (A)))], .agg #[.int .u64 (W64 (hiN (B))), .int .u64 (W64 (loN (B)))]] w fun e w' => e = .returned (.int .i64 0) ∧ New w w')) (HS : Hid (∀ w : World, Calls Tryz.prog 126 #[.int .i64 kind] w fun e w' => e = .returned (.tuple #[.agg #[.int .i64 (wd : Int), .int .i64 (kd : Int), .int .i64 (kd : Int)], .bool true]) ∧ New w w')) (F1 : Hid (∀ w : World, Calls Tryz.prog 127 #[.int .u64 (W64 x), .int .i64 (kd : Int)] w fun e w' => e = .returned (.bool true) ∧ New w w')) (F2 : Hid (∀ w : World, Calls Tryz.prog 127 #[.int .u64 (W64 y), .int .i64 (kd : Int)] w fun e w' => e = .returned (.bool true) ∧ New w w')) (F3 : Hid (∀ w : World, Calls Tryz.prog 127 #[.int .u64 (W64 u), .int .i64 (j : Int)] w fun e w' => e = .returned (.bool true) ∧ New w w')) (F4 : Hid (∀ w : World, Calls Tryz.prog 127 #[.int .u64 (W64 v), .int .i64 (j : Int)] w fun e w' => e = .returned (.bool true) ∧ New w w')) (w : World) :
    Calls Tryz.prog 87 #[.int .i64 kind, .int .i64 (j : Int), .agg #[.int .u64 (W64 (hiN (A))), .int .u64 (W64 (loN (A)))], .agg #[.int .u64 (W64 (hiN (B))), .int .u64 (W64 (loN (B)))], .int .u64 (W64 x), .int .u64 (W64 y), .int .u64 (W64 u), .int .u64 (W64 v)] w fun e w' => e = .returned (.tuple #[.agg #[.int .u64 (W64 (hiN (slN wd A k (inv2 o) (dfN (hdN wd j (lnN wd A B x.toNat) u.toNat) (hdN wd j (lnN wd A B y.toNat) v.toNat))))), .int .u64 (W64 (loN (slN wd A k (inv2 o) (dfN (hdN wd j (lnN wd A B x.toNat) u.toNat) (hdN wd j (lnN wd A B y.toNat) v.toNat)))))], .agg #[.int .u64 (W64 (hiN (adN wd (hdN wd j (lnN wd A B x.toNat) u.toNat) (slN wd A k (inv2 o) (dfN (hdN wd j (lnN wd A B x.toNat) u.toNat) (hdN wd j (lnN wd A B y.toNat) v.toNat))) x.toNat))), .int .u64 (W64 (loN (adN wd (hdN wd j (lnN wd A B x.toNat) u.toNat) (slN wd A k (inv2 o) (dfN (hdN wd j (lnN wd A B x.toNat) u.toNat) (hdN wd j (lnN wd A B y.toNat) v.toNat))) x.toNat)))], .int .i64 0]) ∧ New w w' := by
  have hP : 2 ^ wd ≤ 2 ^ 128 := Nat.pow_le_pow_right (by decide) hwd
  have hA2 : A < 2 ^ 128 := by omega
  have hB2 : B < 2 ^ 128 := by omega
  have hlx := ln_lt wd A B x.toNat
  have hly := ln_lt wd A B y.toNat
  have hhx := hd_lt (n := lnN wd A B x.toNat) hj hu
  have hhy := hd_lt (n := lnN wd A B y.toNat) hj hv
  have hux : u.toNat * 2 ^ (wd - j) % 2 ^ 128 = u.toNat * 2 ^ (wd - j) := Nat.mod_eq_of_lt (by unfold hdN at hhx; omega)
  have hvy : v.toNat * 2 ^ (wd - j) % 2 ^ 128 = v.toNat * 2 ^ (wd - j) := Nat.mod_eq_of_lt (by unfold hdN at hhy; omega)
  have h1 := sum_a A B wd kd x hA2 hB2 hwd
  rw [show (A * x.toNat + B) % 2 ^ wd = lnN wd A B x.toNat from rfl] at h1
  have h2 := headed_a (lnN wd A B x.toNat) wd kd j u (by omega) hwd hj
  rw [hux, show lnN wd A B x.toNat % 2 ^ (wd - j) + u.toNat * 2 ^ (wd - j) = hdN wd j (lnN wd A B x.toNat) u.toNat from rfl] at h2
  have h3 := sum_a A B wd kd y hA2 hB2 hwd
  rw [show (A * y.toNat + B) % 2 ^ wd = lnN wd A B y.toNat from rfl] at h3
  have h4 := headed_a (lnN wd A B y.toNat) wd kd j v (by omega) hwd hj
  rw [hvy, show lnN wd A B y.toNat % 2 ^ (wd - j) + v.toNat * 2 ^ (wd - j) = hdN wd j (lnN wd A B y.toNat) v.toNat from rfl] at h4
  have hx128 : x.toNat < 2 ^ 128 := by have := x.isLt; omega
  have hy128 : y.toNat < 2 ^ 128 := by have := y.isLt; omega
  have h5 := sub_a x.toNat y.toNat hx128 hy128
  rw [← hi_mod (x.toNat + 2 ^ 128 - y.toNat), ← lo_mod (x.toNat + 2 ^ 128 - y.toNat), show (x.toNat + 2 ^ 128 - y.toNat) % 2 ^ 128 = dfN x.toNat y.toNat from rfl, hrun, hi_word, lo_word, hi_word, lo_word] at h5
  have h6 := sub_a (hdN wd j (lnN wd A B x.toNat) u.toNat) (hdN wd j (lnN wd A B y.toNat) v.toNat) (by omega) (by omega)
  rw [← hi_mod (hdN wd j (lnN wd A B x.toNat) u.toNat + 2 ^ 128 - hdN wd j (lnN wd A B y.toNat) v.toNat), ← lo_mod (hdN wd j (lnN wd A B x.toNat) u.toNat + 2 ^ 128 - hdN wd j (lnN wd A B y.toNat) v.toNat), show (hdN wd j (lnN wd A B x.toNat) u.toNat + 2 ^ 128 - hdN wd j (lnN wd A B y.toNat) v.toNat) % 2 ^ 128 = dfN (hdN wd j (lnN wd A B x.toNat) u.toNat) (hdN wd j (lnN wd A B y.toNat) v.toNat) from rfl] at h6
  have hrl := df_lt x.toNat y.toNat
  rw [hrun] at hrl
  have hri := df_lt (hdN wd j (lnN wd A B x.toNat) u.toNat) (hdN wd j (lnN wd A B y.toNat) v.toNat)
  have h7 := slope_a A (dfN (hdN wd j (lnN wd A B x.toNat) u.toNat) (hdN wd j (lnN wd A B y.toNat) v.toNat)) wd kd k o hA2 hrl ho (by omega) hri hwd (by omega)
  have hal := sl_lt A k (inv2 o) (dfN (hdN wd j (lnN wd A B x.toNat) u.toNat) (hdN wd j (lnN wd A B y.toNat) v.toNat)) (show k ≤ wd by omega) hA
  generalize dfN (hdN wd j (lnN wd A B x.toNat) u.toNat) (hdN wd j (lnN wd A B y.toNat) v.toNat) = rise at *
  generalize slN wd A k (inv2 o) rise = a2 at *
  generalize hdN wd j (lnN wd A B x.toNat) u.toNat = HX at *
  generalize hdN wd j (lnN wd A B y.toNat) v.toNat = HY at *
  have h8 := times_n a2 x.toNat (by omega) hx128
  rw [← hi_mod (a2 * x.toNat), ← lo_mod (a2 * x.toNat), hi_word, lo_word] at h8
  have h9 := sub_a HX (a2 * x.toNat % 2 ^ 128) (by omega) (Nat.mod_lt _ (Nat.two_pow_pos _))
  rw [← hi_mod (HX + 2 ^ 128 - a2 * x.toNat % 2 ^ 128), ← lo_mod (HX + 2 ^ 128 - a2 * x.toNat % 2 ^ 128), show (HX + 2 ^ 128 - a2 * x.toNat % 2 ^ 128) % 2 ^ 128 = dfN HX (a2 * x.toNat % 2 ^ 128) from rfl] at h9
  have h10 := cut_a (dfN HX (a2 * x.toNat % 2 ^ 128)) wd kd (df_lt _ _) hwd
  rw [show dfN HX (a2 * x.toNat % 2 ^ 128) % 2 ^ wd = adN wd HX a2 x.toNat from rfl] at h10
  generalize adN wd HX a2 x.toNat = b2 at *
  generalize dfN HX (a2 * x.toNat % 2 ^ 128) = dd at *
  generalize a2 * x.toNat % 2 ^ 128 = tt at *
  generalize lnN wd A B x.toNat = LX at *
  generalize lnN wd A B y.toNat = LY at *
  generalize 2 ^ k * o = run at *
  have H1 := Lib.hid h1
  have H2 := Lib.hid h2
  have H3 := Lib.hid h3
  have H4 := Lib.hid h4
  have H5 := Lib.hid h5
  have H6 := Lib.hid h6
  have H7 := Lib.hid h7
  have H8 := Lib.hid h8
  have H9 := Lib.hid h9
  have H10 := Lib.hid h10
  clear h1 h2 h3 h4 h5 h6 h7 h8 h9 h10 hA hB hA2 hB2 hP hlx hly hhx hhy hux hvy hx128 hy128 hrun ho hk hu hv hrl hri hal hwd hj hkd hkw
  obtain ⟨hbl, HNN⟩ := boxes4 w (.cells #[.int .u64 (W64 (hiN (A))), .int .u64 (W64 (loN (A)))] 63) (.cells #[.int .u64 (W64 (hiN (B))), .int .u64 (W64 (loN (B)))] 63) (.cells #[.int .u64 0, .int .u64 0] 63) (.cells #[.int .u64 0, .int .u64 0] 63)
  obtain ⟨hb0, hb1, hb2, hb3⟩ := hbl
  have HN := Lib.hid HNN
  obtain ⟨w0, hw0⟩ : ∃ w0, (((((((w.alloc (.cells #[.int .u64 (W64 (hiN (A))), .int .u64 (W64 (loN (A)))] 63))).alloc (.cells #[.int .u64 (W64 (hiN (B))), .int .u64 (W64 (loN (B)))] 63))).alloc (.cells #[.int .u64 0, .int .u64 0] 63))).alloc (.cells #[.int .u64 0, .int .u64 0] 63)) = w0 := ⟨_, rfl⟩
  rw [hw0] at HN hb0 hb1 hb2 hb3
  have HW0 := Lib.hid hw0
  have HB0 := Lib.hid hb0
  have HB1 := Lib.hid hb1
  have HB2 := Lib.hid hb2
  have HB3 := Lib.hid hb3
  clear hw0 HNN hb0 hb1 hb2 hb3
  have x0 := cell_of_row _ _ 0 _ _ _ HB0.out
  have x1 := cell_of_row _ _ 1 _ _ _ HB0.out
  have y0 := cell_of_row _ _ 0 _ _ _ HB1.out
  have y1 := cell_of_row _ _ 1 _ _ _ HB1.out
  go_enter Tryz.func87, Tryz.ntmps87
  go_wp2_with fail
  rw [HW0.out]
  refine (HC.out _).mono ?_
  rintro e w9 ⟨rfl, hn⟩
  replace HN := Lib.hid (HN.out.trans hn)
  replace HB0 := Lib.hid ((hn.block _ (lt_of_block HB0.out)).trans HB0.out)
  replace HB1 := Lib.hid ((hn.block _ (lt_of_block HB1.out)).trans HB1.out)
  replace HB2 := Lib.hid ((hn.block _ (lt_of_block HB2.out)).trans HB2.out)
  replace HB3 := Lib.hid ((hn.block _ (lt_of_block HB3.out)).trans HB3.out)
  clear hn x0 x1 y0 y1 HW0
  go_wp2_with fail
  refine (HS.out _).mono ?_
  rintro e w8 ⟨rfl, hn⟩
  replace HN := Lib.hid (HN.out.trans hn)
  replace HB0 := Lib.hid ((hn.block _ (lt_of_block HB0.out)).trans HB0.out)
  replace HB1 := Lib.hid ((hn.block _ (lt_of_block HB1.out)).trans HB1.out)
  replace HB2 := Lib.hid ((hn.block _ (lt_of_block HB2.out)).trans HB2.out)
  replace HB3 := Lib.hid ((hn.block _ (lt_of_block HB3.out)).trans HB3.out)
  have hx := heap_alloc_new w8 (.cells #[.int .i64 (wd : Int), .int .i64 (kd : Int), .int .i64 (kd : Int)] 133)
  have hn2 := (New.refl w8).alloc (.cells #[.int .i64 (wd : Int), .int .i64 (kd : Int), .int .i64 (kd : Int)] 133)
  obtain ⟨wb, hw2⟩ : ∃ w2, w8.alloc (.cells #[.int .i64 (wd : Int), .int .i64 (kd : Int), .int .i64 (kd : Int)] 133) = w2 := ⟨_, rfl⟩
  rw [hw2] at hx hn2
  obtain ⟨qs, hq⟩ : ∃ q, w8.heap.size = q := ⟨_, rfl⟩
  rw [hq] at hx
  have HQS : Hid (w.heap.size + 1 + 1 + 1 < qs) := Lib.hid (by have := lt_of_block HB3.out; omega)
  have HSH := Lib.hid hx
  replace HN := Lib.hid (HN.out.trans hn2)
  have HE := Lib.hid (show w8.alloc (.cells #[.int .i64 (wd : Int), .int .i64 (kd : Int), .int .i64 (kd : Int)] 133) = wb ∧ w8.heap.size = qs from ⟨hw2, hq⟩)
  replace HB0 := Lib.hid ((hn2.block _ (lt_of_block HB0.out)).trans HB0.out)
  replace HB1 := Lib.hid ((hn2.block _ (lt_of_block HB1.out)).trans HB1.out)
  replace HB2 := Lib.hid ((hn2.block _ (lt_of_block HB2.out)).trans HB2.out)
  replace HB3 := Lib.hid ((hn2.block _ (lt_of_block HB3.out)).trans HB3.out)
  clear hn hx hn2 hw2 hq HS
  have h0 := cell_of_row _ _ 1 _ _ _ HSH.out
  go_wp2_with fail
  rw [HE.out.1, HE.out.2]
  clear HE
  refine (F1.out _).mono ?_
  rintro e w9 ⟨rfl, hn⟩
  replace HN := Lib.hid (HN.out.trans hn)
  replace HB0 := Lib.hid ((hn.block _ (lt_of_block HB0.out)).trans HB0.out)
  replace HB1 := Lib.hid ((hn.block _ (lt_of_block HB1.out)).trans HB1.out)
  replace HB2 := Lib.hid ((hn.block _ (lt_of_block HB2.out)).trans HB2.out)
  replace HB3 := Lib.hid ((hn.block _ (lt_of_block HB3.out)).trans HB3.out)
  replace HSH := Lib.hid ((hn.block _ (lt_of_block HSH.out)).trans HSH.out)
  clear hn h0
  have h0 := cell_of_row _ _ 1 _ _ _ HSH.out
  go_wp2_with fail
  refine (F2.out _).mono ?_
  rintro e w9 ⟨rfl, hn⟩
  replace HN := Lib.hid (HN.out.trans hn)
  replace HB0 := Lib.hid ((hn.block _ (lt_of_block HB0.out)).trans HB0.out)
  replace HB1 := Lib.hid ((hn.block _ (lt_of_block HB1.out)).trans HB1.out)
  replace HB2 := Lib.hid ((hn.block _ (lt_of_block HB2.out)).trans HB2.out)
  replace HB3 := Lib.hid ((hn.block _ (lt_of_block HB3.out)).trans HB3.out)
  replace HSH := Lib.hid ((hn.block _ (lt_of_block HSH.out)).trans HSH.out)
  clear hn h0
  have h0 := cell_of_row _ _ 1 _ _ _ HSH.out
  go_wp2_with fail
  refine (F3.out _).mono ?_
  rintro e w9 ⟨rfl, hn⟩
  replace HN := Lib.hid (HN.out.trans hn)
  replace HB0 := Lib.hid ((hn.block _ (lt_of_block HB0.out)).trans HB0.out)
  replace HB1 := Lib.hid ((hn.block _ (lt_of_block HB1.out)).trans HB1.out)
  replace HB2 := Lib.hid ((hn.block _ (lt_of_block HB2.out)).trans HB2.out)
  replace HB3 := Lib.hid ((hn.block _ (lt_of_block HB3.out)).trans HB3.out)
  replace HSH := Lib.hid ((hn.block _ (lt_of_block HSH.out)).trans HSH.out)
  clear hn h0
  have h0 := cell_of_row _ _ 1 _ _ _ HSH.out
  go_wp2_with fail
  refine (F4.out _).mono ?_
  rintro e w9 ⟨rfl, hn⟩
  replace HN := Lib.hid (HN.out.trans hn)
  replace HB0 := Lib.hid ((hn.block _ (lt_of_block HB0.out)).trans HB0.out)
  replace HB1 := Lib.hid ((hn.block _ (lt_of_block HB1.out)).trans HB1.out)
  replace HB2 := Lib.hid ((hn.block _ (lt_of_block HB2.out)).trans HB2.out)
  replace HB3 := Lib.hid ((hn.block _ (lt_of_block HB3.out)).trans HB3.out)
  replace HSH := Lib.hid ((hn.block _ (lt_of_block HSH.out)).trans HSH.out)
  clear hn h0
  have h0 := cell_of_row _ _ 1 _ _ _ HSH.out
  clear h0
  obtain ⟨wq, hwq⟩ : ∃ z, w9 = z := ⟨_, rfl⟩
  rw [hwq] at HN HB0 HB1 HB2 HB3 HSH ⊢
  clear hwq
  have SK : Hid (∀ w', New wq w' → New wq w' ∧ w'.cell? ⟨qs, 0, none⟩ = some (.int .i64 (wd : Int)) ∧ w'.cell? ⟨qs, 1, none⟩ = some (.int .i64 (kd : Int)) ∧ w'.cell? ⟨qs, 2, none⟩ = some (.int .i64 (kd : Int)) ∧ w'.cell? ⟨w.heap.size, 0, none⟩ = some (.int .u64 (W64 (hiN (A)))) ∧ w'.cell? ⟨w.heap.size, 1, none⟩ = some (.int .u64 (W64 (loN (A)))) ∧ w'.cell? ⟨w.heap.size + 1, 0, none⟩ = some (.int .u64 (W64 (hiN (B)))) ∧ w'.cell? ⟨w.heap.size + 1, 1, none⟩ = some (.int .u64 (W64 (loN (B))))) := Lib.hid (fun w' hn => ⟨hn, cell_of_row _ _ 0 _ _ _ (zu_stay HSH.out hn), cell_of_row _ _ 1 _ _ _ (zu_stay HSH.out hn), cell_of_row _ _ 2 _ _ _ (zu_stay HSH.out hn), cell_of_row _ _ 0 _ _ _ (zu_stay HB0.out hn), cell_of_row _ _ 1 _ _ _ (zu_stay HB0.out hn), cell_of_row _ _ 0 _ _ _ (zu_stay HB1.out hn), cell_of_row _ _ 1 _ _ _ (zu_stay HB1.out hn)⟩)
  obtain ⟨cez, ce0, ce1, ce2, ce3, ce4, ce5, ce6⟩ := SK.out wq (New.refl _)
  go_wp2_with fail
  go_cut [22] (fun p wx => ∃ b, p = .pointer (some ⟨b, 0, none⟩) ∧ wx.heap[b]? = some (.cells #[.int .u64 (W64 (hiN (HX))), .int .u64 (W64 (loN (HX)))] 63 (0, 0)) ∧ wq.heap.size ≤ b ∧ New wq wx)
  case first =>
    go_region_held3 (fun w' => New wq w' ∧ w'.cell? ⟨qs, 0, none⟩ = some (.int .i64 (wd : Int)) ∧ w'.cell? ⟨qs, 1, none⟩ = some (.int .i64 (kd : Int)) ∧ w'.cell? ⟨qs, 2, none⟩ = some (.int .i64 (kd : Int)) ∧ w'.cell? ⟨w.heap.size, 0, none⟩ = some (.int .u64 (W64 (hiN (A)))) ∧ w'.cell? ⟨w.heap.size, 1, none⟩ = some (.int .u64 (W64 (loN (A)))) ∧ w'.cell? ⟨w.heap.size + 1, 0, none⟩ = some (.int .u64 (W64 (hiN (B)))) ∧ w'.cell? ⟨w.heap.size + 1, 1, none⟩ = some (.int .u64 (W64 (loN (B)))))
      ((refine SK.out _ ?_; first | with_reducible assumption | with_reducible exact (New.refl _).drew | with_reducible exact New.drew (by assumption) | with_reducible exact New.alloc (by assumption) _ | with_reducible exact (New.refl _).drew.alloc _ | with_reducible exact ((New.refl _).alloc _).drew | with_reducible exact zu_put_new (by assumption) (by assumption) | with_reducible exact (zu_put_new (by assumption) (by assumption)).drew))
      (first
      | (go_at_call 129
         refine (H1.out _).mono ?_
         rintro e q0 ⟨rfl, hc0⟩
         first
         | (have hg0 : New wq q0 := by first | with_reducible exact (New.refl wq).drew.trans hc0 | with_reducible exact hc0)
         | (have hz0 : q0.heap[wq.heap.size]? = some (.cells #[.int .u64 0, .int .u64 0] 63 (0, 0)) := by first | with_reducible exact zu_stay (zu_d wq) hc0 | with_reducible exact zu_stay (zu_dd wq) hc0
            have hg0 : New wq q0 := by first | with_reducible exact ((New.refl wq).alloc _).drew.trans hc0 | with_reducible exact ((New.refl wq).drew.alloc _).trans hc0
            have hzg : wq.heap.size ≤ wq.heap.size := Nat.le_refl _
            have HZ := Lib.hid hz0
            clear hz0)
         clear hc0)
      | (go_at_call 130
         refine (H2.out _).mono ?_
         rintro e q1 ⟨rfl, hc1⟩
         first
         | (have hg1 : New wq q1 := by first | with_reducible exact hg0.trans hc1 | with_reducible exact hg0.drew.trans hc1
            first
            | (have hz1 := by first | with_reducible exact zu_stay HZ.out hc1 | with_reducible exact zu_stay (zu_stay HZ.out (New.refl _).drew) hc1
               have z0 := cell_of_row _ _ 0 _ _ _ hz1
               have z1 := cell_of_row _ _ 1 _ _ _ hz1
               have zf := fun i => frozen_of_row _ _ i _ _ hz1
               have HZ := Lib.hid hz1
               clear hz1)
            | skip)
         | (have hg1 : New wq q1 := by with_reducible exact (hg0.alloc _).trans hc1
            have hz1 : q1.heap[q0.heap.size]? = some (.cells #[.int .u64 0, .int .u64 0] 63 (0, 0)) := by with_reducible exact zu_stay (zu_new q0) hc1
            have hzg : wq.heap.size ≤ q0.heap.size := hg0.le
            have z0 := cell_of_row _ _ 0 _ _ _ hz1
            have z1 := cell_of_row _ _ 1 _ _ _ hz1
            have zf := fun i => frozen_of_row _ _ i _ _ hz1
            have HZ := Lib.hid hz1
            clear hz1)
         clear hc1))
    all_goals (
      go_wp2_with fail
      go_meet
      case rel => first
        | exact ⟨_, rfl, heap_alloc_new q1 _, hg1.le, hg1.alloc _⟩
        | exact ⟨_, rfl, zu_put _ _ HZ.out, hzg, zu_put_new hg1 hzg⟩
        | exact ⟨_, rfl, zu_stay (zu_put _ _ HZ.out) (New.refl _).drew, hzg, (zu_put_new hg1 hzg).drew⟩)
  case rest =>
    obtain ⟨bX, rfl, hbX, hleX, hcX⟩ := hcut
    have HBX := Lib.hid hbX
    have HC := Lib.hid hcX
    have HLEX := Lib.hid hleX
    clear hbX hcX hleX SK cez ce0 ce1 ce2 ce3 ce4 ce5 ce6
    replace HN := Lib.hid (HN.out.trans HC.out)
    have HQ1 : Hid (qs < bX) := Lib.hid (by have h1 := lt_of_block HSH.out; have h2 := HLEX.out; omega)
    replace HB0 := Lib.hid (zu_stay HB0.out HC.out)
    replace HB1 := Lib.hid (zu_stay HB1.out HC.out)
    replace HB2 := Lib.hid (zu_stay HB2.out HC.out)
    replace HB3 := Lib.hid (zu_stay HB3.out HC.out)
    replace HSH := Lib.hid (zu_stay HSH.out HC.out)
    clear HC HLEX H1 H2
    have SK : Hid (∀ w', New wc w' → New wc w' ∧ w'.cell? ⟨qs, 0, none⟩ = some (.int .i64 (wd : Int)) ∧ w'.cell? ⟨qs, 1, none⟩ = some (.int .i64 (kd : Int)) ∧ w'.cell? ⟨qs, 2, none⟩ = some (.int .i64 (kd : Int)) ∧ w'.cell? ⟨w.heap.size, 0, none⟩ = some (.int .u64 (W64 (hiN (A)))) ∧ w'.cell? ⟨w.heap.size, 1, none⟩ = some (.int .u64 (W64 (loN (A)))) ∧ w'.cell? ⟨w.heap.size + 1, 0, none⟩ = some (.int .u64 (W64 (hiN (B)))) ∧ w'.cell? ⟨w.heap.size + 1, 1, none⟩ = some (.int .u64 (W64 (loN (B))))) := Lib.hid (fun w' hn => ⟨hn, cell_of_row _ _ 0 _ _ _ (zu_stay HSH.out hn), cell_of_row _ _ 1 _ _ _ (zu_stay HSH.out hn), cell_of_row _ _ 2 _ _ _ (zu_stay HSH.out hn), cell_of_row _ _ 0 _ _ _ (zu_stay HB0.out hn), cell_of_row _ _ 1 _ _ _ (zu_stay HB0.out hn), cell_of_row _ _ 0 _ _ _ (zu_stay HB1.out hn), cell_of_row _ _ 1 _ _ _ (zu_stay HB1.out hn)⟩)
    obtain ⟨cez, ce0, ce1, ce2, ce3, ce4, ce5, ce6⟩ := SK.out wc (New.refl _)
    go_wp2_with fail
    go_cut [23] (fun p wx => ∃ b, p = .pointer (some ⟨b, 0, none⟩) ∧ wx.heap[b]? = some (.cells #[.int .u64 (W64 (hiN (HY))), .int .u64 (W64 (loN (HY)))] 63 (0, 0)) ∧ wc.heap.size ≤ b ∧ New wc wx)
    case first =>
      go_region_held3 (fun w' => New wc w' ∧ w'.cell? ⟨qs, 0, none⟩ = some (.int .i64 (wd : Int)) ∧ w'.cell? ⟨qs, 1, none⟩ = some (.int .i64 (kd : Int)) ∧ w'.cell? ⟨qs, 2, none⟩ = some (.int .i64 (kd : Int)) ∧ w'.cell? ⟨w.heap.size, 0, none⟩ = some (.int .u64 (W64 (hiN (A)))) ∧ w'.cell? ⟨w.heap.size, 1, none⟩ = some (.int .u64 (W64 (loN (A)))) ∧ w'.cell? ⟨w.heap.size + 1, 0, none⟩ = some (.int .u64 (W64 (hiN (B)))) ∧ w'.cell? ⟨w.heap.size + 1, 1, none⟩ = some (.int .u64 (W64 (loN (B)))))
        ((refine SK.out _ ?_; first | with_reducible assumption | with_reducible exact (New.refl _).drew | with_reducible exact New.drew (by assumption) | with_reducible exact New.alloc (by assumption) _ | with_reducible exact (New.refl _).drew.alloc _ | with_reducible exact ((New.refl _).alloc _).drew | with_reducible exact zu_put_new (by assumption) (by assumption) | with_reducible exact (zu_put_new (by assumption) (by assumption)).drew))
        (first
        | (go_at_call 129
           refine (H3.out _).mono ?_
           rintro e q0 ⟨rfl, hc0⟩
           first
           | (have hg0 : New wc q0 := by first | with_reducible exact (New.refl wc).drew.trans hc0 | with_reducible exact hc0)
           | (have hz0 : q0.heap[wc.heap.size]? = some (.cells #[.int .u64 0, .int .u64 0] 63 (0, 0)) := by first | with_reducible exact zu_stay (zu_d wc) hc0 | with_reducible exact zu_stay (zu_dd wc) hc0
              have hg0 : New wc q0 := by first | with_reducible exact ((New.refl wc).alloc _).drew.trans hc0 | with_reducible exact ((New.refl wc).drew.alloc _).trans hc0
              have hzg : wc.heap.size ≤ wc.heap.size := Nat.le_refl _
              have HZ := Lib.hid hz0
              clear hz0)
           clear hc0)
        | (go_at_call 130
           refine (H4.out _).mono ?_
           rintro e q1 ⟨rfl, hc1⟩
           first
           | (have hg1 : New wc q1 := by first | with_reducible exact hg0.trans hc1 | with_reducible exact hg0.drew.trans hc1
              first
              | (have hz1 := by first | with_reducible exact zu_stay HZ.out hc1 | with_reducible exact zu_stay (zu_stay HZ.out (New.refl _).drew) hc1
                 have z0 := cell_of_row _ _ 0 _ _ _ hz1
                 have z1 := cell_of_row _ _ 1 _ _ _ hz1
                 have zf := fun i => frozen_of_row _ _ i _ _ hz1
                 have HZ := Lib.hid hz1
                 clear hz1)
              | skip)
           | (have hg1 : New wc q1 := by with_reducible exact (hg0.alloc _).trans hc1
              have hz1 : q1.heap[q0.heap.size]? = some (.cells #[.int .u64 0, .int .u64 0] 63 (0, 0)) := by with_reducible exact zu_stay (zu_new q0) hc1
              have hzg : wc.heap.size ≤ q0.heap.size := hg0.le
              have z0 := cell_of_row _ _ 0 _ _ _ hz1
              have z1 := cell_of_row _ _ 1 _ _ _ hz1
              have zf := fun i => frozen_of_row _ _ i _ _ hz1
              have HZ := Lib.hid hz1
              clear hz1)
           clear hc1))
      all_goals (
        go_wp2_with fail
        go_meet
        case rel => first
          | exact ⟨_, rfl, heap_alloc_new q1 _, hg1.le, hg1.alloc _⟩
          | exact ⟨_, rfl, zu_put _ _ HZ.out, hzg, zu_put_new hg1 hzg⟩
          | exact ⟨_, rfl, zu_stay (zu_put _ _ HZ.out) (New.refl _).drew, hzg, (zu_put_new hg1 hzg).drew⟩)
    case rest =>
      obtain ⟨bY, rfl, hbY, hleY, hcY⟩ := hcut
      have HBY := Lib.hid hbY
      have HC := Lib.hid hcY
      have HLEY := Lib.hid hleY
      clear hbY hcY hleY SK cez ce0 ce1 ce2 ce3 ce4 ce5 ce6
      replace HN := Lib.hid (HN.out.trans HC.out)
      have HQ2 : Hid (qs < bY ∧ bX < bY) := Lib.hid (by have h1 := lt_of_block HSH.out; have h3 := lt_of_block HBX.out; have h2 := HLEY.out; omega)
      replace HB0 := Lib.hid (zu_stay HB0.out HC.out)
      replace HB1 := Lib.hid (zu_stay HB1.out HC.out)
      replace HB2 := Lib.hid (zu_stay HB2.out HC.out)
      replace HB3 := Lib.hid (zu_stay HB3.out HC.out)
      replace HSH := Lib.hid (zu_stay HSH.out HC.out)
      replace HBX := Lib.hid (zu_stay HBX.out HC.out)
      clear HC HLEY H3 H4 HB1
      have q1 := HQS.out
      have q2 := HQ1.out
      have q3 := HQ2.out
      go_wp2_with fail
      refine Gro2.wp_region_gro2S (fun w' => (∃ u v, w'.heap[w.heap.size]? = some (.cells #[u, v] 63 (0, 0))) ∧ w'.heap[qs]? = some (.cells #[.int .i64 (wd : Int), .int .i64 (kd : Int), .int .i64 (kd : Int)] 133 (0, 0)) ∧ w'.heap[bX]? = some (.cells #[.int .u64 (W64 (hiN (HX))), .int .u64 (W64 (loN (HX)))] 63 (0, 0)) ∧ w'.heap[bY]? = some (.cells #[.int .u64 (W64 (hiN (HY))), .int .u64 (W64 (loN (HY)))] 63 (0, 0)) ∧ w'.heap[w.heap.size + 1 + 1]? = some (.cells #[.int .u64 0, .int .u64 0] 63 (0, 0)) ∧ w'.heap[w.heap.size + 1 + 1 + 1]? = some (.cells #[.int .u64 0, .int .u64 0] 63 (0, 0)) ∧ New w w') (fun w' => w'.heap[w.heap.size]? = some (.cells #[.int .u64 (W64 (hiN (A))), .int .u64 (W64 (loN (A)))] 63 (0, 0)) ∧ w'.heap[qs]? = some (.cells #[.int .i64 (wd : Int), .int .i64 (kd : Int), .int .i64 (kd : Int)] 133 (0, 0)) ∧ w'.heap[bX]? = some (.cells #[.int .u64 (W64 (hiN (HX))), .int .u64 (W64 (loN (HX)))] 63 (0, 0)) ∧ w'.heap[bY]? = some (.cells #[.int .u64 (W64 (hiN (HY))), .int .u64 (W64 (loN (HY)))] 63 (0, 0)) ∧ w'.heap[w.heap.size + 1 + 1]? = some (.cells #[.int .u64 0, .int .u64 0] 63 (0, 0)) ∧ w'.heap[w.heap.size + 1 + 1 + 1]? = some (.cells #[.int .u64 0, .int .u64 0] 63 (0, 0)) ∧ New w w') [0,1,0,0,0,0,2,0,0,2,2,3] (by kernel_rfl) (by kernel_rfl) (by kernel_rfl) (fun w' hw' => ⟨⟨_, _, hw'.1⟩, hw'.2⟩) (⟨HB0.out, HSH.out, HBX.out, HBY.out, HB2.out, HB3.out, HN.out.drew⟩) ?_
      intro I J _ _ f g hfa hba hgb hbb
      have HFA := Lib.hid hfa
      have HBA := Lib.hid hba
      have HGB := Lib.hid hgb
      have HBB := Lib.hid hbb
      have s0 := fun n => cell_of_row _ _ 0 _ _ _ (hgb n).1
      have s1 := fun n => cell_of_row _ _ 1 _ _ _ (hgb n).1
      have t0 := fun n => cell_of_row _ _ 0 _ _ _ (hfa n).2.1
      have t1 := fun n => cell_of_row _ _ 1 _ _ _ (hfa n).2.1
      have t2 := fun n => cell_of_row _ _ 2 _ _ _ (hfa n).2.1
      have t3 := fun n => cell_of_row _ _ 0 _ _ _ (hfa n).2.2.1
      have t4 := fun n => cell_of_row _ _ 1 _ _ _ (hfa n).2.2.1
      have t5 := fun n => cell_of_row _ _ 0 _ _ _ (hfa n).2.2.2.1
      have t6 := fun n => cell_of_row _ _ 1 _ _ _ (hfa n).2.2.2.1
      clear hfa hba hgb hbb
      refine Gro2.take0 1 (by kernel_rfl) ?_
      simp only [List.take, List.drop, List.length]
      repeat (go_big_quiet_step (fail))
      refine wpQuiet_nil ?_
      refine Gro2.take1 1 (by kernel_rfl) ?_
      simp only [List.take, List.drop, List.length]
      repeat (go_big_quiet_step (fail))
      refine wpQuiet_nil ?_
      refine Gro2.take0 4 (by kernel_rfl) ?_
      simp only [List.take, List.drop, List.length]
      repeat (go_big_quiet_step (fail))
      refine wpQuiet_nil ?_
      refine Gro2.call (fun v => v = .agg #[.int .u64 (W64 (hiN (run))), .int .u64 (W64 (loN (run)))]) (fun _ _ => True) rfl rfl (⟨_, rfl⟩) (fun w1 hB hG => ?_) (fun v1 A1 hv1 hA => ?_)
      · obtain ⟨nq, rfl⟩ := hB
        clear s0 s1 t0 t1 t2 t3 t4 t5 t6
        go_simp
        refine (H5.out _).mono ?_
        rintro e w2 ⟨rfl, hn⟩
        have HXX := HBB.out _ ⟨zu_stay (HGB.out nq).1 hn, zu_stay (HGB.out nq).2.1 hn, zu_stay (HGB.out nq).2.2.1 hn, zu_stay (HGB.out nq).2.2.2.1 hn, zu_stay (HGB.out nq).2.2.2.2.1 hn, zu_stay (HGB.out nq).2.2.2.2.2.1 hn, (HGB.out nq).2.2.2.2.2.2.trans hn⟩
        first | exact ⟨_, rfl, HXX, rfl, trivial, trivial⟩ | exact ⟨_, rfl, HXX, rfl, trivial⟩ | exact ⟨HXX, rfl⟩ | exact ⟨rfl, HXX⟩ | exact HXX | exact ⟨rfl, HXX, rfl, trivial⟩ | exact ⟨HXX, rfl, trivial⟩
      simp [Act.put] at hA
      subst hA
      obtain rfl := hv1
      refine Gro2.take0 2 (by kernel_rfl) ?_
      simp only [List.take, List.drop, List.length]
      repeat (go_big_quiet_step (fail))
      refine wpQuiet_nil ?_
      refine Gro2.call (fun v => v = .agg #[.int .u64 (W64 (hiN (rise))), .int .u64 (W64 (loN (rise)))]) (fun _ _ => True) rfl rfl (⟨_, rfl⟩) (fun w1 hB hG => ?_) (fun v2 A2 hv2 hA => ?_)
      · obtain ⟨nq, rfl⟩ := hB
        clear s0 s1 t0 t1 t2 t3 t4 t5 t6
        go_simp
        refine (H6.out _).mono ?_
        rintro e w2 ⟨rfl, hn⟩
        have HXX := HBB.out _ ⟨zu_stay (HGB.out nq).1 hn, zu_stay (HGB.out nq).2.1 hn, zu_stay (HGB.out nq).2.2.1 hn, zu_stay (HGB.out nq).2.2.2.1 hn, zu_stay (HGB.out nq).2.2.2.2.1 hn, zu_stay (HGB.out nq).2.2.2.2.2.1 hn, (HGB.out nq).2.2.2.2.2.2.trans hn⟩
        first | exact ⟨_, rfl, HXX, rfl, trivial, trivial⟩ | exact ⟨_, rfl, HXX, rfl, trivial⟩ | exact ⟨HXX, rfl⟩ | exact ⟨rfl, HXX⟩ | exact HXX | exact ⟨rfl, HXX, rfl, trivial⟩ | exact ⟨HXX, rfl, trivial⟩
      simp [Act.put] at hA
      subst hA
      obtain rfl := hv2
      refine Gro2.call (fun v => v = .agg #[.int .u64 (W64 (hiN (a2))), .int .u64 (W64 (loN (a2)))]) (fun _ _ => True) rfl rfl (⟨_, rfl⟩) (fun w1 hB hG => ?_) (fun v3 A3 hv3 hA => ?_)
      · obtain ⟨nq, rfl⟩ := hB
        clear s0 s1 t0 t1 t2 t3 t4 t5 t6
        go_simp
        refine (H7.out _).mono ?_
        rintro e w2 ⟨rfl, hn⟩
        have HXX := HBB.out _ ⟨zu_stay (HGB.out nq).1 hn, zu_stay (HGB.out nq).2.1 hn, zu_stay (HGB.out nq).2.2.1 hn, zu_stay (HGB.out nq).2.2.2.1 hn, zu_stay (HGB.out nq).2.2.2.2.1 hn, zu_stay (HGB.out nq).2.2.2.2.2.1 hn, (HGB.out nq).2.2.2.2.2.2.trans hn⟩
        first | exact ⟨_, rfl, HXX, rfl, trivial, trivial⟩ | exact ⟨_, rfl, HXX, rfl, trivial⟩ | exact ⟨HXX, rfl⟩ | exact ⟨rfl, HXX⟩ | exact HXX | exact ⟨rfl, HXX, rfl, trivial⟩ | exact ⟨HXX, rfl, trivial⟩
      simp [Act.put] at hA
      subst hA
      obtain rfl := hv3
      refine Gro2.turn (fun v => v = undef) (fun _ w9 => w9.heap[w.heap.size]? = some (.cells #[.int .u64 (W64 (hiN (a2))), .int .u64 (W64 (loN (a2)))] 63 (0, 0))) rfl rfl ⟨_, rfl⟩ (fun w1 hB hG => ?_) (fun v4 A4 hv4 hA => ?_)
      · obtain ⟨nq, rfl⟩ : ∃ nq, w1 = g nq := hB
        have HX0 := Lib.hid (HGB.out nq)
        have hc0 := cell_of_row _ _ 0 _ _ _ HX0.out.1
        have hc1 := cell_of_row _ _ 1 _ _ _ HX0.out.1
        have hfr := fun i => frozen_of_row _ _ i _ _ HX0.out.1
        have HP := Lib.hid (put_two (.int .u64 (W64 (hiN a2))) (.int .u64 (W64 (loN a2))) HX0.out.1)
        clear s0 s1 t0 t1 t2 t3 t4 t5 t6
        go_simp
        exact ⟨HBA.out _ ⟨⟨_, _, HP.out.1⟩, (HP.out.2 _ (by omega)).trans HX0.out.2.1, (HP.out.2 _ (by omega)).trans HX0.out.2.2.1, (HP.out.2 _ (by omega)).trans HX0.out.2.2.2.1, (HP.out.2 _ (by omega)).trans HX0.out.2.2.2.2.1, (HP.out.2 _ (by omega)).trans HX0.out.2.2.2.2.2.1, (HX0.out.2.2.2.2.2.2.setCell (Nat.le_refl _) _).setCell (Nat.le_refl _) _⟩, HP.out.1⟩
      simp [Act.put] at hA
      subst hA
      refine Gro2.nil ?_
      rintro w9 ⟨n9, rfl⟩ hG
      obtain ⟨g0, g1, g2, g3, g4, g5, g6⟩ := HFA.out n9
      have HB0 := Lib.hid hG
      have HSH := Lib.hid g1
      have HBX := Lib.hid g2
      have HB2 := Lib.hid g4
      have HB3 := Lib.hid g5
      have HN := Lib.hid g6
      clear HFA HBA HGB HBB s0 s1 t0 t1 t2 t3 t4 t5 t6 hv4 g0 g1 g2 g3 g4 g5 g6 hG
      obtain ⟨wn, hwn⟩ : ∃ z, f n9 = z := ⟨_, rfl⟩
      rw [hwn] at HB0 HSH HBX HB2 HB3 HN ⊢
      clear hwn
      clear HBY H5 H6 H7
      go_wp2_with fail
      have hnb : New w wn := HN.out
      have f0 := cell_of_row _ _ 0 _ _ _ HSH.out
      have f1 := cell_of_row _ _ 1 _ _ _ HSH.out
      have f2 := cell_of_row _ _ 2 _ _ _ HSH.out
      have f3 := cell_of_row _ _ 0 _ _ _ HB0.out
      have f4 := cell_of_row _ _ 1 _ _ _ HB0.out
      have f5 := cell_of_row _ _ 0 _ _ _ HBX.out
      have f6 := cell_of_row _ _ 1 _ _ _ HBX.out
      have hle3 : w.heap.size ≤ w.heap.size + 1 + 1 := by omega
      have hle4 : w.heap.size ≤ w.heap.size + 1 + 1 + 1 := by omega
      have SK : Hid (∀ w', New wn w' → New w w' ∧ w'.cell? ⟨qs, 0, none⟩ = some (.int .i64 (wd : Int)) ∧ w'.cell? ⟨qs, 1, none⟩ = some (.int .i64 (kd : Int)) ∧ w'.cell? ⟨qs, 2, none⟩ = some (.int .i64 (kd : Int)) ∧ w'.cell? ⟨w.heap.size, 0, none⟩ = some (.int .u64 (W64 (hiN (a2)))) ∧ w'.cell? ⟨w.heap.size, 1, none⟩ = some (.int .u64 (W64 (loN (a2)))) ∧ w'.cell? ⟨bX, 0, none⟩ = some (.int .u64 (W64 (hiN (HX)))) ∧ w'.cell? ⟨bX, 1, none⟩ = some (.int .u64 (W64 (loN (HX))))) := Lib.hid (fun w' hn => ⟨HN.out.trans hn, cell_of_row _ _ 0 _ _ _ (zu_stay HSH.out hn), cell_of_row _ _ 1 _ _ _ (zu_stay HSH.out hn), cell_of_row _ _ 2 _ _ _ (zu_stay HSH.out hn), cell_of_row _ _ 0 _ _ _ (zu_stay HB0.out hn), cell_of_row _ _ 1 _ _ _ (zu_stay HB0.out hn), cell_of_row _ _ 0 _ _ _ (zu_stay HBX.out hn), cell_of_row _ _ 1 _ _ _ (zu_stay HBX.out hn)⟩)
      have SK1 : Hid (∀ w', New wn w' → ∀ x0 y0 : Value, New w ((w'.setCell ⟨w.heap.size + 1 + 1, 0, none⟩ x0).setCell ⟨w.heap.size + 1 + 1, 1, none⟩ y0) ∧ ((w'.setCell ⟨w.heap.size + 1 + 1, 0, none⟩ x0).setCell ⟨w.heap.size + 1 + 1, 1, none⟩ y0).cell? ⟨qs, 0, none⟩ = some (.int .i64 (wd : Int)) ∧ ((w'.setCell ⟨w.heap.size + 1 + 1, 0, none⟩ x0).setCell ⟨w.heap.size + 1 + 1, 1, none⟩ y0).cell? ⟨qs, 1, none⟩ = some (.int .i64 (kd : Int)) ∧ ((w'.setCell ⟨w.heap.size + 1 + 1, 0, none⟩ x0).setCell ⟨w.heap.size + 1 + 1, 1, none⟩ y0).cell? ⟨qs, 2, none⟩ = some (.int .i64 (kd : Int)) ∧ ((w'.setCell ⟨w.heap.size + 1 + 1, 0, none⟩ x0).setCell ⟨w.heap.size + 1 + 1, 1, none⟩ y0).cell? ⟨w.heap.size, 0, none⟩ = some (.int .u64 (W64 (hiN (a2)))) ∧ ((w'.setCell ⟨w.heap.size + 1 + 1, 0, none⟩ x0).setCell ⟨w.heap.size + 1 + 1, 1, none⟩ y0).cell? ⟨w.heap.size, 1, none⟩ = some (.int .u64 (W64 (loN (a2)))) ∧ ((w'.setCell ⟨w.heap.size + 1 + 1, 0, none⟩ x0).setCell ⟨w.heap.size + 1 + 1, 1, none⟩ y0).cell? ⟨bX, 0, none⟩ = some (.int .u64 (W64 (hiN (HX)))) ∧ ((w'.setCell ⟨w.heap.size + 1 + 1, 0, none⟩ x0).setCell ⟨w.heap.size + 1 + 1, 1, none⟩ y0).cell? ⟨bX, 1, none⟩ = some (.int .u64 (W64 (loN (HX))))) := Lib.hid (fun w' hn x0 y0 => ⟨(zu_put_new (HN.out.trans hn) hle3), cell_of_row _ _ 0 _ _ _ ((heap_setCell_other _ _ _ _ (by simp; try omega)).trans ((heap_setCell_other _ _ _ _ (by simp; try omega)).trans (zu_stay HSH.out hn))), cell_of_row _ _ 1 _ _ _ ((heap_setCell_other _ _ _ _ (by simp; try omega)).trans ((heap_setCell_other _ _ _ _ (by simp; try omega)).trans (zu_stay HSH.out hn))), cell_of_row _ _ 2 _ _ _ ((heap_setCell_other _ _ _ _ (by simp; try omega)).trans ((heap_setCell_other _ _ _ _ (by simp; try omega)).trans (zu_stay HSH.out hn))), cell_of_row _ _ 0 _ _ _ ((heap_setCell_other _ _ _ _ (by simp; try omega)).trans ((heap_setCell_other _ _ _ _ (by simp; try omega)).trans (zu_stay HB0.out hn))), cell_of_row _ _ 1 _ _ _ ((heap_setCell_other _ _ _ _ (by simp; try omega)).trans ((heap_setCell_other _ _ _ _ (by simp; try omega)).trans (zu_stay HB0.out hn))), cell_of_row _ _ 0 _ _ _ ((heap_setCell_other _ _ _ _ (by simp; try omega)).trans ((heap_setCell_other _ _ _ _ (by simp; try omega)).trans (zu_stay HBX.out hn))), cell_of_row _ _ 1 _ _ _ ((heap_setCell_other _ _ _ _ (by simp; try omega)).trans ((heap_setCell_other _ _ _ _ (by simp; try omega)).trans (zu_stay HBX.out hn)))⟩)
      have SK2 : Hid (∀ w', New wn w' → ∀ x0 y0 x1 y1 : Value, New w ((((w'.setCell ⟨w.heap.size + 1 + 1, 0, none⟩ x0).setCell ⟨w.heap.size + 1 + 1, 1, none⟩ y0).setCell ⟨w.heap.size + 1 + 1 + 1, 0, none⟩ x1).setCell ⟨w.heap.size + 1 + 1 + 1, 1, none⟩ y1) ∧ ((((w'.setCell ⟨w.heap.size + 1 + 1, 0, none⟩ x0).setCell ⟨w.heap.size + 1 + 1, 1, none⟩ y0).setCell ⟨w.heap.size + 1 + 1 + 1, 0, none⟩ x1).setCell ⟨w.heap.size + 1 + 1 + 1, 1, none⟩ y1).cell? ⟨qs, 0, none⟩ = some (.int .i64 (wd : Int)) ∧ ((((w'.setCell ⟨w.heap.size + 1 + 1, 0, none⟩ x0).setCell ⟨w.heap.size + 1 + 1, 1, none⟩ y0).setCell ⟨w.heap.size + 1 + 1 + 1, 0, none⟩ x1).setCell ⟨w.heap.size + 1 + 1 + 1, 1, none⟩ y1).cell? ⟨qs, 1, none⟩ = some (.int .i64 (kd : Int)) ∧ ((((w'.setCell ⟨w.heap.size + 1 + 1, 0, none⟩ x0).setCell ⟨w.heap.size + 1 + 1, 1, none⟩ y0).setCell ⟨w.heap.size + 1 + 1 + 1, 0, none⟩ x1).setCell ⟨w.heap.size + 1 + 1 + 1, 1, none⟩ y1).cell? ⟨qs, 2, none⟩ = some (.int .i64 (kd : Int)) ∧ ((((w'.setCell ⟨w.heap.size + 1 + 1, 0, none⟩ x0).setCell ⟨w.heap.size + 1 + 1, 1, none⟩ y0).setCell ⟨w.heap.size + 1 + 1 + 1, 0, none⟩ x1).setCell ⟨w.heap.size + 1 + 1 + 1, 1, none⟩ y1).cell? ⟨w.heap.size, 0, none⟩ = some (.int .u64 (W64 (hiN (a2)))) ∧ ((((w'.setCell ⟨w.heap.size + 1 + 1, 0, none⟩ x0).setCell ⟨w.heap.size + 1 + 1, 1, none⟩ y0).setCell ⟨w.heap.size + 1 + 1 + 1, 0, none⟩ x1).setCell ⟨w.heap.size + 1 + 1 + 1, 1, none⟩ y1).cell? ⟨w.heap.size, 1, none⟩ = some (.int .u64 (W64 (loN (a2)))) ∧ ((((w'.setCell ⟨w.heap.size + 1 + 1, 0, none⟩ x0).setCell ⟨w.heap.size + 1 + 1, 1, none⟩ y0).setCell ⟨w.heap.size + 1 + 1 + 1, 0, none⟩ x1).setCell ⟨w.heap.size + 1 + 1 + 1, 1, none⟩ y1).cell? ⟨bX, 0, none⟩ = some (.int .u64 (W64 (hiN (HX)))) ∧ ((((w'.setCell ⟨w.heap.size + 1 + 1, 0, none⟩ x0).setCell ⟨w.heap.size + 1 + 1, 1, none⟩ y0).setCell ⟨w.heap.size + 1 + 1 + 1, 0, none⟩ x1).setCell ⟨w.heap.size + 1 + 1 + 1, 1, none⟩ y1).cell? ⟨bX, 1, none⟩ = some (.int .u64 (W64 (loN (HX))))) := Lib.hid (fun w' hn x0 y0 x1 y1 => ⟨(zu_put_new (zu_put_new (HN.out.trans hn) hle3) hle4), cell_of_row _ _ 0 _ _ _ ((heap_setCell_other _ _ _ _ (by simp; try omega)).trans ((heap_setCell_other _ _ _ _ (by simp; try omega)).trans ((heap_setCell_other _ _ _ _ (by simp; try omega)).trans ((heap_setCell_other _ _ _ _ (by simp; try omega)).trans (zu_stay HSH.out hn))))), cell_of_row _ _ 1 _ _ _ ((heap_setCell_other _ _ _ _ (by simp; try omega)).trans ((heap_setCell_other _ _ _ _ (by simp; try omega)).trans ((heap_setCell_other _ _ _ _ (by simp; try omega)).trans ((heap_setCell_other _ _ _ _ (by simp; try omega)).trans (zu_stay HSH.out hn))))), cell_of_row _ _ 2 _ _ _ ((heap_setCell_other _ _ _ _ (by simp; try omega)).trans ((heap_setCell_other _ _ _ _ (by simp; try omega)).trans ((heap_setCell_other _ _ _ _ (by simp; try omega)).trans ((heap_setCell_other _ _ _ _ (by simp; try omega)).trans (zu_stay HSH.out hn))))), cell_of_row _ _ 0 _ _ _ ((heap_setCell_other _ _ _ _ (by simp; try omega)).trans ((heap_setCell_other _ _ _ _ (by simp; try omega)).trans ((heap_setCell_other _ _ _ _ (by simp; try omega)).trans ((heap_setCell_other _ _ _ _ (by simp; try omega)).trans (zu_stay HB0.out hn))))), cell_of_row _ _ 1 _ _ _ ((heap_setCell_other _ _ _ _ (by simp; try omega)).trans ((heap_setCell_other _ _ _ _ (by simp; try omega)).trans ((heap_setCell_other _ _ _ _ (by simp; try omega)).trans ((heap_setCell_other _ _ _ _ (by simp; try omega)).trans (zu_stay HB0.out hn))))), cell_of_row _ _ 0 _ _ _ ((heap_setCell_other _ _ _ _ (by simp; try omega)).trans ((heap_setCell_other _ _ _ _ (by simp; try omega)).trans ((heap_setCell_other _ _ _ _ (by simp; try omega)).trans ((heap_setCell_other _ _ _ _ (by simp; try omega)).trans (zu_stay HBX.out hn))))), cell_of_row _ _ 1 _ _ _ ((heap_setCell_other _ _ _ _ (by simp; try omega)).trans ((heap_setCell_other _ _ _ _ (by simp; try omega)).trans ((heap_setCell_other _ _ _ _ (by simp; try omega)).trans ((heap_setCell_other _ _ _ _ (by simp; try omega)).trans (zu_stay HBX.out hn)))))⟩)
      go_cut [18] (fun p wx => p = .int .i64 0 ∧ wx.heap[qs]? = some (.cells #[.int .i64 (wd : Int), .int .i64 (kd : Int), .int .i64 (kd : Int)] 133 (0, 0)) ∧ wx.heap[w.heap.size]? = some (.cells #[.int .u64 (W64 (hiN (a2))), .int .u64 (W64 (loN (a2)))] 63 (0, 0)) ∧ wx.heap[bX]? = some (.cells #[.int .u64 (W64 (hiN (HX))), .int .u64 (W64 (loN (HX)))] 63 (0, 0)) ∧ wx.heap[w.heap.size + 1 + 1]? = some (.cells #[.int .u64 (W64 (hiN (a2))), .int .u64 (W64 (loN (a2)))] 63 (0, 0)) ∧ wx.heap[w.heap.size + 1 + 1 + 1]? = some (.cells #[.int .u64 (W64 (hiN (b2))), .int .u64 (W64 (loN (b2)))] 63 (0, 0)) ∧ New w wx)
      case first =>
        go_region_held3 (fun w' => New w w' ∧ w'.cell? ⟨qs, 0, none⟩ = some (.int .i64 (wd : Int)) ∧ w'.cell? ⟨qs, 1, none⟩ = some (.int .i64 (kd : Int)) ∧ w'.cell? ⟨qs, 2, none⟩ = some (.int .i64 (kd : Int)) ∧ w'.cell? ⟨w.heap.size, 0, none⟩ = some (.int .u64 (W64 (hiN (a2)))) ∧ w'.cell? ⟨w.heap.size, 1, none⟩ = some (.int .u64 (W64 (loN (a2)))) ∧ w'.cell? ⟨bX, 0, none⟩ = some (.int .u64 (W64 (hiN (HX)))) ∧ w'.cell? ⟨bX, 1, none⟩ = some (.int .u64 (W64 (loN (HX)))))
          ((first | (refine SK.out _ ?_; first | with_reducible assumption | with_reducible exact (New.refl _).drew | with_reducible exact New.drew (by with_reducible assumption)) | with_reducible exact SK1.out _ (by with_reducible assumption) _ _ | with_reducible exact SK1.out _ (New.drew (by with_reducible assumption)) _ _ | with_reducible exact SK2.out _ (by with_reducible assumption) _ _ _ _ | with_reducible exact SK2.out _ (New.drew (by with_reducible assumption)) _ _ _ _))
          (first
          | (go_at_call 134
             refine (H8.out _).mono ?_
             rintro e q0 ⟨rfl, hc0⟩
             have hg0 : New wn q0 := by first | with_reducible exact (New.refl wn).drew.trans hc0 | with_reducible exact (New.refl wn).trans hc0 | with_reducible exact hc0
             have hw0 : New w q0 := HN.out.trans hg0
             clear hc0)
          | (go_at_call 132
             refine (H9.out _).mono ?_
             rintro e q1 ⟨rfl, hc1⟩
             have hg1 : New wn q1 := by first | with_reducible exact hg0.drew.trans hc1 | with_reducible exact hg0.trans hc1 | with_reducible exact hc1
             have hw1 : New w q1 := HN.out.trans hg1
             clear hc1)
          | (go_at_call 133
             refine (H10.out _).mono ?_
             rintro e q2 ⟨rfl, hc2⟩
             have hg2 : New wn q2 := by first | with_reducible exact hg1.drew.trans hc2 | with_reducible exact hg1.trans hc2 | with_reducible exact hc2
             have hw2 : New w q2 := HN.out.trans hg2
             have g3_0 := cell_of_row _ _ 0 _ _ _ (zu_stay HB2.out hg2)
             have g3_1 := cell_of_row _ _ 1 _ _ _ (zu_stay HB2.out hg2)
             have gf3 : ∀ i, q2.frozen? ⟨w.heap.size + 1 + 1, i, none⟩ = false := fun i => frozen_of_row _ _ i _ _ (zu_stay HB2.out hg2)
             have g4_0 := cell_of_row _ _ 0 _ _ _ (zu_stay HB3.out hg2)
             have g4_1 := cell_of_row _ _ 1 _ _ _ (zu_stay HB3.out hg2)
             have gf4 : ∀ i, q2.frozen? ⟨w.heap.size + 1 + 1 + 1, i, none⟩ = false := fun i => frozen_of_row _ _ i _ _ (zu_stay HB3.out hg2)
             clear hc2))
        all_goals (
          go_wp2_with fail
          go_meet
          case rel => first
            | exact ⟨rfl, ((heap_setCell_other _ _ _ _ (by simp; try omega)).trans ((heap_setCell_other _ _ _ _ (by simp; try omega)).trans ((heap_setCell_other _ _ _ _ (by simp; try omega)).trans ((heap_setCell_other _ _ _ _ (by simp; try omega)).trans (zu_stay HSH.out hg2))))), ((heap_setCell_other _ _ _ _ (by simp; try omega)).trans ((heap_setCell_other _ _ _ _ (by simp; try omega)).trans ((heap_setCell_other _ _ _ _ (by simp; try omega)).trans ((heap_setCell_other _ _ _ _ (by simp; try omega)).trans (zu_stay HB0.out hg2))))), ((heap_setCell_other _ _ _ _ (by simp; try omega)).trans ((heap_setCell_other _ _ _ _ (by simp; try omega)).trans ((heap_setCell_other _ _ _ _ (by simp; try omega)).trans ((heap_setCell_other _ _ _ _ (by simp; try omega)).trans (zu_stay HBX.out hg2))))), ((heap_setCell_other _ _ _ _ (by simp; try omega)).trans ((heap_setCell_other _ _ _ _ (by simp; try omega)).trans (heap_setCell_same _ _ _ _ _ _ (heap_setCell_same _ _ _ _ _ _ (zu_stay HB2.out hg2))))), (heap_setCell_same _ _ _ _ _ _ (heap_setCell_same _ _ _ _ _ _ ((heap_setCell_other _ _ _ _ (by simp; try omega)).trans ((heap_setCell_other _ _ _ _ (by simp; try omega)).trans (zu_stay HB3.out hg2))))), (zu_put_new (zu_put_new hw2 hle3) hle4)⟩
            | exact ⟨rfl, ((heap_setCell_other _ _ _ _ (by simp; try omega)).trans ((heap_setCell_other _ _ _ _ (by simp; try omega)).trans ((heap_setCell_other _ _ _ _ (by simp; try omega)).trans ((heap_setCell_other _ _ _ _ (by simp; try omega)).trans (zu_stay HSH.out hg2))))), ((heap_setCell_other _ _ _ _ (by simp; try omega)).trans ((heap_setCell_other _ _ _ _ (by simp; try omega)).trans ((heap_setCell_other _ _ _ _ (by simp; try omega)).trans ((heap_setCell_other _ _ _ _ (by simp; try omega)).trans (zu_stay HB0.out hg2))))), ((heap_setCell_other _ _ _ _ (by simp; try omega)).trans ((heap_setCell_other _ _ _ _ (by simp; try omega)).trans ((heap_setCell_other _ _ _ _ (by simp; try omega)).trans ((heap_setCell_other _ _ _ _ (by simp; try omega)).trans (zu_stay HBX.out hg2))))), ((heap_setCell_other _ _ _ _ (by simp; try omega)).trans ((heap_setCell_other _ _ _ _ (by simp; try omega)).trans (heap_setCell_same _ _ _ _ _ _ (heap_setCell_same _ _ _ _ _ _ (zu_stay HB2.out hg2))))), (heap_setCell_same _ _ _ _ _ _ (heap_setCell_same _ _ _ _ _ _ ((heap_setCell_other _ _ _ _ (by simp; try omega)).trans ((heap_setCell_other _ _ _ _ (by simp; try omega)).trans (zu_stay HB3.out hg2))))), (zu_put_new (zu_put_new hw2 hle3) hle4).drew⟩)
      case rest =>
        obtain ⟨rfl, b_HSH, b_HB0, b_HBX, b_HB2, b_HB3, hnc⟩ := hcut
        replace HSH := Lib.hid b_HSH
        replace HB0 := Lib.hid b_HB0
        replace HBX := Lib.hid b_HBX
        replace HB2 := Lib.hid b_HB2
        replace HB3 := Lib.hid b_HB3
        replace HN := Lib.hid hnc
        clear SK SK1 SK2 b_HSH b_HB0 b_HBX b_HB2 b_HB3 hnc hnb hle3 hle4 f0 f1 f2 f3 f4 f5 f6
        clear HSH HBX HB0 H8 H9 H10 q1 q2 q3
        have k0 := cell_of_row _ _ 0 _ _ _ HB2.out
        have k1 := cell_of_row _ _ 1 _ _ _ HB2.out
        have k2 := cell_of_row _ _ 0 _ _ _ HB3.out
        have k3 := cell_of_row _ _ 1 _ _ _ HB3.out
        clear HB2 HB3 hxy F1 F2 F3 F4 HQS HQ1 HQ2
        apply_assumption
        refine wp_ret ?_
        refine bodyPost_ret (by simp [results, Tryz.results87, go_sem, k0, k1, k2, k3]; try rfl) rfl ?_
        exact ⟨rfl, HN.out⟩
end Go.Proofs.YtebcfbcfipmahaaGreat
