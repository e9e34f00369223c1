/- gf2: divide, Div, Mod, MulMod. -/
import Derived.Test.YtppmpledcaonkaaGf2D
namespace Go.G2
set_option linter.unusedVariables false
theorem or_xor_bit (q n t : Nat) (h : q.testBit t = false) : BitVec.ofNat 64 (q / 2 ^ (64 * (t / 64))) ||| 1#64 <<< (t % 64) = BitVec.ofNat 64 (q / 2 ^ (64 * (t / 64))) ^^^ 1#64 <<< (t % 64) := by
  apply BitVec.eq_of_getLsbD_eq
  intro i hi
  rw [BitVec.getLsbD_or, BitVec.getLsbD_xor, BitVec.getLsbD_ofNat, Nat.testBit_div_two_pow, BitVec.getLsbD_shiftLeft, BitVec.getLsbD_one]
  by_cases e : i = t % 64
  · subst e
    rw [show t % 64 + 64 * (t / 64) = t by omega, h]; simp
  · have : (decide (i < 64) && !decide (i < t % 64) && (decide (0 < 64) && decide (i - t % 64 = 0))) = false := by
      by_cases h2 : i < t % 64
      · simp [h2]
      · simp [show ¬ i - t % 64 = 0 by omega]
    rw [this]; simp
theorem shl_one (t : Nat) (h : t < 64) : (1#64 <<< t).toNat = 2 ^ t := by
  rw [BitVec.toNat_shiftLeft, Nat.shiftLeft_eq]
  show 1 * 2 ^ t % 2 ^ 64 = _
  rw [Nat.one_mul, Nat.mod_eq_of_lt (Nat.pow_lt_pow_right (by decide) h)]
theorem low_bit {q t : Nat} (h : q % 2 ^ (t + 1) = 0) : q.testBit t = false := by
  have := Nat.testBit_mod_two_pow q (t + 1) t
  rw [h] at this
  simpa using this.symm
theorem low_next {q t : Nat} (h : q % 2 ^ (t + 1 + 1) = 0) (b : Bool) : (q ^^^ (if b then 2 ^ (t + 1) else 0)) % 2 ^ (t + 1) = 0 := by
  apply Nat.eq_of_testBit_eq
  intro i
  rw [Nat.testBit_mod_two_pow, Nat.testBit_xor, Nat.zero_testBit]
  by_cases hi : i < t + 1
  · have h1 := Nat.testBit_mod_two_pow q (t + 1 + 1) i
    rw [h] at h1
    have h2 : q.testBit i = false := by simpa [show i < t + 1 + 1 by omega] using h1.symm
    rw [h2]
    cases b
    · simp
    · rw [if_pos rfl, Nat.testBit_two_pow]; simp; omega
  · simp [hi]
end Go.G2
namespace Go.Bv
open Go Go.RowKit
set_option linter.unusedVariables false
theorem ow_but {w w' : World} {base size g n : Nat} {e : TypeId} {v : Value} {xs : List Value} (h : w.ownsRow base e size v n xs) (hb : But g w w') (hv : v.ownBlock ≠ some g) : w'.ownsRow base e size v n xs := by
  obtain ⟨hl, h | ⟨g', cap', cur, rfl, hbs, hc, h2⟩⟩ := h
  · exact ⟨hl, Or.inl h⟩
  · exact ⟨hl, Or.inr ⟨g', cap', cur, rfl, hbs, hb.keep (fun e => hv (by rw [← e]; rfl)) hc, h2⟩⟩
end Go.Bv
namespace Go.Proofs.Ytppmpledcaonkaa
open Go Go.RowKit Go.Bv Go.G2
set_option linter.unusedVariables false
set_option maxRecDepth 100000 in
set_option maxHeartbeats 1000000 in
theorem divide_z (a b : Option Addr) (n c m c2 : Nat) (l2 : List (BitVec 64)) (w : World) (h2 : QRow w b m c2 l2) (hm : m ≤ 50000) (hz : vW l2 = 0) :
    Calls Try.prog 61 #[.slice a n c, .slice b m c2] w fun e w' => e = .returned (.tuple #[.slice none 0 0, .slice none 0 0, .bool false]) ∧ w' = w := by
  have HD := Lib.hid (deg_q b m c2 l2 w h2 (by omega))
  rw [hz] at HD
  clear h2 hz
  go_enter Try.func61, Try.ntmps61
  go_wp2_with fail
  refine HD.out.mono ?_
  rintro e w' ⟨rfl, hw⟩
  replace hw := hw.symm
  subst hw
  go_wp2
  go_ret3
  exact ⟨rfl, rfl⟩
theorem htm_of {t T n lo k : Nat} (h : 64 * T ≤ lo + 64) (h2 : lo + t = k) (h3 : k < 64 * n) : t / 64 + T ≤ n := by omega
theorem div_idx {t j s n : Nat} (hj : t / 64 = j) (hs : t % 64 = s) (ht : t < 64 * n) (hn : n ≤ 50000) : (t : Int) / 64 = (j : Int) ∧ (t : Int) % 64 = (s : Int) ∧ (t : Int).tdiv 64 = (j : Int) ∧ (t : Int).tmod 64 = (s : Int) ∧ wrap64 (t : Int) = (t : Int) ∧ IntKind.i64.wrap (t : Int) = (t : Int) ∧ wrap64 (j : Int) = (j : Int) ∧ IntKind.i64.wrap (j : Int) = (j : Int) ∧ wrap64 (s : Int) = (s : Int) ∧ IntKind.i64.wrap (s : Int) = (s : Int) ∧ (0 : Int) ≤ (j : Int) ∧ (j : Int) < (n : Int) ∧ (0 : Int) ≤ (s : Int) ∧ j < n := by
  have h1 : (t : Int) / 64 = (j : Int) := by omega
  have h2 : (t : Int) % 64 = (s : Int) := by omega
  refine ⟨h1, h2, by rw [Int.tdiv_eq_ediv_of_nonneg (by omega)]; exact h1, by rw [Int.tmod_eq_emod_of_nonneg (by omega)]; exact h2, wrap_64 (by omega) (by omega), wrap_i64 (by omega) (by omega), wrap_64 (by omega) (by omega), wrap_i64 (by omega) (by omega), wrap_64 (by omega) (by omega), wrap_i64 (by omega) (by omega), by omega, by omega, by omega, by omega⟩
set_option maxRecDepth 100000 in
set_option maxHeartbeats 4000000 in
theorem divide_q (a b : Option Addr) (n c m c2 : Nat) (l l2 : List (BitVec 64)) (w : World) (h : QRow w a n c l) (h2 : QRow w b m c2 l2) (hn : n ≤ 50000) (hm : m ≤ 50000) (hz : vW l2 ≠ 0) :
    Calls Try.prog 61 #[.slice a n c, .slice b m c2] w fun e w' => ∃ a1 c1 a3 c3, e = .returned (.tuple #[.slice a1 (tW (dvG (vW l) (vW l2)).1).length c1, .slice a3 (tW (rmG (vW l) (vW l2))).length c3, .bool true]) ∧ QRow w' a1 (tW (dvG (vW l) (vW l2)).1).length c1 (tW (dvG (vW l) (vW l2)).1) ∧ QRow w' a3 (tW (rmG (vW l) (vW l2))).length c3 (tW (rmG (vW l) (vW l2))) ∧ New w w' := by
  obtain ⟨lo, hlo, hlo2, hlo3⟩ := bl_pos hz
  have HD := Lib.hid (deg_q b m c2 l2 w h2 (by omega))
  rw [hlo, show ((lo + 1 : Nat) : Int) - 1 = (lo : Int) by omega] at HD
  have hT := us_le l2
  rw [h2.len_eq] at hT
  have HUS := Lib.hid (used_q b m c2 l2 w h2)
  have hr2 := h2.cut _ hT
  rw [us_take] at hr2
  have hTb : 64 * usN l2 ≤ lo + 64 := by unfold usN; omega
  have hc2 := Nat.le_trans hT h2.le
  obtain ⟨T, hTe⟩ : ∃ T, usN l2 = T := ⟨_, rfl⟩
  rw [hTe] at HUS hr2 hTb hT hc2
  have HCL := Lib.hid (clone_q a n c l w h)
  have HDA := Lib.hid (fun w' (hn' : New w w') => deg_q a n c l w' (h.stay hn') (by omega))
  have hA : vW l < 2 ^ (64 * n) := by have := vW_lt l; rwa [h.len_eq] at this
  have hlw : wL n (vW l) = l := by have := wL_vW l; rwa [h.len_eq] at this
  have hv2 : vW (tW (vW l2)) = vW l2 := vW_tW _
  obtain ⟨A, hAe⟩ : ∃ A, vW l = A := ⟨_, rfl⟩
  obtain ⟨M, hMe⟩ : ∃ M, vW l2 = M := ⟨_, rfl⟩
  rw [hAe] at HDA hA hlw ⊢
  rw [hMe] at hz hlo hlo2 hlo3 hr2 hv2 ⊢
  have HFIN : Hid (∀ q r, A = mulG q M ^^^ r → r < 2 ^ lo → dvG A M = (q, r) ∧ rmG A M = r) := Lib.hid (fun q r h1 h2 => by
    have h3 := dv_is hz h1 (by have := bl_le.2 h2; omega)
    exact ⟨h3, by unfold rmG; rw [h3]⟩)
  have HSTEP : Hid (∀ q r t, A = mulG q M ^^^ r → r < 2 ^ (lo + t + 1) → r.testBit (lo + t) = true → A = mulG (q ^^^ 2 ^ t) M ^^^ (r ^^^ M * 2 ^ t) ∧ r ^^^ M * 2 ^ t < 2 ^ (lo + t)) := Lib.hid (fun q r t h1 h3 h4 => by
    rw [Nat.mul_comm]; exact dv_step hlo2 hlo3 h1 h3 h4)
  have HMT : Hid (∀ t, lo + t < 64 * n → M * 2 ^ t < 2 ^ (64 * n)) := Lib.hid (fun t ht => by
    have := (shift_top (j := t) hlo2 hlo3).2
    rw [Nat.mul_comm]
    exact Nat.lt_of_lt_of_le this (Nat.pow_le_pow_right (by decide) (by omega)))
  have HBA : Hid (A < 2 ^ bl A) := Lib.hid (lt_bl A)
  have hbA : bl A ≤ 64 * n := bl_le.2 hA
  obtain ⟨B, hBe⟩ : ∃ B, bl A = B := ⟨_, rfl⟩
  rw [hBe] at HDA HBA hbA
  have HR2 := Lib.hid hr2
  have HV2 := Lib.hid hv2
  have HA := Lib.hid hA
  have HLW := Lib.hid hlw
  have HMK := Lib.hid (make_w64 n (by omega))
  have s1 : (0 : Int) ≤ (T : Int) := by omega
  have s2 : (T : Int) ≤ (c2 : Int) := by omega
  have hlo0 : (0 : Int) ≤ (lo : Int) := by omega
  have hlob : lo ≤ 10000000 := by
    have := bl_vW l2
    rw [hMe, h2.len_eq, hlo] at this
    omega
  have hTm : T ≤ 50000 := by omega
  clear h h2 hz hlo hlo2 hlo3 hr2 hA hlw hv2 hTe hAe hMe hBe
  go_enter Try.func61, Try.ntmps61
  go_wp2_with fail
  refine HD.out.mono ?_
  rintro e w' ⟨rfl, hw⟩
  replace hw := hw.symm
  subst hw
  clear HD
  go_wp2_with fail
  refine HUS.out.mono ?_
  rintro e w' ⟨rfl, hw⟩
  replace hw := hw.symm
  subst hw
  clear HUS
  go_wp2_with fail
  refine HCL.out.mono ?_
  rintro e w1 ⟨v, rfl, how, hn1⟩
  have HG : Hid (∀ g cap, v = .slice (some ⟨g, 0, none⟩) n cap → g ≠ w1.heap.size ∧ w.heap.size ≤ g) := Lib.hid (fun g cap e => by
    subst e
    have := ow_in2 how
    exact ⟨by omega, this.1⟩)
  have hnz : New w (w1.alloc (.cells (madeCells #[.int .u64 0] n) 34)) := hn1.alloc _
  have hoz := ow_zeros w1 n (by omega)
  have HLE := Lib.hid hn1.le
  have hov := ow_new how ((New.refl w1).alloc (.cells (madeCells #[.int .u64 0] n) 34))
  obtain ⟨W2, hW2⟩ : ∃ z, w1.alloc (.cells (madeCells #[.int .u64 0] n) 34) = z := ⟨_, rfl⟩
  rw [hW2] at hnz hoz hov
  rw [← HLW.out] at hov
  have HO1 := Lib.hid hov
  have HO2 := Lib.hid (ow_base hoz hn1.le)
  have HN := Lib.hid hnz
  have HW2 := Lib.hid hW2
  obtain ⟨g2, hg2⟩ : ∃ g2, w1.heap.size = g2 := ⟨_, rfl⟩
  rw [hg2] at HG HO2 HLE
  have HG2 := Lib.hid hg2
  replace HDA := Lib.hid (HDA.out W2 hnz)
  clear how hn1 hnz hoz hov hW2 hg2 HCL
  go_wp2_with fail
  rw [HMK.out _ _ rfl]
  rw [HW2.out, HG2.out]
  clear HW2 HG2 HMK
  go_wp2_with fail
  refine HDA.out.mono ?_
  rintro e w' ⟨rfl, hw⟩
  replace hw := hw.symm
  subst hw
  clear HDA
  go_wp2_with fail
  go_loopw [10] (fun nv wr => ∃ (z : Int) (q r : Nat), nv = .int .i64 z ∧ Hid (A = mulG q M ^^^ r ∧ q < 2 ^ (64 * n) ∧ r < 2 ^ (64 * n)) ∧ ((z < (lo : Int) ∧ -1 ≤ z ∧ Hid (r < 2 ^ lo)) ∨ ∃ t : Nat, z = ((lo + t : Nat) : Int) ∧ lo + t < 64 * n ∧ Hid (r < 2 ^ (lo + t + 1) ∧ q % 2 ^ (t + 1) = 0)) ∧ wr.ownsRow w.heap.size 34 1 v n ((wL n r).map fun x => .int .u64 (W64 x)) ∧ wr.ownsRow w.heap.size 34 1 (.slice (some ⟨g2, 0, none⟩) n n) n ((wL n q).map fun x => .int .u64 (W64 x)) ∧ New w wr) (fun nv _ => (intOf nv + 1).toNat)
  case atStart =>
    refine ⟨_, 0, A, rfl, Lib.hid ⟨by rw [mulG_zero, Nat.zero_xor], Nat.two_pow_pos _, HA.out⟩, ?_, HO1.out, HO2.out, HN.out⟩
    by_cases hB : B ≤ lo
    · exact .inl ⟨by omega, by omega, Lib.hid (Nat.lt_of_lt_of_le HBA.out (Nat.pow_le_pow_right (by decide) hB))⟩
    · exact .inr ⟨B - lo - 1, by omega, by omega, Lib.hid ⟨by rw [show lo + (B - lo - 1) + 1 = B by omega]; exact HBA.out, Nat.zero_mod _⟩⟩
  case round =>
    clear HO1 HO2 HN HBA
    obtain ⟨z, q, r, rfl, HQ, hz, ho1, ho2, hnew⟩ := hrel
    obtain ⟨wq, hwq⟩ : ∃ z, z = wr := ⟨_, rfl⟩
    rw [← hwq] at ho1 ho2 hnew ⊢
    clear hwq
    rcases hz with ⟨hz1, hz2, HRL⟩ | ⟨t, rfl, htn, HRT⟩
    · obtain ⟨hf1, hf2⟩ := HFIN.out q r HQ.out.1 HRL.out
      obtain ⟨a9, c9, he9, hq9⟩ := QRow.of_owns ho2 (by omega)
      cases he9
      obtain ⟨a8, c8, rfl, hq8⟩ := QRow.of_owns ho1 (by omega)
      have HT1 := Lib.hid (trim_q _ _ _ _ wq hq9)
      rw [vW_wL, Nat.mod_eq_of_lt HQ.out.2.1] at HT1
      have HT2 := Lib.hid (fun w' (hn' : New wq w') => trim_q a8 n c8 _ w' (hq8.stay hn'))
      rw [vW_wL, Nat.mod_eq_of_lt HQ.out.2.2] at HT2
      have HF := Lib.hid (And.intro hf1 hf2)
      have HN := Lib.hid hnew
      clear hf1 hf2 hq9 hq8 ho1 ho2 hnew HG
      go_wp2_with fail
      refine HT1.out.mono ?_
      rintro e w3 ⟨a1, c1, rfl, hq3, hn3⟩
      have HQ3 := Lib.hid hq3
      replace HN := Lib.hid (HN.out.trans hn3)
      replace HT2 := Lib.hid (HT2.out _ hn3)
      clear hq3 hn3 HT1
      go_wp2_with fail
      refine HT2.out.mono ?_
      rintro e w4 ⟨a3, c3, rfl, hq4, hn4⟩
      have HQ4 := Lib.hid hq4
      replace HQ3 := Lib.hid (HQ3.out.stay hn4)
      replace HN := Lib.hid (HN.out.trans hn4)
      clear hq4 hn4 HT2
      go_wp2
      go_ret3
      rw [HF.out.1, HF.out.2]
      exact ⟨_, _, _, _, rfl, HQ3.out, HQ4.out, HN.out⟩
    · obtain ⟨g, cap, rfl, hgb, _⟩ := ow_shape ho1 (by omega)
      obtain ⟨hgg, _⟩ := HG.out g cap rfl
      obtain ⟨a8, c8, he8, hq8⟩ := QRow.of_owns ho1 (by omega)
      cases he8
      have HC := Lib.hid (coef_q _ _ _ _ (lo + t) wq hq8 (by omega))
      rw [vW_wL, Nat.mod_eq_of_lt HQ.out.2.2] at HC
      obtain ⟨k, hk⟩ : ∃ k, lo + t = k := ⟨_, rfl⟩
      rw [hk] at HC htn ⊢
      have hkt : (k : Int) - (lo : Int) = (t : Int) := by omega
      have hkl : (lo : Int) ≤ (k : Int) := by omega
      have hk0 : (0 : Int) ≤ (k : Int) := by omega
      have hkb : k ≤ 10000000 := by omega
      have HO1 := Lib.hid ho1
      have HO2 := Lib.hid ho2
      have HN := Lib.hid hnew
      have HK := Lib.hid hk
      clear ho1 ho2 hnew hq8
      rcases hbit : r.testBit k with _ | _
      · rw [hbit] at HC
        have HZ2 : Hid (((k : Int) - 1 < (lo : Int) ∧ -1 ≤ (k : Int) - 1 ∧ Hid (r < 2 ^ lo)) ∨ ∃ t : Nat, (k : Int) - 1 = ((lo + t : Nat) : Int) ∧ lo + t < 64 * n ∧ Hid (r < 2 ^ (lo + t + 1) ∧ q % 2 ^ (t + 1) = 0)) := Lib.hid (by
          obtain ⟨h1, h2⟩ := HRT.out
          have h3 : r < 2 ^ (lo + t) := lt_less h1 (by rw [hk]; exact hbit)
          cases t with
          | zero => exact .inl ⟨by omega, by omega, Lib.hid h3⟩
          | succ t => exact .inr ⟨t, by omega, by omega, Lib.hid ⟨h3, by have := low_next h2 false; simpa using this⟩⟩)
        clear hbit hk HRT
        go_wp2_with fail
        refine HC.out.mono ?_
        rintro e w' ⟨rfl, hw⟩
        replace hw := hw.symm
        subst hw
        clear HC
        go_wp2
        exact ⟨⟨_, q, r, rfl, HQ, HZ2.out, HO1.out, HO2.out, HN.out⟩, by simp [intOf] <;> omega⟩
      · rw [hbit] at HC
        obtain ⟨hr1, hr2⟩ := HRT.out
        obtain ⟨hs1, hs2⟩ := HSTEP.out q r t HQ.out.1 hr1 (by rw [hk]; exact hbit)
        have hMt := HMT.out t (by omega)
        have hq2 : q ^^^ 2 ^ t < 2 ^ (64 * n) := Nat.xor_lt_two_pow HQ.out.2.1 (Nat.pow_lt_pow_right (by decide) (by omega))
        have hrr : r ^^^ M * 2 ^ t < 2 ^ (64 * n) := Nat.xor_lt_two_pow HQ.out.2.2 hMt
        have HZ2 : Hid (((k : Int) - 1 < (lo : Int) ∧ -1 ≤ (k : Int) - 1 ∧ Hid (r ^^^ M * 2 ^ t < 2 ^ lo)) ∨ ∃ t2 : Nat, (k : Int) - 1 = ((lo + t2 : Nat) : Int) ∧ lo + t2 < 64 * n ∧ Hid (r ^^^ M * 2 ^ t < 2 ^ (lo + t2 + 1) ∧ (q ^^^ 2 ^ t) % 2 ^ (t2 + 1) = 0)) := Lib.hid (by
          cases t with
          | zero => exact .inl ⟨by omega, by omega, Lib.hid hs2⟩
          | succ t => exact .inr ⟨t, by omega, by omega, Lib.hid ⟨hs2, by have := low_next hr2 true; simpa using this⟩⟩)
        have HQ2 : Hid (A = mulG (q ^^^ 2 ^ t) M ^^^ (r ^^^ M * 2 ^ t) ∧ q ^^^ 2 ^ t < 2 ^ (64 * n) ∧ r ^^^ M * 2 ^ t < 2 ^ (64 * n)) := Lib.hid ⟨hs1, hq2, hrr⟩
        obtain ⟨j, hj⟩ : ∃ j, t / 64 = j := ⟨_, rfl⟩
        obtain ⟨s, hs⟩ : ∃ s, t % 64 = s := ⟨_, rfl⟩
        have hOR := or_xor_bit q n t (low_bit hr2)
        have hs64 : s < 64 := by omega
        have htj : 2 ^ (64 * j) * (1#64 <<< s).toNat = 2 ^ t := by
          rw [shl_one s hs64, ← Nat.pow_add]; congr 1; omega
        rw [hj, hs] at hOR
        obtain ⟨e1, e2, e3, e4, e5, e6, e7, e8, e9, e10, e11, e12, e13, hjn⟩ := div_idx hj hs (show t < 64 * n by omega) hn
        obtain ⟨d1, f1⟩ := ow_w64 HO2.out (k := j) hjn
        have hset : (wL n q).set j ((wL n q).getD j 0 ||| 1#64 <<< s) = wL n (q ^^^ 2 ^ t) := by
          rw [wL_get hjn, hOR, wL_xor hjn, htj]
        obtain ⟨u, hu⟩ : ∃ u, (wL n q).getD j 0 = u := ⟨_, rfl⟩
        rw [hu] at d1 hset
        have HP2 : Hid (((wq.setCell ⟨g2, j, none⟩ (.int .u64 (W64 (u ||| 1#64 <<< s)))).drew).ownsRow w.heap.size 34 1 (.slice (some ⟨g2, 0, none⟩) n n) n ((wL n (q ^^^ 2 ^ t)).map fun x => .int .u64 (W64 x))) := Lib.hid (by
          rw [← hset, List.map_set]; exact ow_new (ow_set HO2.out j _) (New.refl _).drew)
        have HP1 : Hid (((wq.setCell ⟨g2, j, none⟩ (.int .u64 (W64 (u ||| 1#64 <<< s)))).drew).ownsRow w.heap.size 34 1 (.slice (some ⟨g, 0, none⟩) n cap) n ((wL n r).map fun x => .int .u64 (W64 x))) := Lib.hid (by
          have hv : (Value.slice (some ⟨g, 0, none⟩) n cap).ownBlock ≠ some g2 := by simp [Value.ownBlock]; exact hgg
          exact ow_new (ow_far HO1.out (a := ⟨g2, j, none⟩) hv _) (New.refl _).drew)
        have HPN : Hid (New w ((wq.setCell ⟨g2, j, none⟩ (.int .u64 (W64 (u ||| 1#64 <<< s)))).drew)) := Lib.hid (New.drew (HN.out.setCell (p := ⟨g2, j, none⟩) HLE.out _))
        have HGG : Hid (w.heap.size ≤ g ∧ g ≠ g2) := Lib.hid ⟨hgb, hgg⟩
        have hfar := HR2.out.far hgb
        have hn5 : n ≤ 100000 := by omega
        have htm : t / 64 + T ≤ n := htm_of hTb hk htn
        have HTB : Hid (t ≤ 10000000) := Lib.hid (Nat.le_trans (hk ▸ Nat.le_add_left t lo) hkb)
        have hMt2 : vW (tW M) * 2 ^ t < 2 ^ (64 * n) := by rw [HV2.out]; exact hMt
        have HASH := Lib.hid (fun w' (ho : w'.ownsRow w.heap.size 34 1 (.slice (some ⟨g, 0, none⟩) n cap) n ((wL n r).map fun x => .int .u64 (W64 x))) (hn' : New w w') => ash_q g n cap w.heap.size b T c2 (tW M) r t w' ho (HR2.out.stay hn') hfar hn5 htm hMt2)
        rw [HV2.out] at HASH
        clear hbit hk HRT hr1 hr2 hs1 hs2 hMt hq2 hrr hOR htj hset hu hj hs HO1 HO2 HN htm hMt2 hgb hgg hjn HQ hfar hn5
        go_wp2_with fail
        refine HC.out.mono ?_
        rintro e w' ⟨rfl, hw⟩
        replace hw := hw.symm
        subst hw
        clear HC
        go_wp2_with fail
        go_region
        clear d1 f1 e1 e2 e3 e4 e5 e6 e7 e8 e9 e10 e11 e12 e13
        have htb := HTB.out
        obtain ⟨W5, hW5⟩ : ∃ z, (wq.setCell ⟨g2, j, none⟩ (.int .u64 (W64 (u ||| 1#64 <<< s)))).drew = z := ⟨_, rfl⟩
        rw [hW5] at HP1 HP2 HPN ⊢
        clear hW5
        go_wp2_with fail
        refine (HASH.out _ HP1.out HPN.out).mono ?_
        rintro e w6 ⟨rfl, ho6, hb6⟩
        have hv : (Value.slice (some ⟨g2, 0, none⟩) n n).ownBlock ≠ some g := by simp [Value.ownBlock]; exact fun e => HGG.out.2 e.symm
        have HS2 := Lib.hid (ow_but HP2.out hb6 hv)
        have HS1 := Lib.hid ho6
        have HSN := Lib.hid (hb6.new w HPN.out HGG.out.1)
        clear ho6 hb6 hv HASH HP1 HP2 HPN
        go_wp2
        exact ⟨⟨_, _, _, rfl, HQ2, HZ2.out, HS1.out, HS2.out, HSN.out⟩, by simp [intOf] <;> omega⟩
end Go.Proofs.Ytppmpledcaonkaa
