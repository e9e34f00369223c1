/- The statement TallyWords: for every number of bits and every limit. -/
import Derived.Test.YtdiikoiadhdeoaaTlyD
namespace Go.Proofs.Ytdiikoiadhdeoaa
open Go.RowKit Go.Bv Go.Tly
set_option linter.unusedVariables false
theorem even_row51 {w : World} {g n c : Nat} {l : Nat → BitVec 64} (h : CR w g n l) (hn : n ≤ 4096) (hc : n ≤ c) (hc2 : c ≤ maxLen) (x : BitVec 64) (hx : ∀ v, v < n → l v = x) :
    Calls Try.prog 17 #[.slice (some ⟨g, 0, none⟩) n c, .int .u64 (W64 x), .int .u64 (W64 (ofN n))] w fun e w' => e = .returned (.bool true) ∧ w' = w := by
  refine even_51 _ n c _ x w (h.row (by omega) hc (by unfold maxLen at hc2; omega)) (fun i hi => ?_)
  rw [List.getD_eq_getElem?_getD, List.getElem?_map, List.getElem?_range hi]
  exact hx i hi
set_option maxHeartbeats 4000000 in
theorem TallyWords_walk (W : World) (a0 : Int) (w0 : (Lit.int .i64 a0).wf = true) (a1 : Int) (w1 : (Lit.int .u64 a1).wf = true) :
    Calls Try.prog 3 #[.int .i64 a0, .int .u64 a1] W fun e w' => e = .returned (.bool true) ∧ Below W.heap.size W w' := by
  obtain ⟨n, rfl⟩ := wf64 w1
  clear w0 w1
  have HRC := Lib.hid (fun w => rcheck_51 a0 n w)
  by_cases hb : bad51 a0 n.toNat = 0
  · have ht : 1 ≤ a0 ∧ a0 ≤ 12 := by
      by_cases h : a0 < 1 ∨ 12 < a0
      · rw [bad51_1 _ h] at hb; omega
      · omega
    have h0 : ¬ n.toNat = 0 := by
      intro h; rw [bad51_8 ht h] at hb; omega
    have hn : ¬ 2 ^ a0.toNat < n.toNat := by
      intro h; rw [bad51_9 ht h0 h] at hb; omega
    rw [hb] at HRC
    obtain ⟨t, rfl⟩ : ∃ t : Nat, a0 = (t : Int) := ⟨a0.toNat, by omega⟩
    rw [show (t : Int).toNat = t from rfl] at hn
    have ht2 : 1 ≤ t ∧ t ≤ 12 := by omega
    have hA4 : 2 ^ t ≤ 4096 := Nat.le_trans (Nat.pow_le_pow_right (by omega) ht2.2) (by decide)
    obtain ⟨m, hP⟩ : ∃ m, IsP n.toNat m := ⟨_, isP_len (by omega) (by omega)⟩
    have hmt := isP_le (t := t) hP (by omega)
    have HL := Lib.hid (fun w => lem_51 t ht2 n h0 hn w)
    have HM := Lib.hid (fun w => msk_51 t ht2 n h0 hn m hP w)
    have HRL := Lib.hid (fun w => rlem_51 t ht2 n h0 hn w)
    have HRM := Lib.hid (fun w => rmsk_51 t ht2 n h0 hn m hP w)
    have HP := Lib.hid (fun w => power_51 t (by omega) w)
    -- the numbers
    obtain ⟨N, hN⟩ : ∃ N, n.toNat = N := ⟨_, rfl⟩
    have hnN : n = ofN N := by rw [← hN, ofN_of]
    rw [hN] at HL HM HRL HRM h0 hn hP
    have hA0 := Nat.two_pow_pos t
    have hSm := Nat.two_pow_pos m
    have hdv : 2 ^ t = 2 ^ m * 2 ^ (t - m) := by rw [← Nat.pow_add]; congr 1; omega
    obtain ⟨A, hAe⟩ : ∃ A, 2 ^ t = A := ⟨_, rfl⟩
    obtain ⟨S, hSe⟩ : ∃ S, 2 ^ m = S := ⟨_, rfl⟩
    obtain ⟨T, hTe⟩ : ∃ T, 2 ^ (t - m) = T := ⟨_, rfl⟩
    have hT0 : 0 < T := hTe ▸ Nat.two_pow_pos _
    have hNS : N ≤ S := hSe ▸ hP.1
    have hS2 : S < 2 * N := by
      rcases hP.2 with h | h
      · subst h; simp at hSe; omega
      · have : 2 ^ m = 2 * 2 ^ (m - 1) := by
          obtain ⟨k, rfl⟩ : ∃ k, m = k + 1 := ⟨m - 1, by
            rcases Nat.eq_zero_or_pos m with h1 | h1
            · subst h1; simp at hSe h; omega
            · omega⟩
          rw [Nat.pow_succ, Nat.add_sub_cancel]; omega
        omega
    rw [hAe] at HL HM HRL HRM HP hA4 hn hA0 hdv
    rw [hSe] at HM HRM hdv hSm
    rw [hTe] at hdv
    have hev1 : ∀ v, v < N → cl (lemF A N) A v = ofN (A / N) := fun v hv => by unfold cl; rw [lem_even hA0 (by omega) hv]
    have hlo1 : lo51 (lemF A N) A = ofN (A % N) := by unfold lo51; rw [lem_lost hA0 (by omega)]
    have hev2 : ∀ v, v < N → cl (mskF S N) A v = ofN T := fun v hv => by unfold cl; rw [hdv, msk_even hSm hNS hv T]
    obtain ⟨L, hL⟩ : ∃ L, cntN (fun x => (mskF S N x).isNone) A = L := ⟨_, rfl⟩
    have hlost : N * T + L = A := by rw [← hL]; have h := msk_lost hSm hNS T; rw [← hdv] at h; exact h
    have hlo2 : lo51 (mskF S N) A = ofN L := by unfold lo51; rw [hL]
    have h2L : 2 * L < A := by
      have h1 : S * T < 2 * N * T := Nat.mul_lt_mul_of_pos_right hS2 hT0
      rw [Nat.mul_assoc, ← hdv] at h1
      omega
    have hNT : T * N = N * T := Nat.mul_comm _ _
    rw [hlo1] at HL HRL
    rw [hlo2] at HM HRM
    have HE1 := Lib.hid hev1
    have HE2 := Lib.hid hev2
    have HLN : Hid (N ≤ 4096 ∧ 0 < N) := Lib.hid ⟨by omega, by omega⟩
    have HEV : Hid (∀ (w : World) (g c : Nat) (l : Nat → BitVec 64) (x : BitVec 64), CR w g N l → N ≤ c → c ≤ maxLen → (∀ v, v < N → l v = x) → Calls Try.prog 17 #[.slice (some ⟨g, 0, none⟩) N c, .int .u64 (W64 x), .int .u64 (W64 n)] w fun e w' => e = .returned (.bool true) ∧ w' = w) := Lib.hid (fun w g c l x h h1 h2 h3 => by rw [hnN]; exact even_row51 h (by omega) h1 h2 x h3)
    have hz2 : ¬ W64 n = 0 := by rw [hnN]; exact nzero h0 (by omega)
    have hq1 : ofN A / n = ofN (A / N) := by rw [hnN]; exact ofN_div (by omega) (by omega)
    have hq2 : ofN A % n = ofN (A % N) := by rw [hnN]; exact ofN_mod (by omega) (by omega)
    have hq3 : ofN T * n + ofN L = ofN A := by
      rw [hnN, ofN_mul]; unfold ofN; rw [← BitVec.ofNat_add, hNT, hlost]
    have hq4 : decide (W64 (2#64 * ofN L) < W64 (ofN A)) = true := by
      rw [show (2#64 : BitVec 64) = ofN 2 from rfl, ofN_mul, W64_ofN (by omega), W64_ofN (by omega)]
      exact decide_eq_true (by omega)
    have hNp : (0 : Int) < (N : Int) := by omega
    have hN1 : (N : Int) ≤ 4096 := by omega
    have hQR : ∀ (w : World) (g c : Nat) (l : Nat → BitVec 64), CR w g N l → N ≤ c → c ≤ maxLen → QRow w (some ⟨g, 0, none⟩) N c ((List.range N).map l) := fun w g c l h h1 h2 => h.row (by omega) h1 (by unfold maxLen at h2; omega)
    have HQR := Lib.hid hQR
    have HML : Hid (N ≤ maxLen) := Lib.hid (by unfold maxLen; omega)
    obtain ⟨pA, hpA⟩ : ∃ z, ofN A = z := ⟨_, rfl⟩
    obtain ⟨pT, hpT⟩ : ∃ z, ofN T = z := ⟨_, rfl⟩
    obtain ⟨pL, hpL⟩ : ∃ z, ofN L = z := ⟨_, rfl⟩
    obtain ⟨pq, hpq⟩ : ∃ z, ofN (A / N) = z := ⟨_, rfl⟩
    obtain ⟨pr, hpr⟩ : ∃ z, ofN (A % N) = z := ⟨_, rfl⟩
    obtain ⟨lf, hlf⟩ : ∃ z, cl (lemF A N) A = z := ⟨_, rfl⟩
    obtain ⟨mf, hmf⟩ : ∃ z, cl (mskF S N) A = z := ⟨_, rfl⟩
    rw [hpA] at hq1 hq2 hq3 hq4 HP
    rw [hpT] at hq3 HE2
    rw [hpL] at hq3 hq4 HM HRM
    rw [hpq] at hq1 HE1
    rw [hpr] at hq2 HL HRL
    rw [hlf] at HE1 HL HRL
    rw [hmf] at HE2 HM HRM
    clear hpA hpT hpL hpq hpr hlf hmf hev1 hev2 hlo1 hlo2 hL hlost h2L hNT hdv hA0 hSm hAe hSe hTe hT0 hNS hS2 hmt hP hnN hN h0 hn hA4 hb ht ht2 hQR
    go_enter Try.func3, Try.ntmps3
    go_wp2_with fail
    refine (awake51 _).mono ?_
    rintro e wa ⟨rfl, na⟩
    have HNa := Lib.hid na
    clear na
    go_wp2_with fail
    refine (HL.out _).mono ?_
    rintro e wb ⟨g1, rfl, hc1, nb⟩
    have HCb := Lib.hid hc1
    have HNb := Lib.hid (HNa.out.trans nb)
    clear hc1 nb
    go_wp2_with fail
    refine (HM.out _).mono ?_
    rintro e wc ⟨g2, rfl, hc2, nc⟩
    have HCb2 := Lib.hid (HCb.out.stay nc)
    have HCc := Lib.hid hc2
    have HNc := Lib.hid (HNb.out.trans nc)
    clear hc2 nc HCb HNb HNa
    go_wp2_with fail
    refine (HRC.out _).mono ?_
    rintro e w' ⟨rfl, hw⟩
    replace hw := hw.symm
    subst hw
    go_wp2_with fail
    refine (HRL.out _).mono ?_
    rintro e wd ⟨g3, c3, rfl, h31, h32, hc3, nd⟩
    have HA1 := Lib.hid (HCb2.out.stay nd)
    have HA2 := Lib.hid (HCc.out.stay nd)
    have HA3 := Lib.hid hc3
    have H31 := Lib.hid h31
    have H32 := Lib.hid h32
    have HNd := Lib.hid (HNc.out.trans nd)
    clear hc3 nd HCb2 HCc HNc h31 h32
    go_wp2_with fail
    refine (HRM.out _).mono ?_
    rintro e we ⟨g4, c4, rfl, h41, h42, hc4, ne⟩
    have HB1 := Lib.hid (HA1.out.stay ne)
    have HB2 := Lib.hid (HA2.out.stay ne)
    have HB3 := Lib.hid (HA3.out.stay ne)
    have HB4 := Lib.hid hc4
    have H41 := Lib.hid h41
    have H42 := Lib.hid h42
    have HNe := Lib.hid (HNd.out.trans ne)
    clear hc4 ne HA1 HA2 HA3 HNd h41 h42
    go_wp2_with fail
    refine (words_ref _ _ _ _ _ _ _ _ we we (HQR.out _ _ _ _ HB1.out (Nat.le_refl _) HML.out) (HQR.out _ _ _ _ HB3.out H31.out H32.out) (New.refl we)).mono ?_
    rw [beq_self_eq_true]
    rintro e wf ⟨rfl, nf, -⟩
    have HC1 := Lib.hid (HB1.out.stay nf)
    have HC2 := Lib.hid (HB2.out.stay nf)
    have HC4 := Lib.hid (HB4.out.stay nf)
    have HNf := Lib.hid (HNe.out.trans nf)
    clear nf HB1 HB2 HB3 HB4 HNe
    go_wp2_with fail
    refine (words_ref _ _ _ _ _ _ _ _ wf wf (HQR.out _ _ _ _ HC2.out (Nat.le_refl _) HML.out) (HQR.out _ _ _ _ HC4.out H41.out H42.out) (New.refl wf)).mono ?_
    rw [beq_self_eq_true]
    rintro e wg ⟨rfl, ng, -⟩
    have HD1 := Lib.hid (HC1.out.stay ng)
    have HD2 := Lib.hid (HC2.out.stay ng)
    have HNg := Lib.hid (HNf.out.trans ng)
    clear ng HC1 HC2 HC4 HNf
    go_wp2_with fail
    refine (HP.out _).mono ?_
    rintro e w' ⟨rfl, hw⟩
    replace hw := hw.symm
    subst hw
    have c0 := (HD2.out.get (v := 0) HLN.out.2).1
    rw [HE2.out 0 HLN.out.2] at c0
    go_wp2_with fail
    refine (HEV.out _ _ _ _ _ HD1.out (Nat.le_refl _) HML.out HE1.out).mono ?_
    rintro e w' ⟨rfl, hw⟩
    replace hw := hw.symm
    subst hw
    go_wp2_with fail
    refine (HEV.out _ _ _ _ _ HD2.out (Nat.le_refl _) HML.out HE2.out).mono ?_
    rintro e w' ⟨rfl, hw⟩
    replace hw := hw.symm
    subst hw
    go_wp2
    go_ret
    exact ⟨rfl, HNg.out⟩
  · have HL := Lib.hid (fun w => lem_bad51 a0 n hb w)
    have HM := Lib.hid (fun w => msk_bad51 a0 n hb w)
    obtain ⟨b, hbb⟩ : ∃ b, bad51 a0 n.toNat = b := ⟨_, rfl⟩
    rw [hbb] at HL HM HRC hb
    have hb1 : (b != 0) = true := by simpa using hb
    have hb2 : (b == b) = true := by simp
    clear hbb hb
    go_enter Try.func3, Try.ntmps3
    go_wp2_with fail
    refine (awake51 _).mono ?_
    rintro e wa ⟨rfl, na⟩
    have HNa := Lib.hid na
    clear na
    go_wp2_with fail
    refine (HL.out _).mono ?_
    rintro e wb ⟨rfl, nb⟩
    have HNb := Lib.hid (HNa.out.trans nb)
    clear nb
    go_wp2_with fail
    refine (HM.out _).mono ?_
    rintro e wc ⟨rfl, nc⟩
    have HNc := Lib.hid (HNb.out.trans nc)
    clear nc
    go_wp2_with fail
    refine (HRC.out _).mono ?_
    rintro e w' ⟨rfl, hw⟩
    replace hw := hw.symm
    subst hw
    go_wp2
    go_ret
    exact ⟨rfl, HNc.out⟩
end Go.Proofs.Ytdiikoiadhdeoaa
