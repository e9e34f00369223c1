/- The law Gf2Divides. -/
import Derived.Test.YtppmpledcaonkaaGf2U
namespace Go.Proofs.Ytppmpledcaonkaa
open Go Go.RowKit Go.Bv Go.G2
set_option linter.unusedVariables false
set_option maxRecDepth 100000 in
set_option maxHeartbeats 4000000 in
theorem Gf2Divides_walk (W : World) (a0 : Option Addr) (n0 m0 : Nat) (z0 : List Int) (w0 : IRow .u64 W a0 n0 m0 z0) (r0 : m0 * 8 ≤ 140737488351232) (a1 : Option Addr) (n1 m1 : Nat) (z1 : List Int) (w1 : IRow .u64 W a1 n1 m1 z1) (r1 : m1 * 8 ≤ 140737488351232) :
    Calls Try.prog 5 #[.slice a0 n0 m0, .slice a1 n1 m1] W fun e w' => e = .returned (.bool true) ∧ Below W.heap.size W w' := by
  obtain ⟨l, hl⟩ := w0.words r0
  obtain ⟨l2, hl2⟩ := w1.words r1
  have HL := Lib.hid hl
  have HL2 := Lib.hid hl2
  have HA := Lib.hid awake06
  clear w0 w1 r0 r1 hl hl2
  by_cases hs : n0 ≤ 6
  case neg =>
    have HS := Lib.hid (short_no a0 n0 m0 hs)
    go_enter Try.func5, Try.ntmps5
    go_wp2_with fail
    refine (HA.out _).mono ?_
    rintro e wA ⟨rfl, hn⟩
    have HN := Lib.hid hn
    clear hn HA
    go_wp2_with fail
    refine (HS.out _).mono ?_
    rintro e w' ⟨rfl, hw⟩
    replace hw := hw.symm
    subst hw
    go_wp2
    go_ret
    exact ⟨rfl, HN.out⟩
  have HS := Lib.hid (short_yes a0 n0 m0 hs)
  by_cases hs2 : n1 ≤ 6
  case neg =>
    have HS2 := Lib.hid (short_no a1 n1 m1 hs2)
    go_enter Try.func5, Try.ntmps5
    go_wp2_with fail
    refine (HA.out _).mono ?_
    rintro e wA ⟨rfl, hn⟩
    have HN := Lib.hid hn
    clear hn HA
    go_wp2_with fail
    refine (HS.out _).mono ?_
    rintro e w' ⟨rfl, hw⟩
    replace hw := hw.symm
    subst hw
    go_wp2_with fail
    refine (HS2.out _).mono ?_
    rintro e w' ⟨rfl, hw⟩
    replace hw := hw.symm
    subst hw
    go_wp2
    go_ret
    exact ⟨rfl, HN.out⟩
  have HS2 := Lib.hid (short_yes a1 n1 m1 hs2)
  have hA : vW l < 2 ^ (64 * n0) := by have := vW_lt l; rwa [HL.out.len_eq] at this
  have hM : vW l2 < 2 ^ (64 * n1) := by have := vW_lt l2; rwa [HL2.out.len_eq] at this
  have HOM := Lib.hid (fun w' (hn' : New W w') => of_r a1 n1 m1 l2 w' (HL2.out.stay hn') (by omega))
  have HDG := Lib.hid (fun w' a c (hr : LRow w' a (64 * n1) c (bO (vW l2) (64 * n1))) => deg_r a (64 * n1) c _ w' hr (by omega))
  rw [vB_bO_all hM] at HDG
  by_cases hz : vW l2 = 0
  · have HDV := Lib.hid (fun w' (hn' : New W w') => div_z a0 a1 n0 m0 n1 m1 l2 w' (HL2.out.stay hn') (by omega) hz)
    have HMD := Lib.hid (fun w' (hn' : New W w') => mod_z a0 a1 n0 m0 n1 m1 l2 w' (HL2.out.stay hn') (by omega) hz)
    rw [hz] at HDG HOM
    rw [show (((bl 0 : Nat) : Int) - 1) = -1 from rfl] at HDG
    obtain ⟨L, hL⟩ : ∃ L, 64 * n1 = L := ⟨_, rfl⟩
    rw [hL] at HDG HOM
    clear hA hM hz hL
    go_enter Try.func5, Try.ntmps5
    go_wp2_with fail
    refine (HA.out _).mono ?_
    rintro e wA ⟨rfl, hn⟩
    have HN := Lib.hid hn
    clear hn HA
    go_wp2_with fail
    refine (HS.out _).mono ?_
    rintro e w' ⟨rfl, hw⟩
    replace hw := hw.symm
    subst hw
    go_wp2_with fail
    refine (HS2.out _).mono ?_
    rintro e w' ⟨rfl, hw⟩
    replace hw := hw.symm
    subst hw
    go_wp2_with fail
    refine (HDV.out _ HN.out).mono ?_
    rintro e w' ⟨rfl, hw⟩
    replace hw := hw.symm
    subst hw
    go_wp2_with fail
    refine (HMD.out _ HN.out).mono ?_
    rintro e w' ⟨rfl, hw⟩
    replace hw := hw.symm
    subst hw
    go_wp2_with fail
    refine (HOM.out _ HN.out).mono ?_
    rintro e wB ⟨a2, c2, rfl, hr, hn⟩
    replace HN := Lib.hid (HN.out.trans hn)
    have HR := Lib.hid hr
    clear hr
    clear hn
    go_wp2_with fail
    refine (HDG.out _ _ _ HR.out).mono ?_
    rintro e w' ⟨rfl, hw⟩
    replace hw := hw.symm
    subst hw
    go_wp2
    go_ret
    exact ⟨rfl, HN.out⟩
  obtain ⟨lo, hlo, _, _⟩ := bl_pos hz
  rw [hlo, show ((lo + 1 : Nat) : Int) - 1 = (lo : Int) by omega] at HDG
  have HDV := Lib.hid (fun w' (hn' : New W w') => div_q a0 a1 n0 m0 n1 m1 l l2 w' (HL.out.stay hn') (HL2.out.stay hn') (by omega) (by omega) hz)
  have HMD := Lib.hid (fun w' (hn' : New W w') => mod_q a0 a1 n0 m0 n1 m1 l l2 w' (HL.out.stay hn') (HL2.out.stay hn') (by omega) (by omega) hz)
  have HOA := Lib.hid (fun w' (hn' : New W w') => of_r a0 n0 m0 l w' (HL.out.stay hn') (by omega))
  have hzz : vB (bO (vW l2) (64 * n1)) ≠ 0 := by rw [vB_bO_all hM]; exact hz
  have HDR := Lib.hid (fun w' a c b c9 (hr : LRow w' a (64 * n0) c (bO (vW l) (64 * n0))) (hr2 : LRow w' b (64 * n1) c9 (bO (vW l2) (64 * n1))) => divide_r a b (64 * n0) c (64 * n1) c9 _ _ w' hr hr2 (by omega) (by omega) hzz)
  rw [vB_bO_all hM, vB_bO_all hA] at HDR
  obtain ⟨hsp, hsr⟩ := dv_spec (a := vW l) hz
  have hrm : rmG (vW l) (vW l2) = (dvG (vW l) (vW l2)).2 := rfl
  rw [← hrm] at hsp hsr
  obtain ⟨A, hAe⟩ : ∃ A, vW l = A := ⟨_, rfl⟩
  have HV2 := Lib.hid (rfl : vW l2 = vW l2)
  obtain ⟨q, hq⟩ : ∃ q, (dvG (vW l) (vW l2)).1 = q := ⟨_, rfl⟩
  obtain ⟨r, hr⟩ : ∃ r, rmG (vW l) (vW l2) = r := ⟨_, rfl⟩
  rw [hq] at HDV HDR hsp
  rw [hr] at HMD HDR hsp hsr
  rw [hAe] at HOA HDR hsp hA
  have hbr : bl r < bl (vW l2) := hsr
  have hq6 : (tW q).length ≤ 20000 ∧ (tW r).length ≤ 20000 := by
    have h1 := bl_le.2 hM
    constructor
    · rw [tW_len]
      by_cases h0 : q = 0
      · rw [h0]; decide
      · have h3 : mulG q (vW l2) = A ^^^ r := xor_swap hsp.symm
        have h4 := mulG_ne h0 hz
        rw [h3] at h4
        have h5 : bl (A ^^^ r) ≤ 64 * (n0 + n1) := bl_le.2 (Nat.xor_lt_two_pow (Nat.lt_of_lt_of_le hA (Nat.pow_le_pow_right (by decide) (by omega))) (bl_le.1 (by omega)))
        omega
    · rw [tW_len]; omega
  have HMU := Lib.hid (fun w' a c (hq9 : QRow w' a (tW q).length c (tW q)) (hn' : New W w') => mul_q a a1 _ c n1 m1 _ l2 w' hq9 (HL2.out.stay hn') (by omega) (by omega))
  rw [vW_tW] at HMU
  have hml : (tW (mulG q (vW l2))).length ≤ 100000 := by
    rw [tW_len]
    have h1 := hq6.1
    rw [tW_len] at h1
    have := bl_le.2 (mulG_lt (n := bl q) (m := 64 * n1) (Nat.lt_of_lt_of_le (lt_bl q) (Nat.pow_le_pow_right (by decide) (by omega))) hM)
    omega
  have HAD := Lib.hid (fun w' a c b c9 (h1 : QRow w' a (tW (mulG q (vW l2))).length c (tW (mulG q (vW l2)))) (h2 : QRow w' b (tW r).length c9 (tW r)) => add_q a b _ c _ c9 _ _ w' h1 h2 hml (by omega))
  rw [vW_tW, vW_tW, ← hsp] at HAD
  have HW1 := Lib.hid (fun w' a c b L c9 (h1 : QRow w' a (tW q).length c (tW q)) (h2 : LRow w' b L c9 (bO q L)) (hL : L ≤ 1000000) (hqL : q < 2 ^ L) => words06 a b _ c L c9 _ _ w' h1 h2 hL)
  have HW2 := Lib.hid (fun w' a c b c9 (h1 : QRow w' a (tW r).length c (tW r)) (h2 : LRow w' b (64 * n0) c9 (bO r (64 * n0))) (hqL : r < 2 ^ (64 * n0)) => words06 a b _ c (64 * n0) c9 _ _ w' h1 h2 (by omega))
  have HTR := Lib.hid (fun w' (hn' : New W w') => trim_q a0 n0 m0 l w' (HL.out.stay hn'))
  rw [hAe] at HTR
  have HDB := Lib.hid (fun w' a c (h1 : QRow w' a (tW r).length c (tW r)) => deg_q a _ c _ w' h1 (by omega))
  rw [vW_tW] at HDB
  have HDM := Lib.hid (fun w' (hn' : New W w') => deg_q a1 n1 m1 l2 w' (HL2.out.stay hn') (by omega))
  rw [hlo, show ((lo + 1 : Nat) : Int) - 1 = (lo : Int) by omega] at HDM
  have hdd : ((bl r : Int) - 1) < (lo : Int) := by omega
  obtain ⟨M, hMe⟩ : ∃ M, vW l2 = M := ⟨_, rfl⟩
  rw [hMe] at HOM HDG HDR HMU HAD
  obtain ⟨B, hBe⟩ : ∃ B, bl r = B := ⟨_, rfl⟩
  rw [hBe] at HDB hdd
  have HL60 : Hid (64 * n0 ≤ 1000000) := Lib.hid (by omega)
  obtain ⟨L0, hL0⟩ : ∃ L, 64 * n0 = L := ⟨_, rfl⟩
  obtain ⟨L1, hL1⟩ : ∃ L, 64 * n1 = L := ⟨_, rfl⟩
  rw [hL0] at HOA HDR HW2 HL60
  rw [hL1] at HOM HDG HDR
  have hlo0 : ¬ (lo : Int) < 0 := by omega
  clear hA hM hz hL0 hL1 hlo hzz hsp hsr hrm hAe hq hr hbr hq6 hml hMe hBe HV2
  go_enter Try.func5, Try.ntmps5
  go_wp2_with fail
  refine (HA.out _).mono ?_
  rintro e wA ⟨rfl, hn⟩
  have HN := Lib.hid hn
  clear hn HA
  go_wp2_with fail
  refine (HS.out _).mono ?_
  rintro e w' ⟨rfl, hw⟩
  replace hw := hw.symm
  subst hw
  go_wp2_with fail
  refine (HS2.out _).mono ?_
  rintro e w' ⟨rfl, hw⟩
  replace hw := hw.symm
  subst hw
  go_wp2_with fail
  refine (HDV.out _ HN.out).mono ?_
  rintro e wB ⟨b1, d1, rfl, hq, hn⟩
  replace HN := Lib.hid (HN.out.trans hn)
  have HQ := Lib.hid hq
  clear hq HDV
  clear hn
  go_wp2_with fail
  refine (HMD.out _ HN.out).mono ?_
  rintro e wC ⟨b2, d2, rfl, hq, hn⟩
  replace HQ := Lib.hid (HQ.out.stay hn)
  replace HN := Lib.hid (HN.out.trans hn)
  have HR := Lib.hid hq
  clear hq HMD
  clear hn
  go_wp2_with fail
  refine (HOM.out _ HN.out).mono ?_
  rintro e wD ⟨b3, d3, rfl, hr, hn⟩
  replace HQ := Lib.hid (HQ.out.stay hn)
  replace HR := Lib.hid (HR.out.stay hn)
  replace HN := Lib.hid (HN.out.trans hn)
  have HM := Lib.hid hr
  clear hr
  clear hn
  go_wp2_with fail
  refine (HDG.out _ _ _ HM.out).mono ?_
  rintro e w' ⟨rfl, hw⟩
  replace hw := hw.symm
  subst hw
  go_wp2_with fail
  refine (HOA.out _ HN.out).mono ?_
  rintro e wE ⟨b4, d4, rfl, hr, hn⟩
  replace HQ := Lib.hid (HQ.out.stay hn)
  replace HR := Lib.hid (HR.out.stay hn)
  replace HN := Lib.hid (HN.out.trans hn)
  have HX := Lib.hid hr
  clear hr HM
  clear hn
  go_wp2_with fail
  refine (HOM.out _ HN.out).mono ?_
  rintro e wF ⟨b5, d5, rfl, hr, hn⟩
  replace HQ := Lib.hid (HQ.out.stay hn)
  replace HR := Lib.hid (HR.out.stay hn)
  replace HX := Lib.hid (HX.out.stay hn)
  replace HN := Lib.hid (HN.out.trans hn)
  have HM := Lib.hid hr
  clear hr HOM
  clear hn
  go_wp2_with fail
  refine (HDR.out _ _ _ _ _ HX.out HM.out).mono ?_
  rintro e wG ⟨b6, L6, d6, b7, d7, rfl, hr6, hr7, h61, h62, h71, hn⟩
  replace HQ := Lib.hid (HQ.out.stay hn)
  replace HR := Lib.hid (HR.out.stay hn)
  replace HN := Lib.hid (HN.out.trans hn)
  have H6 := Lib.hid hr6
  have H7 := Lib.hid hr7
  have HB6 := Lib.hid (And.intro h61 (And.intro h62 h71))
  clear hr6 hr7 h61 h62 h71 HX HM HDR
  clear hn
  go_wp2_with fail
  refine (HMU.out _ _ _ HQ.out HN.out).mono ?_
  rintro e wH ⟨b8, d8, rfl, hq, hn⟩
  replace HQ := Lib.hid (HQ.out.stay hn)
  replace HR := Lib.hid (HR.out.stay hn)
  replace H6 := Lib.hid (H6.out.stay hn)
  replace H7 := Lib.hid (H7.out.stay hn)
  replace HN := Lib.hid (HN.out.trans hn)
  have H8 := Lib.hid hq
  clear hq HMU
  clear hn
  go_wp2_with fail
  refine (HAD.out _ _ _ _ _ H8.out HR.out).mono ?_
  rintro e wI ⟨b9, d9, rfl, hq, hn⟩
  replace HQ := Lib.hid (HQ.out.stay hn)
  replace HR := Lib.hid (HR.out.stay hn)
  replace H6 := Lib.hid (H6.out.stay hn)
  replace H7 := Lib.hid (H7.out.stay hn)
  replace HN := Lib.hid (HN.out.trans hn)
  have H9 := Lib.hid hq
  clear hq HAD H8
  clear hn
  replace HW1 := Lib.hid (HW1.out _ _ _ _ _ _ HQ.out H6.out (Nat.le_trans HB6.out.2.1 HL60.out) HB6.out.1)
  rw [vB_bO_all HB6.out.1, beq_self_eq_true] at HW1
  go_wp2_with fail
  refine (HW1.out).mono ?_
  rintro e wJ ⟨rfl, hn⟩
  replace HR := Lib.hid (HR.out.stay hn)
  replace H7 := Lib.hid (H7.out.stay hn)
  replace H9 := Lib.hid (H9.out.stay hn)
  replace HN := Lib.hid (HN.out.trans hn)
  clear hn
  replace HW2 := Lib.hid (HW2.out _ _ _ _ _ HR.out H7.out HB6.out.2.2)
  rw [vB_bO_all HB6.out.2.2, beq_self_eq_true] at HW2
  go_wp2_with fail
  refine (HW2.out).mono ?_
  rintro e wK ⟨rfl, hn⟩
  replace HR := Lib.hid (HR.out.stay hn)
  replace H9 := Lib.hid (H9.out.stay hn)
  replace HN := Lib.hid (HN.out.trans hn)
  clear hn
  go_wp2_with fail
  refine (HTR.out _ HN.out).mono ?_
  rintro e wL ⟨b10, d10, rfl, hq, hn⟩
  replace HR := Lib.hid (HR.out.stay hn)
  replace H9 := Lib.hid (H9.out.stay hn)
  replace HN := Lib.hid (HN.out.trans hn)
  have H10 := Lib.hid hq
  clear hq HTR
  clear hn
  go_wp2_with fail
  refine (words_ref _ _ _ _ _ _ _ _ _ _ H9.out H10.out HN.out).mono ?_
  rintro e wM ⟨rfl, hn, hn2⟩
  rw [beq_self_eq_true]
  replace HR := Lib.hid (HR.out.stay hn)
  replace HN := Lib.hid hn2
  clear hn hn2 H9 H10
  go_wp2_with fail
  refine (HDB.out _ _ _ HR.out).mono ?_
  rintro e w' ⟨rfl, hw⟩
  replace hw := hw.symm
  subst hw
  go_wp2_with fail
  refine (HDM.out _ HN.out).mono ?_
  rintro e w' ⟨rfl, hw⟩
  replace hw := hw.symm
  subst hw
  go_wp2
  go_ret
  exact ⟨rfl, HN.out⟩
end Go.Proofs.Ytppmpledcaonkaa
