/- The law Gf2Common. -/
import Derived.Test.YtppmpledcaonkaaGf2G
namespace Go.Proofs.Ytppmpledcaonkaa
open Go Go.RowKit Go.Bv Go.G2
set_option linter.unusedVariables false
/-- Of, of words without zeros at the end -/
theorem oft (X : Nat) (hX : bl X ≤ 20000) (a : Option Addr) (c : Nat) (w : World) (h : QRow w a (tW X).length c (tW X)) :
    Calls Try.prog 16 #[.slice a (tW X).length c] w fun e w' => ∃ a' c', e = .returned (.slice a' (64 * (tW X).length : Nat) c') ∧ LRow w' a' (64 * (tW X).length) c' (bO X (64 * (tW X).length)) ∧ New w w' := by
  have := of_r a _ c (tW X) w h (by rw [tW_len]; omega)
  rwa [vW_tW] at this
theorem lt_len (X : Nat) : X < 2 ^ (64 * (tW X).length) := Nat.lt_of_lt_of_le (lt_bl X) (Nat.pow_le_pow_right (by decide) (by rw [tW_len]; omega))
set_option maxRecDepth 100000 in
set_option maxHeartbeats 8000000 in
theorem Gf2Common_walk (W : World) (a0 : Option Addr) (n0 m0 : Nat) (z0 : List Int) (w0 : IRow .u64 W a0 n0 m0 z0) (r0 : m0 * 8 ≤ 140737488351232) (a1 : Option Addr) (n1 m1 : Nat) (z1 : List Int) (w1 : IRow .u64 W a1 n1 m1 z1) (r1 : m1 * 8 ≤ 140737488351232) (a2 : Option Addr) (n2 m2 : Nat) (z2 : List Int) (w2 : IRow .u64 W a2 n2 m2 z2) (r2 : m2 * 8 ≤ 140737488351232) :
    Calls Try.prog 6 #[.slice a0 n0 m0, .slice a1 n1 m1, .slice a2 n2 m2] W fun e w' => e = .returned (.bool true) ∧ Below W.heap.size W w' := by
  obtain ⟨l, hl⟩ := w0.words r0
  obtain ⟨l1, hl1⟩ := w1.words r1
  obtain ⟨l2, hl2⟩ := w2.words r2
  have HL := Lib.hid hl
  have HL1 := Lib.hid hl1
  have HL2 := Lib.hid hl2
  have HA := Lib.hid awake06
  clear w0 w1 w2 r0 r1 r2 hl hl1 hl2
  by_cases s0 : (2 : Int) < (n0 : Int)
  · go_enter Try.func6, Try.ntmps6
    go_wp2_with fail
    refine (HA.out _).mono ?_
    rintro e wA ⟨rfl, hn⟩
    have HN := Lib.hid hn
    clear hn HA
    go_wp2
    go_ret
    exact ⟨rfl, HN.out⟩
  by_cases s1 : (2 : Int) < (n1 : Int)
  · go_enter Try.func6, Try.ntmps6
    go_wp2_with fail
    refine (HA.out _).mono ?_
    rintro e wA ⟨rfl, hn⟩
    have HN := Lib.hid hn
    clear hn HA
    go_wp2
    go_ret
    exact ⟨rfl, HN.out⟩
  by_cases s2 : (2 : Int) < (n2 : Int)
  · go_enter Try.func6, Try.ntmps6
    go_wp2_with fail
    refine (HA.out _).mono ?_
    rintro e wA ⟨rfl, hn⟩
    have HN := Lib.hid hn
    clear hn HA
    go_wp2
    go_ret
    exact ⟨rfl, HN.out⟩
  have hbA : bl (vW l) ≤ 128 := by have := bl_vW l; rw [HL.out.len_eq] at this; omega
  have hbB : bl (vW l1) ≤ 128 := by have := bl_vW l1; rw [HL1.out.len_eq] at this; omega
  have hbM : bl (vW l2) ≤ 64 * n2 := by have := bl_vW l2; rwa [HL2.out.len_eq] at this
  have HMX := Lib.hid (fun w' (hn' : New W w') => mul_q a0 a2 n0 m0 n2 m2 l l2 w' (HL.out.stay hn') (HL2.out.stay hn') (by omega) (by omega))
  have HMY := Lib.hid (fun w' (hn' : New W w') => mul_q a1 a2 n1 m1 n2 m2 l1 l2 w' (HL1.out.stay hn') (HL2.out.stay hn') (by omega) (by omega))
  have HOM := Lib.hid (fun w' (hn' : New W w') => of_r a2 n2 m2 l2 w' (HL2.out.stay hn') (by omega))
  have hM : vW l2 < 2 ^ (64 * n2) := bl_le.1 hbM
  obtain ⟨A, hAe⟩ : ∃ A, vW l = A := ⟨_, rfl⟩
  obtain ⟨B, hBe⟩ : ∃ B, vW l1 = B := ⟨_, rfl⟩
  obtain ⟨M, hMe⟩ : ∃ M, vW l2 = M := ⟨_, rfl⟩
  rw [hAe, hMe] at HMX
  rw [hBe, hMe] at HMY
  rw [hMe] at HOM hM hbM
  rw [hAe] at hbA
  rw [hBe] at hbB
  have hbX : bl (mulG A M) ≤ 20000 := by
    have := bl_le.2 (mulG_lt (n := 128) (m := 64 * n2) (Nat.lt_of_lt_of_le (bl_le.1 hbA) (Nat.pow_le_pow_right (by decide) (by omega))) hM)
    omega
  have hbY : bl (mulG B M) ≤ 20000 := by
    have := bl_le.2 (mulG_lt (n := 128) (m := 64 * n2) (Nat.lt_of_lt_of_le (bl_le.1 hbB) (Nat.pow_le_pow_right (by decide) (by omega))) hM)
    omega
  have hMX : M = 0 → mulG A M = 0 ∧ mulG B M = 0 := fun e => by rw [e]; exact ⟨mulG_zero' _, mulG_zero' _⟩
  have hdX : dvsG M (mulG A M) := ⟨A, rfl⟩
  have hdY : dvsG M (mulG B M) := ⟨B, rfl⟩
  obtain ⟨X, hXe⟩ : ∃ X, mulG A M = X := ⟨_, rfl⟩
  obtain ⟨Y, hYe⟩ : ∃ Y, mulG B M = Y := ⟨_, rfl⟩
  rw [hXe] at HMX hbX hdX hMX
  rw [hYe] at HMY hbY hdY hMX
  have HG := Lib.hid (fun w' a c b c9 (h1 : QRow w' a (tW X).length c (tW X)) (h2 : QRow w' b (tW Y).length c9 (tW Y)) => gcd_q a b _ c _ c9 _ _ w' h1 h2 (by rw [vW_tW]; exact hbX) (by rw [vW_tW]; exact hbY))
  rw [vW_tW, vW_tW] at HG
  have HOX := Lib.hid (fun w' a c (h : QRow w' a (tW X).length c (tW X)) => oft X hbX a c w' h)
  have HOY := Lib.hid (fun w' a c (h : QRow w' a (tW Y).length c (tW Y)) => oft Y hbY a c w' h)
  have HDX := Lib.hid (fun w' a c (h : LRow w' a (64 * (tW X).length) c (bO X (64 * (tW X).length))) => deg_r a _ c _ w' h (by rw [tW_len]; omega))
  rw [vB_bO_all (lt_len X)] at HDX
  have HDY := Lib.hid (fun w' a c (h : LRow w' a (64 * (tW Y).length) c (bO Y (64 * (tW Y).length))) => deg_r a _ c _ w' h (by rw [tW_len]; omega))
  rw [vB_bO_all (lt_len Y)] at HDY
  have HDM := Lib.hid (fun w' a c (h : LRow w' a (64 * n2) c (bO M (64 * n2))) => deg_r a _ c _ w' h (by omega))
  rw [vB_bO_all hM] at HDM
  have HBS := Lib.hid (And.intro hbX (And.intro hbY (And.intro hdX (And.intro hdY hM))))
  have HLX := Lib.hid (show (tW X).length ≤ 400 by rw [tW_len]; omega)
  have HLY := Lib.hid (show (tW Y).length ≤ 400 by rw [tW_len]; omega)
  have hn2 : n2 ≤ 2 := by omega
  clear hbA hbB hbM hM hAe hBe hMe hbX hbY hdX hdY hXe hYe HL HL1 HL2
  by_cases hXY : X = 0 ∧ Y = 0
  · obtain ⟨hX0, hY0⟩ := hXY
    have HG0 : Hid (∀ G, (∀ d, (dvsG d X ∧ dvsG d Y) ↔ dvsG d G) → G = 0) := Lib.hid (fun G hG => by
      have h1 := (hG 0).1 ⟨by rw [hX0]; exact dvs_zero 0, by rw [hY0]; exact dvs_zero 0⟩
      obtain ⟨q, hq⟩ := h1
      rw [hq, mulG_zero'])
    have ex : ((bl X : Nat) : Int) - 1 = -1 := by rw [hX0]; rfl
    have ey : ((bl Y : Nat) : Int) - 1 = -1 := by rw [hY0]; rfl
    rw [ex] at HDX
    rw [ey] at HDY
    clear hX0 hY0 ex ey hMX
    go_enter Try.func6, Try.ntmps6
    go_wp2_with fail
    refine (HA.out _).mono ?_
    rintro e wA ⟨rfl, hn⟩
    have HN := Lib.hid hn
    clear hn HA
    go_wp2_with fail
    refine (HMX.out _ HN.out).mono ?_
    rintro e wB ⟨bx, dx, rfl, hq, hn⟩
    replace HN := Lib.hid (HN.out.trans hn)
    have HX := Lib.hid hq
    clear hq HMX
    clear hn
    go_wp2_with fail
    refine (HMY.out _ HN.out).mono ?_
    rintro e wC ⟨bY, dY, rfl, hq, hn⟩
    replace HX := Lib.hid (HX.out.stay hn)
    replace HN := Lib.hid (HN.out.trans hn)
    have HY := Lib.hid hq
    clear hq HMY
    clear hn
    go_wp2_with fail
    refine (HG.out _ _ _ _ _ HX.out HY.out).mono ?_
    rintro e wD ⟨G, bg, dg, rfl, hq, hgd, hgb, hn⟩
    replace HX := Lib.hid (HX.out.stay hn)
    replace HY := Lib.hid (HY.out.stay hn)
    replace HN := Lib.hid (HN.out.trans hn)
    have HGR := Lib.hid hq
    have HGD := Lib.hid hgd
    have HGB := Lib.hid hgb
    clear hq hgd hgb hn HG
    have hg0 := HG0.out G HGD.out
    subst hg0
    have hl0 : (tW 0).length = 0 := rfl
    rw [hl0]
    go_wp2_with fail
    refine (HOX.out _ _ _ HX.out).mono ?_
    rintro e wE ⟨bE, dE, rfl, hr, hn⟩
    replace HY := Lib.hid (HY.out.stay hn)
    replace HN := Lib.hid (HN.out.trans hn)
    have RE := Lib.hid hr
    clear hr
    clear hn
    go_wp2_with fail
    refine (HDX.out _ _ _ RE.out).mono ?_
    rintro e w' ⟨rfl, hw⟩
    replace hw := hw.symm
    subst hw
    go_wp2_with fail
    refine (HOY.out _ _ _ HY.out).mono ?_
    rintro e wF ⟨bF, dF, rfl, hr, hn⟩
    replace HN := Lib.hid (HN.out.trans hn)
    have RF := Lib.hid hr
    clear hr
    clear hn
    go_wp2_with fail
    refine (HDY.out _ _ _ RF.out).mono ?_
    rintro e w' ⟨rfl, hw⟩
    replace hw := hw.symm
    subst hw
    go_wp2
    go_ret
    exact ⟨rfl, HN.out⟩
  have hM0 : M ≠ 0 := fun e => hXY (hMX e)
  obtain ⟨lm, hlm, _, _⟩ := bl_pos hM0
  rw [hlm, show ((lm + 1 : Nat) : Int) - 1 = (lm : Int) by omega] at HDM
  have HGN : Hid (∀ G, (∀ d, (dvsG d X ∧ dvsG d Y) ↔ dvsG d G) → G ≠ 0 ∧ rmG X G = 0 ∧ rmG Y G = 0 ∧ rmG G M = 0) := Lib.hid (fun G hG => by
    have h1 := (hG G).2 (dvs_self G)
    have hg : G ≠ 0 := fun e => hXY (by
      rw [e] at h1
      obtain ⟨⟨q, hq⟩, ⟨p, hp⟩⟩ := h1
      exact ⟨by rw [hq, mulG_zero'], by rw [hp, mulG_zero']⟩)
    exact ⟨hg, (dvs_rm hg).1 h1.1, (dvs_rm hg).1 h1.2, (dvs_rm hM0).1 ((hG M).1 ⟨HBS.out.2.2.1, HBS.out.2.2.2.1⟩)⟩)
  have HM0 := Lib.hid hM0
  have hlm0 : ¬ (lm : Int) < 0 := by omega
  have HXY := Lib.hid hXY
  clear hXY hMX hM0 hlm
  have go : ∀ G : Nat, G ≠ 0 → ∃ k : Nat, ((bl G : Nat) : Int) - 1 = (k : Int) := fun G h => by
    obtain ⟨k, e, _, _⟩ := bl_pos h
    exact ⟨k, by rw [e]; omega⟩
  have HGO := Lib.hid go
  clear go
  by_cases hX0 : X = 0
  · have hY0 : Y ≠ 0 := fun e => HXY.out ⟨hX0, e⟩
    have ex : ((bl X : Nat) : Int) - 1 = -1 := by rw [hX0]; rfl
    rw [ex] at HDX
    obtain ⟨ky, hky⟩ := HGO.out Y hY0
    rw [hky] at HDY
    have hky0 : ¬ (ky : Int) < 0 := by omega
    clear hX0 hY0 ex hky
    go_enter Try.func6, Try.ntmps6
    go_wp2_with fail
    refine (HA.out _).mono ?_
    rintro e wA ⟨rfl, hn⟩
    have HN := Lib.hid hn
    clear hn HA
    go_wp2_with fail
    refine (HMX.out _ HN.out).mono ?_
    rintro e wB ⟨bx, dx, rfl, hq, hn⟩
    replace HN := Lib.hid (HN.out.trans hn)
    have HX := Lib.hid hq
    clear hq HMX
    clear hn
    go_wp2_with fail
    refine (HMY.out _ HN.out).mono ?_
    rintro e wC ⟨bY, dY, rfl, hq, hn⟩
    replace HX := Lib.hid (HX.out.stay hn)
    replace HN := Lib.hid (HN.out.trans hn)
    have HY := Lib.hid hq
    clear hq HMY
    clear hn
    go_wp2_with fail
    refine (HG.out _ _ _ _ _ HX.out HY.out).mono ?_
    rintro e wD ⟨G, bg, dg, rfl, hq, hgd, hgb, hn⟩
    replace HX := Lib.hid (HX.out.stay hn)
    replace HY := Lib.hid (HY.out.stay hn)
    replace HN := Lib.hid (HN.out.trans hn)
    have HGR := Lib.hid hq
    have HGD := Lib.hid hgd
    have HGB := Lib.hid hgb
    clear hq hgd hgb hn HG
    obtain ⟨hg0, hrx, hry, hrm⟩ := HGN.out G HGD.out
    obtain ⟨kg, hkg⟩ := HGO.out G hg0
    have HOG := Lib.hid (fun w' a c (h : QRow w' a (tW G).length c (tW G)) => oft G HGB.out a c w' h)
    have HDG := Lib.hid (fun w' a c (h : LRow w' a (64 * (tW G).length) c (bO G (64 * (tW G).length))) => deg_r a _ c _ w' h (by have := tW_le HGB.out; omega))
    rw [vB_bO_all (lt_len G), hkg] at HDG
    have HDP := Lib.hid (fun w' a c (h : QRow w' a (tW G).length c (tW G)) => deg_q a _ c _ w' h (by have := tW_le HGB.out; omega))
    rw [vW_tW, hkg] at HDP
    have hvg : vB (bO G (64 * (tW G).length)) ≠ 0 := by rw [vB_bO_all (lt_len G)]; exact hg0
    have hvm : vB (bO M (64 * n2)) ≠ 0 := by rw [vB_bO_all HBS.out.2.2.2.2]; exact HM0.out
    have HD1 := Lib.hid (fun w' a c b c9 (h1 : LRow w' a (64 * (tW X).length) c (bO X (64 * (tW X).length))) (h2 : LRow w' b (64 * (tW G).length) c9 (bO G (64 * (tW G).length))) => divide_r a b _ c _ c9 _ _ w' h1 h2 (by have := HLX.out; omega) (by have := HGB.out; rw [tW_len]; omega) hvg)
    rw [vB_bO_all (lt_len G), vB_bO_all (lt_len X), hrx] at HD1
    have HD2 := Lib.hid (fun w' a c b c9 (h1 : LRow w' a (64 * (tW Y).length) c (bO Y (64 * (tW Y).length))) (h2 : LRow w' b (64 * (tW G).length) c9 (bO G (64 * (tW G).length))) => divide_r a b _ c _ c9 _ _ w' h1 h2 (by have := HLY.out; omega) (by have := HGB.out; rw [tW_len]; omega) hvg)
    rw [vB_bO_all (lt_len G), vB_bO_all (lt_len Y), hry] at HD2
    have HD3 := Lib.hid (fun w' a c b c9 (h1 : LRow w' a (64 * (tW G).length) c (bO G (64 * (tW G).length))) (h2 : LRow w' b (64 * n2) c9 (bO M (64 * n2))) => divide_r a b _ c _ c9 _ _ w' h1 h2 (by have := HGB.out; rw [tW_len]; omega) (by omega) hvm)
    rw [vB_bO_all (lt_len G), vB_bO_all HBS.out.2.2.2.2, hrm] at HD3
    have HZR := Lib.hid (fun w' a n c (hn9 : n ≤ 10000000) (h : LRow w' a n c (bO 0 n)) => deg_r a n c _ w' h hn9)
    have HV0 : Hid (∀ n, vB (bO 0 n) = 0) := Lib.hid (fun n => vB_bO_all (Nat.two_pow_pos n))
    have hl1 : 64 * (tW X).length ≤ 10000000 := by have := HLX.out; omega
    have hl2 : 64 * (tW Y).length ≤ 10000000 := by have := HLY.out; omega
    have hl3 : 64 * (tW G).length ≤ 10000000 := by have := HGB.out; rw [tW_len]; omega
    have HLL := Lib.hid (And.intro hl1 (And.intro hl2 hl3))
    have hkg0 : ¬ (kg : Int) < 0 := by omega
    have hkg1 : 0 ≤ (kg : Int) := by omega
    obtain ⟨LX, hLX⟩ : ∃ L, 64 * (tW X).length = L := ⟨_, rfl⟩
    obtain ⟨LY, hLY⟩ : ∃ L, 64 * (tW Y).length = L := ⟨_, rfl⟩
    obtain ⟨LG, hLG⟩ : ∃ L, 64 * (tW G).length = L := ⟨_, rfl⟩
    rw [hLX] at HOX HDX HD1 HLL
    rw [hLY] at HOY HDY HD2 HLL
    rw [hLG] at HOG HDG HD1 HD2 HD3 HLL
    clear hg0 hrx hry hrm hkg hvg hvm hl1 hl2 hl3 hLX hLY hLG
    go_wp2_with fail
    refine (HOX.out _ _ _ HX.out).mono ?_
    rintro e wE ⟨bE, dE, rfl, hr, hn⟩
    replace HX := Lib.hid (HX.out.stay hn)
    replace HY := Lib.hid (HY.out.stay hn)
    replace HGR := Lib.hid (HGR.out.stay hn)
    replace HN := Lib.hid (HN.out.trans hn)
    have RE := Lib.hid hr
    clear hr
    clear hn
    go_wp2_with fail
    refine (HDX.out _ _ _ RE.out).mono ?_
    rintro e w' ⟨rfl, hw⟩
    replace hw := hw.symm
    subst hw
    go_wp2_with fail
    refine (HOY.out _ _ _ HY.out).mono ?_
    rintro e wF ⟨bF, dF, rfl, hr, hn⟩
    replace HX := Lib.hid (HX.out.stay hn)
    replace HY := Lib.hid (HY.out.stay hn)
    replace HGR := Lib.hid (HGR.out.stay hn)
    replace HN := Lib.hid (HN.out.trans hn)
    have RF := Lib.hid hr
    clear hr
    clear hn
    go_wp2_with fail
    refine (HDY.out _ _ _ RF.out).mono ?_
    rintro e w' ⟨rfl, hw⟩
    replace hw := hw.symm
    subst hw
    clear RE RF
    go_wp2_with fail
    refine (HOG.out _ _ _ HGR.out).mono ?_
    rintro e wG ⟨bG, dG, rfl, hr, hn⟩
    replace HX := Lib.hid (HX.out.stay hn)
    replace HY := Lib.hid (HY.out.stay hn)
    replace HGR := Lib.hid (HGR.out.stay hn)
    replace HN := Lib.hid (HN.out.trans hn)
    have RG := Lib.hid hr
    clear hr
    clear hn
    go_wp2_with fail
    refine (HDG.out _ _ _ RG.out).mono ?_
    rintro e w' ⟨rfl, hw⟩
    replace hw := hw.symm
    subst hw
    go_wp2_with fail
    refine (HOM.out _ HN.out).mono ?_
    rintro e wH ⟨bH, dH, rfl, hr, hn⟩
    replace HX := Lib.hid (HX.out.stay hn)
    replace HY := Lib.hid (HY.out.stay hn)
    replace HGR := Lib.hid (HGR.out.stay hn)
    replace HN := Lib.hid (HN.out.trans hn)
    have RH := Lib.hid hr
    clear hr
    clear hn
    go_wp2_with fail
    refine (HDM.out _ _ _ RH.out).mono ?_
    rintro e w' ⟨rfl, hw⟩
    replace hw := hw.symm
    subst hw
    clear RG RH
    go_wp2_with fail
    refine (HOX.out _ _ _ HX.out).mono ?_
    rintro e wI ⟨bI, dI, rfl, hr, hn⟩
    replace HX := Lib.hid (HX.out.stay hn)
    replace HY := Lib.hid (HY.out.stay hn)
    replace HGR := Lib.hid (HGR.out.stay hn)
    replace HN := Lib.hid (HN.out.trans hn)
    have RI := Lib.hid hr
    clear hr
    clear hn
    go_wp2_with fail
    refine (HOG.out _ _ _ HGR.out).mono ?_
    rintro e wJ ⟨bJ, dJ, rfl, hr, hn⟩
    replace HX := Lib.hid (HX.out.stay hn)
    replace HY := Lib.hid (HY.out.stay hn)
    replace HGR := Lib.hid (HGR.out.stay hn)
    replace RI := Lib.hid (RI.out.stay hn)
    replace HN := Lib.hid (HN.out.trans hn)
    have RJ := Lib.hid hr
    clear hr
    clear hn
    go_wp2_with fail
    refine (HD1.out _ _ _ _ _ RI.out RJ.out).mono ?_
    rintro e z1 ⟨q1, l1, e1, b1, d1, rfl, _, hr, _, _, _, hn⟩
    replace HY := Lib.hid (HY.out.stay hn)
    replace HGR := Lib.hid (HGR.out.stay hn)
    replace HN := Lib.hid (HN.out.trans hn)
    have S1 := Lib.hid hr
    clear hr RI RJ HD1
    clear hn
    go_wp2_with fail
    refine (HOY.out _ _ _ HY.out).mono ?_
    rintro e wK ⟨bK, dK, rfl, hr, hn⟩
    replace HY := Lib.hid (HY.out.stay hn)
    replace HGR := Lib.hid (HGR.out.stay hn)
    replace S1 := Lib.hid (S1.out.stay hn)
    replace HN := Lib.hid (HN.out.trans hn)
    have RK := Lib.hid hr
    clear hr
    clear hn
    go_wp2_with fail
    refine (HOG.out _ _ _ HGR.out).mono ?_
    rintro e wL ⟨bL, dL, rfl, hr, hn⟩
    replace HGR := Lib.hid (HGR.out.stay hn)
    replace RK := Lib.hid (RK.out.stay hn)
    replace S1 := Lib.hid (S1.out.stay hn)
    replace HN := Lib.hid (HN.out.trans hn)
    have RL := Lib.hid hr
    clear hr
    clear hn
    go_wp2_with fail
    refine (HD2.out _ _ _ _ _ RK.out RL.out).mono ?_
    rintro e z2 ⟨q2, l2, e2, b2, d2, rfl, _, hr, _, _, _, hn⟩
    replace HGR := Lib.hid (HGR.out.stay hn)
    replace S1 := Lib.hid (S1.out.stay hn)
    replace HN := Lib.hid (HN.out.trans hn)
    have S2 := Lib.hid hr
    clear hr RK RL HD2
    clear hn
    go_wp2_with fail
    refine (HOG.out _ _ _ HGR.out).mono ?_
    rintro e wM ⟨bM, dM, rfl, hr, hn⟩
    replace HGR := Lib.hid (HGR.out.stay hn)
    replace S1 := Lib.hid (S1.out.stay hn)
    replace S2 := Lib.hid (S2.out.stay hn)
    replace HN := Lib.hid (HN.out.trans hn)
    have RM := Lib.hid hr
    clear hr
    clear hn
    go_wp2_with fail
    refine (HOM.out _ HN.out).mono ?_
    rintro e wN ⟨bN, dN, rfl, hr, hn⟩
    replace HGR := Lib.hid (HGR.out.stay hn)
    replace RM := Lib.hid (RM.out.stay hn)
    replace S1 := Lib.hid (S1.out.stay hn)
    replace S2 := Lib.hid (S2.out.stay hn)
    replace HN := Lib.hid (HN.out.trans hn)
    have RN := Lib.hid hr
    clear hr
    clear hn
    go_wp2_with fail
    refine (HD3.out _ _ _ _ _ RM.out RN.out).mono ?_
    rintro e z3 ⟨q3, l3, e3, b3, d3, rfl, _, hr, _, _, _, hn⟩
    replace HGR := Lib.hid (HGR.out.stay hn)
    replace S1 := Lib.hid (S1.out.stay hn)
    replace S2 := Lib.hid (S2.out.stay hn)
    replace HN := Lib.hid (HN.out.trans hn)
    have S3 := Lib.hid hr
    clear hr RM RN HD3
    clear hn
    have Z1 := Lib.hid (HZR.out _ _ _ _ HLL.out.1 S1.out)
    rw [HV0.out] at Z1
    have Z2 := Lib.hid (HZR.out _ _ _ _ HLL.out.2.1 S2.out)
    rw [HV0.out] at Z2
    have Z3 := Lib.hid (HZR.out _ _ _ _ HLL.out.2.2 S3.out)
    rw [HV0.out] at Z3
    rw [show (((bl 0 : Nat) : Int) - 1) = -1 from rfl] at Z1 Z2 Z3
    clear S1 S2 S3
    go_wp2_with fail
    refine (Z1.out).mono ?_
    rintro e w' ⟨rfl, hw⟩
    replace hw := hw.symm
    subst hw
    go_wp2_with fail
    refine (Z2.out).mono ?_
    rintro e w' ⟨rfl, hw⟩
    replace hw := hw.symm
    subst hw
    go_wp2_with fail
    refine (Z3.out).mono ?_
    rintro e w' ⟨rfl, hw⟩
    replace hw := hw.symm
    subst hw
    go_wp2_with fail
    refine (HDP.out _ _ _ HGR.out).mono ?_
    rintro e w' ⟨rfl, hw⟩
    replace hw := hw.symm
    subst hw
    go_wp2
    go_ret
    exact ⟨rfl, HN.out⟩
  · obtain ⟨kx, hkx⟩ := HGO.out X hX0
    rw [hkx] at HDX
    have hkx0 : ¬ (kx : Int) < 0 := by omega
    clear hX0 hkx
    go_enter Try.func6, Try.ntmps6
    go_wp2_with fail
    refine (HA.out _).mono ?_
    rintro e wA ⟨rfl, hn⟩
    have HN := Lib.hid hn
    clear hn HA
    go_wp2_with fail
    refine (HMX.out _ HN.out).mono ?_
    rintro e wB ⟨bx, dx, rfl, hq, hn⟩
    replace HN := Lib.hid (HN.out.trans hn)
    have HX := Lib.hid hq
    clear hq HMX
    clear hn
    go_wp2_with fail
    refine (HMY.out _ HN.out).mono ?_
    rintro e wC ⟨bY, dY, rfl, hq, hn⟩
    replace HX := Lib.hid (HX.out.stay hn)
    replace HN := Lib.hid (HN.out.trans hn)
    have HY := Lib.hid hq
    clear hq HMY
    clear hn
    go_wp2_with fail
    refine (HG.out _ _ _ _ _ HX.out HY.out).mono ?_
    rintro e wD ⟨G, bg, dg, rfl, hq, hgd, hgb, hn⟩
    replace HX := Lib.hid (HX.out.stay hn)
    replace HY := Lib.hid (HY.out.stay hn)
    replace HN := Lib.hid (HN.out.trans hn)
    have HGR := Lib.hid hq
    have HGD := Lib.hid hgd
    have HGB := Lib.hid hgb
    clear hq hgd hgb hn HG
    obtain ⟨hg0, hrx, hry, hrm⟩ := HGN.out G HGD.out
    obtain ⟨kg, hkg⟩ := HGO.out G hg0
    have HOG := Lib.hid (fun w' a c (h : QRow w' a (tW G).length c (tW G)) => oft G HGB.out a c w' h)
    have HDG := Lib.hid (fun w' a c (h : LRow w' a (64 * (tW G).length) c (bO G (64 * (tW G).length))) => deg_r a _ c _ w' h (by have := tW_le HGB.out; omega))
    rw [vB_bO_all (lt_len G), hkg] at HDG
    have HDP := Lib.hid (fun w' a c (h : QRow w' a (tW G).length c (tW G)) => deg_q a _ c _ w' h (by have := tW_le HGB.out; omega))
    rw [vW_tW, hkg] at HDP
    have hvg : vB (bO G (64 * (tW G).length)) ≠ 0 := by rw [vB_bO_all (lt_len G)]; exact hg0
    have hvm : vB (bO M (64 * n2)) ≠ 0 := by rw [vB_bO_all HBS.out.2.2.2.2]; exact HM0.out
    have HD1 := Lib.hid (fun w' a c b c9 (h1 : LRow w' a (64 * (tW X).length) c (bO X (64 * (tW X).length))) (h2 : LRow w' b (64 * (tW G).length) c9 (bO G (64 * (tW G).length))) => divide_r a b _ c _ c9 _ _ w' h1 h2 (by have := HLX.out; omega) (by have := HGB.out; rw [tW_len]; omega) hvg)
    rw [vB_bO_all (lt_len G), vB_bO_all (lt_len X), hrx] at HD1
    have HD2 := Lib.hid (fun w' a c b c9 (h1 : LRow w' a (64 * (tW Y).length) c (bO Y (64 * (tW Y).length))) (h2 : LRow w' b (64 * (tW G).length) c9 (bO G (64 * (tW G).length))) => divide_r a b _ c _ c9 _ _ w' h1 h2 (by have := HLY.out; omega) (by have := HGB.out; rw [tW_len]; omega) hvg)
    rw [vB_bO_all (lt_len G), vB_bO_all (lt_len Y), hry] at HD2
    have HD3 := Lib.hid (fun w' a c b c9 (h1 : LRow w' a (64 * (tW G).length) c (bO G (64 * (tW G).length))) (h2 : LRow w' b (64 * n2) c9 (bO M (64 * n2))) => divide_r a b _ c _ c9 _ _ w' h1 h2 (by have := HGB.out; rw [tW_len]; omega) (by omega) hvm)
    rw [vB_bO_all (lt_len G), vB_bO_all HBS.out.2.2.2.2, hrm] at HD3
    have HZR := Lib.hid (fun w' a n c (hn9 : n ≤ 10000000) (h : LRow w' a n c (bO 0 n)) => deg_r a n c _ w' h hn9)
    have HV0 : Hid (∀ n, vB (bO 0 n) = 0) := Lib.hid (fun n => vB_bO_all (Nat.two_pow_pos n))
    have hl1 : 64 * (tW X).length ≤ 10000000 := by have := HLX.out; omega
    have hl2 : 64 * (tW Y).length ≤ 10000000 := by have := HLY.out; omega
    have hl3 : 64 * (tW G).length ≤ 10000000 := by have := HGB.out; rw [tW_len]; omega
    have HLL := Lib.hid (And.intro hl1 (And.intro hl2 hl3))
    have hkg0 : ¬ (kg : Int) < 0 := by omega
    have hkg1 : 0 ≤ (kg : Int) := by omega
    obtain ⟨LX, hLX⟩ : ∃ L, 64 * (tW X).length = L := ⟨_, rfl⟩
    obtain ⟨LY, hLY⟩ : ∃ L, 64 * (tW Y).length = L := ⟨_, rfl⟩
    obtain ⟨LG, hLG⟩ : ∃ L, 64 * (tW G).length = L := ⟨_, rfl⟩
    rw [hLX] at HOX HDX HD1 HLL
    rw [hLY] at HOY HDY HD2 HLL
    rw [hLG] at HOG HDG HD1 HD2 HD3 HLL
    clear hg0 hrx hry hrm hkg hvg hvm hl1 hl2 hl3 hLX hLY hLG
    go_wp2_with fail
    refine (HOX.out _ _ _ HX.out).mono ?_
    rintro e wE ⟨bE, dE, rfl, hr, hn⟩
    replace HX := Lib.hid (HX.out.stay hn)
    replace HY := Lib.hid (HY.out.stay hn)
    replace HGR := Lib.hid (HGR.out.stay hn)
    replace HN := Lib.hid (HN.out.trans hn)
    have RE := Lib.hid hr
    clear hr
    clear hn
    go_wp2_with fail
    refine (HDX.out _ _ _ RE.out).mono ?_
    rintro e w' ⟨rfl, hw⟩
    replace hw := hw.symm
    subst hw
    clear RE
    go_wp2_with fail
    refine (HOG.out _ _ _ HGR.out).mono ?_
    rintro e wG ⟨bG, dG, rfl, hr, hn⟩
    replace HX := Lib.hid (HX.out.stay hn)
    replace HY := Lib.hid (HY.out.stay hn)
    replace HGR := Lib.hid (HGR.out.stay hn)
    replace HN := Lib.hid (HN.out.trans hn)
    have RG := Lib.hid hr
    clear hr
    clear hn
    go_wp2_with fail
    refine (HDG.out _ _ _ RG.out).mono ?_
    rintro e w' ⟨rfl, hw⟩
    replace hw := hw.symm
    subst hw
    go_wp2_with fail
    refine (HOM.out _ HN.out).mono ?_
    rintro e wH ⟨bH, dH, rfl, hr, hn⟩
    replace HX := Lib.hid (HX.out.stay hn)
    replace HY := Lib.hid (HY.out.stay hn)
    replace HGR := Lib.hid (HGR.out.stay hn)
    replace HN := Lib.hid (HN.out.trans hn)
    have RH := Lib.hid hr
    clear hr
    clear hn
    go_wp2_with fail
    refine (HDM.out _ _ _ RH.out).mono ?_
    rintro e w' ⟨rfl, hw⟩
    replace hw := hw.symm
    subst hw
    clear RG RH
    go_wp2_with fail
    refine (HOX.out _ _ _ HX.out).mono ?_
    rintro e wI ⟨bI, dI, rfl, hr, hn⟩
    replace HX := Lib.hid (HX.out.stay hn)
    replace HY := Lib.hid (HY.out.stay hn)
    replace HGR := Lib.hid (HGR.out.stay hn)
    replace HN := Lib.hid (HN.out.trans hn)
    have RI := Lib.hid hr
    clear hr
    clear hn
    go_wp2_with fail
    refine (HOG.out _ _ _ HGR.out).mono ?_
    rintro e wJ ⟨bJ, dJ, rfl, hr, hn⟩
    replace HX := Lib.hid (HX.out.stay hn)
    replace HY := Lib.hid (HY.out.stay hn)
    replace HGR := Lib.hid (HGR.out.stay hn)
    replace RI := Lib.hid (RI.out.stay hn)
    replace HN := Lib.hid (HN.out.trans hn)
    have RJ := Lib.hid hr
    clear hr
    clear hn
    go_wp2_with fail
    refine (HD1.out _ _ _ _ _ RI.out RJ.out).mono ?_
    rintro e z1 ⟨q1, l1, e1, b1, d1, rfl, _, hr, _, _, _, hn⟩
    replace HY := Lib.hid (HY.out.stay hn)
    replace HGR := Lib.hid (HGR.out.stay hn)
    replace HN := Lib.hid (HN.out.trans hn)
    have S1 := Lib.hid hr
    clear hr RI RJ HD1
    clear hn
    go_wp2_with fail
    refine (HOY.out _ _ _ HY.out).mono ?_
    rintro e wK ⟨bK, dK, rfl, hr, hn⟩
    replace HY := Lib.hid (HY.out.stay hn)
    replace HGR := Lib.hid (HGR.out.stay hn)
    replace S1 := Lib.hid (S1.out.stay hn)
    replace HN := Lib.hid (HN.out.trans hn)
    have RK := Lib.hid hr
    clear hr
    clear hn
    go_wp2_with fail
    refine (HOG.out _ _ _ HGR.out).mono ?_
    rintro e wL ⟨bL, dL, rfl, hr, hn⟩
    replace HGR := Lib.hid (HGR.out.stay hn)
    replace RK := Lib.hid (RK.out.stay hn)
    replace S1 := Lib.hid (S1.out.stay hn)
    replace HN := Lib.hid (HN.out.trans hn)
    have RL := Lib.hid hr
    clear hr
    clear hn
    go_wp2_with fail
    refine (HD2.out _ _ _ _ _ RK.out RL.out).mono ?_
    rintro e z2 ⟨q2, l2, e2, b2, d2, rfl, _, hr, _, _, _, hn⟩
    replace HGR := Lib.hid (HGR.out.stay hn)
    replace S1 := Lib.hid (S1.out.stay hn)
    replace HN := Lib.hid (HN.out.trans hn)
    have S2 := Lib.hid hr
    clear hr RK RL HD2
    clear hn
    go_wp2_with fail
    refine (HOG.out _ _ _ HGR.out).mono ?_
    rintro e wM ⟨bM, dM, rfl, hr, hn⟩
    replace HGR := Lib.hid (HGR.out.stay hn)
    replace S1 := Lib.hid (S1.out.stay hn)
    replace S2 := Lib.hid (S2.out.stay hn)
    replace HN := Lib.hid (HN.out.trans hn)
    have RM := Lib.hid hr
    clear hr
    clear hn
    go_wp2_with fail
    refine (HOM.out _ HN.out).mono ?_
    rintro e wN ⟨bN, dN, rfl, hr, hn⟩
    replace HGR := Lib.hid (HGR.out.stay hn)
    replace RM := Lib.hid (RM.out.stay hn)
    replace S1 := Lib.hid (S1.out.stay hn)
    replace S2 := Lib.hid (S2.out.stay hn)
    replace HN := Lib.hid (HN.out.trans hn)
    have RN := Lib.hid hr
    clear hr
    clear hn
    go_wp2_with fail
    refine (HD3.out _ _ _ _ _ RM.out RN.out).mono ?_
    rintro e z3 ⟨q3, l3, e3, b3, d3, rfl, _, hr, _, _, _, hn⟩
    replace HGR := Lib.hid (HGR.out.stay hn)
    replace S1 := Lib.hid (S1.out.stay hn)
    replace S2 := Lib.hid (S2.out.stay hn)
    replace HN := Lib.hid (HN.out.trans hn)
    have S3 := Lib.hid hr
    clear hr RM RN HD3
    clear hn
    have Z1 := Lib.hid (HZR.out _ _ _ _ HLL.out.1 S1.out)
    rw [HV0.out] at Z1
    have Z2 := Lib.hid (HZR.out _ _ _ _ HLL.out.2.1 S2.out)
    rw [HV0.out] at Z2
    have Z3 := Lib.hid (HZR.out _ _ _ _ HLL.out.2.2 S3.out)
    rw [HV0.out] at Z3
    rw [show (((bl 0 : Nat) : Int) - 1) = -1 from rfl] at Z1 Z2 Z3
    clear S1 S2 S3
    go_wp2_with fail
    refine (Z1.out).mono ?_
    rintro e w' ⟨rfl, hw⟩
    replace hw := hw.symm
    subst hw
    go_wp2_with fail
    refine (Z2.out).mono ?_
    rintro e w' ⟨rfl, hw⟩
    replace hw := hw.symm
    subst hw
    go_wp2_with fail
    refine (Z3.out).mono ?_
    rintro e w' ⟨rfl, hw⟩
    replace hw := hw.symm
    subst hw
    go_wp2_with fail
    refine (HDP.out _ _ _ HGR.out).mono ?_
    rintro e w' ⟨rfl, hw⟩
    replace hw := hw.symm
    subst hw
    go_wp2
    go_ret
    exact ⟨rfl, HN.out⟩
end Go.Proofs.Ytppmpledcaonkaa
