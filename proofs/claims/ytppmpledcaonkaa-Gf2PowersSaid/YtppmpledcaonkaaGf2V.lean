/- The law Gf2Tells. -/
import Derived.Test.YtppmpledcaonkaaGf2T
namespace Go.Proofs.Ytppmpledcaonkaa
open Go Go.RowKit Go.Bv Go.G2
set_option linter.unusedVariables false
theorem short_yes (a : Option Addr) (n c : Nat) (hn : n ≤ 6) (w : World) : Calls Try.prog 15 #[.slice a n c] w fun e w' => e = .returned (.bool true) ∧ w' = w := by
  have h : (n : Int) ≤ 6 := by omega
  go_enter Try.func15, Try.ntmps15
  go_wp2
  go_ret
  first | exact ⟨rfl, rfl⟩ | (rw [decide_eq_true h]; exact ⟨rfl, rfl⟩) | exact ⟨by simp [hn], rfl⟩
theorem short_no (a : Option Addr) (n c : Nat) (hn : ¬ n ≤ 6) (w : World) : Calls Try.prog 15 #[.slice a n c] w fun e w' => e = .returned (.bool false) ∧ w' = w := by
  have h : ¬ (n : Int) ≤ 6 := by omega
  go_enter Try.func15, Try.ntmps15
  go_wp2
  go_ret
  first | exact ⟨rfl, rfl⟩ | (rw [decide_eq_false h]; exact ⟨rfl, rfl⟩) | exact ⟨by simp; omega, rfl⟩
/-- Coef at a place beyond all words -/
theorem coef_far (a : Option Addr) (n c : Nat) (i : Int) (w : World) (hn : n ≤ 100000) (hi : 64 * (n : Int) ≤ i) (hi2 : i ≤ 9223372036854775807) :
    Calls Try.prog 19 #[.slice a n c, .int .i64 i] w fun e w' => e = .returned (.bool false) ∧ w' = w := by
  have hi0 : ¬ i < 0 := by omega
  obtain ⟨j, hj⟩ : ∃ j, i / 64 = j := ⟨_, rfl⟩
  have hjt : i.tdiv 64 = j := by rw [Int.tdiv_eq_ediv_of_nonneg (by omega)]; exact hj
  have hj0 : 0 ≤ j := by omega
  have hj2 : j ≤ 9223372036854775807 := by omega
  have hjn : (n : Int) ≤ j := by omega
  clear hi
  go_enter Try.func19, Try.ntmps19
  go_wp2
  go_ret
  exact ⟨rfl, rfl⟩
set_option maxRecDepth 100000 in
set_option maxHeartbeats 4000000 in
theorem Gf2Tells_walk (W : World) (a0 : Option Addr) (n0 m0 : Nat) (z0 : List Int) (w0 : IRow .u64 W a0 n0 m0 z0) (r0 : m0 * 8 ≤ 140737488351232) (a1 : Int) (w1 : (Lit.int .i64 a1).wf = true) :
    Calls Try.prog 3 #[.slice a0 n0 m0, .int .i64 a1] W fun e w' => e = .returned (.bool true) ∧ Below W.heap.size W w' := by
  obtain ⟨l, hl⟩ := w0.words r0
  have hn1 : -9223372036854775808 ≤ a1 ∧ a1 ≤ 9223372036854775807 := by
    simp [Lit.wf, IntKind.min, IntKind.max, IntKind.signed, IntKind.bits] at w1; omega
  have HL := Lib.hid hl
  have HA := Lib.hid awake06
  clear w0 w1 r0 hl
  by_cases hs : n0 ≤ 6
  case neg =>
    have HS := Lib.hid (short_no a0 n0 m0 hs)
    go_enter Try.func3, Try.ntmps3
    go_wp2_with fail
    refine (HA.out _).mono ?_
    rintro e wA ⟨rfl, hn⟩
    have HN := Lib.hid hn
    clear hn HA
    go_wp2_with fail
    refine (HS.out _).mono ?_
    rintro e w' ⟨rfl, hw⟩
    replace hw := hw.symm
    subst hw
    go_wp2
    go_ret
    exact ⟨rfl, HN.out⟩
  have HS := Lib.hid (short_yes a0 n0 m0 hs)
  have HLE := Lib.hid HL.out.len_eq
  have HOF := Lib.hid (fun w' (hn' : New W w') => of_r a0 n0 m0 l w' (HL.out.stay hn') (by omega))
  have HDG := Lib.hid (fun w' (hn' : New W w') => deg_q a0 n0 m0 l w' (HL.out.stay hn') (by omega))
  have HTR := Lib.hid (fun w' (hn' : New W w') => trim_q a0 n0 m0 l w' (HL.out.stay hn'))
  have hV : vW l < 2 ^ (64 * n0) := by have := vW_lt l; rwa [HLE.out] at this
  have HDR := Lib.hid (fun w' a1 c1 (hr : LRow w' a1 (64 * n0) c1 (bO (vW l) (64 * n0))) => deg_r a1 (64 * n0) c1 _ w' hr (by omega))
  rw [vB_bO_all hV] at HDR
  have HWD := Lib.hid (fun w' a1 c1 a2 c2 (hq : QRow w' a1 (tW (vW l)).length c1 (tW (vW l))) (hr : LRow w' a2 (64 * n0) c2 (bO (vW l) (64 * n0))) => words06 a1 a2 _ c1 _ c2 _ _ w' hq hr (by omega))
  rw [vB_bO_all hV, beq_self_eq_true] at HWD
  have HBG : Hid (∀ i, i < 64 * n0 → (bO (vW l) (64 * n0)).getD i false = (vW l).testBit i) := Lib.hid (fun i hi => bO_get _ hi)
  have HCF := Lib.hid (fun (i : Nat) (hi : i ≤ 1000000000000) w' (hn' : New W w') => coef_q a0 n0 m0 l i w' (HL.out.stay hn') hi)
  obtain ⟨V, hVe⟩ : ∃ V, vW l = V := ⟨_, rfl⟩
  rw [hVe] at HOF HDG HTR HDR HWD HBG HCF
  obtain ⟨L, hL⟩ : ∃ L, 64 * n0 = L := ⟨_, rfl⟩
  rw [hL] at HOF HDR HWD HBG
  have hLb : L ≤ 384 := by omega
  have hd0 : ∀ B : Nat, ((B : Int) - 1 == (B : Int) - 1) = true := fun B => by simp
  clear hVe hV
  have hcase : a1 < 0 ∨ (L : Int) ≤ a1 ∨ (0 ≤ a1 ∧ a1 < (L : Int)) := by omega
  rcases hcase with hc | hc | ⟨hc, hc2⟩
  · have HCN := Lib.hid (fun w => coef_neg a0 n0 m0 a1 w hc)
    have hc0 : ¬ 0 ≤ a1 := by omega
    clear HCF HBG
    go_enter Try.func3, Try.ntmps3
    go_wp2_with fail
    refine (HA.out _).mono ?_
    rintro e wA ⟨rfl, hn⟩
    have HN := Lib.hid hn
    clear hn HA
    go_wp2_with fail
    refine (HS.out _).mono ?_
    rintro e w' ⟨rfl, hw⟩
    replace hw := hw.symm
    subst hw
    clear HS
    go_wp2_with fail
    refine (HOF.out _ HN.out).mono ?_
    rintro e wB ⟨a2, c2, rfl, hr, hn⟩
    have HR := Lib.hid hr
    replace HN := Lib.hid (HN.out.trans hn)
    clear hr hn HOF
    go_wp2_with fail
    refine (HDG.out _ HN.out).mono ?_
    rintro e w' ⟨rfl, hw⟩
    replace hw := hw.symm
    subst hw
    clear HDG
    go_wp2_with fail
    refine (HDR.out _ _ _ HR.out).mono ?_
    rintro e w' ⟨rfl, hw⟩
    replace hw := hw.symm
    subst hw
    clear HDR
    go_wp2_with fail
    refine (HCN.out _).mono ?_
    rintro e w' ⟨rfl, hw⟩
    replace hw := hw.symm
    subst hw
    clear HCN
    go_wp2_with fail
    refine (HTR.out _ HN.out).mono ?_
    rintro e wC ⟨a4, c4, rfl, hq, hn⟩
    have HQ := Lib.hid hq
    replace HR := Lib.hid (HR.out.stay hn)
    replace HN := Lib.hid (HN.out.trans hn)
    clear hq hn HTR
    go_wp2_with fail
    refine (HWD.out _ _ _ _ _ HQ.out HR.out).mono ?_
    rintro e wD ⟨rfl, hn⟩
    replace HN := Lib.hid (HN.out.trans hn)
    clear hn HWD
    go_wp2
    go_ret
    exact ⟨rfl, HN.out⟩
  · have HCN := Lib.hid (fun w => coef_far a0 n0 m0 a1 w (by omega) (by omega) hn1.2)
    have hc0 : 0 ≤ a1 := by omega
    have hc9 : ¬ a1 < (L : Int) := by omega
    clear HCF HBG
    go_enter Try.func3, Try.ntmps3
    go_wp2_with fail
    refine (HA.out _).mono ?_
    rintro e wA ⟨rfl, hn⟩
    have HN := Lib.hid hn
    clear hn HA
    go_wp2_with fail
    refine (HS.out _).mono ?_
    rintro e w' ⟨rfl, hw⟩
    replace hw := hw.symm
    subst hw
    clear HS
    go_wp2_with fail
    refine (HOF.out _ HN.out).mono ?_
    rintro e wB ⟨a2, c2, rfl, hr, hn⟩
    have HR := Lib.hid hr
    replace HN := Lib.hid (HN.out.trans hn)
    clear hr hn HOF
    go_wp2_with fail
    refine (HDG.out _ HN.out).mono ?_
    rintro e w' ⟨rfl, hw⟩
    replace hw := hw.symm
    subst hw
    clear HDG
    go_wp2_with fail
    refine (HDR.out _ _ _ HR.out).mono ?_
    rintro e w' ⟨rfl, hw⟩
    replace hw := hw.symm
    subst hw
    clear HDR
    go_wp2_with fail
    refine (HCN.out _).mono ?_
    rintro e w' ⟨rfl, hw⟩
    replace hw := hw.symm
    subst hw
    clear HCN
    go_wp2_with fail
    refine (HTR.out _ HN.out).mono ?_
    rintro e wC ⟨a4, c4, rfl, hq, hn⟩
    have HQ := Lib.hid hq
    replace HR := Lib.hid (HR.out.stay hn)
    replace HN := Lib.hid (HN.out.trans hn)
    clear hq hn HTR
    go_wp2_with fail
    refine (HWD.out _ _ _ _ _ HQ.out HR.out).mono ?_
    rintro e wD ⟨rfl, hn⟩
    replace HN := Lib.hid (HN.out.trans hn)
    clear hn HWD
    go_wp2
    go_ret
    exact ⟨rfl, HN.out⟩
  · obtain ⟨i, rfl⟩ : ∃ i : Nat, a1 = (i : Int) := ⟨a1.toNat, by omega⟩
    have HCN := Lib.hid (HCF.out i (by omega))
    have hx := HBG.out i (by omega)
    have HX := Lib.hid hx
    obtain ⟨x, hxe⟩ : ∃ x, V.testBit i = x := ⟨_, rfl⟩
    rw [hxe] at HCN HX
    have m1 : max (i : Int) 0 = (i : Int) := by omega
    have m2 : max ((L : Int) - 1) 0 = (L : Int) - 1 := by omega
    have m3 : min (i : Int) ((L : Int) - 1) = (i : Int) := by omega
    have hxx : (x == x) = true := by simp
    clear hx hxe HCF HBG
    go_enter Try.func3, Try.ntmps3
    go_wp2_with fail
    refine (HA.out _).mono ?_
    rintro e wA ⟨rfl, hn⟩
    have HN := Lib.hid hn
    clear hn HA
    go_wp2_with fail
    refine (HS.out _).mono ?_
    rintro e w' ⟨rfl, hw⟩
    replace hw := hw.symm
    subst hw
    clear HS
    go_wp2_with fail
    refine (HOF.out _ HN.out).mono ?_
    rintro e wB ⟨a2, c2, rfl, hr, hn⟩
    have HR := Lib.hid hr
    replace HN := Lib.hid (HN.out.trans hn)
    obtain ⟨b, off, rfl, hcl⟩ := hr.addr (by omega)
    have cb := hcl i (by omega)
    rw [HX.out] at cb
    clear hcl
    clear hr hn HOF
    go_wp2_with fail
    refine (HDG.out _ HN.out).mono ?_
    rintro e w' ⟨rfl, hw⟩
    replace hw := hw.symm
    subst hw
    clear HDG
    go_wp2_with fail
    refine (HDR.out _ _ _ HR.out).mono ?_
    rintro e w' ⟨rfl, hw⟩
    replace hw := hw.symm
    subst hw
    clear HDR
    go_wp2_with fail
    refine (HCN.out _ HN.out).mono ?_
    rintro e w' ⟨rfl, hw⟩
    replace hw := hw.symm
    subst hw
    clear HCN
    go_wp2_with fail
    refine (HTR.out _ HN.out).mono ?_
    rintro e wC ⟨a4, c4, rfl, hq, hn⟩
    have HQ := Lib.hid hq
    replace HR := Lib.hid (HR.out.stay hn)
    replace HN := Lib.hid (HN.out.trans hn)
    clear hq hn HTR
    go_wp2_with fail
    refine (HWD.out _ _ _ _ _ HQ.out HR.out).mono ?_
    rintro e wD ⟨rfl, hn⟩
    replace HN := Lib.hid (HN.out.trans hn)
    clear hn HWD
    go_wp2
    go_ret
    exact ⟨rfl, HN.out⟩
end Go.Proofs.Ytppmpledcaonkaa
