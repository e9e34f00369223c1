/- The law ThroughValues. -/
import Derived.Test.YtiboncnfepnjcaaThrG
namespace Go.Proofs.Ytiboncnfepnjcaa
open Go.RowKit Go.Bv
set_option linter.unusedVariables false
set_option maxRecDepth 100000 in
set_option maxHeartbeats 4000000 in
theorem ThroughValues_walk (W : World) (a0 : Option Addr) (n0 m0 : Nat) (z0 : List Int) (w0 : IRow .u64 W a0 n0 m0 z0) (r0 : m0 * 8 ≤ 140737488351232) (a1 : Option Addr) (n1 m1 : Nat) (z1 : List Int) (w1 : IRow .u64 W a1 n1 m1 z1) (r1 : m1 * 8 ≤ 140737488351232) :
    Calls Try.prog 9 #[.slice a0 n0 m0, .slice a1 n1 m1] W fun e w' => e = .returned (.bool true) ∧ Below W.heap.size W w' := by
  obtain ⟨c, hl⟩ := w0.words r0
  have H0 := Lib.hid hl
  have HL0 := Lib.hid hl.len_eq
  clear w0 r0 hl
  obtain ⟨xs, hl⟩ := w1.words r1
  have H1 := Lib.hid hl
  have HL1 := Lib.hid hl.len_eq
  clear w1 r1 hl
  have HA := Lib.hid awake19
  go_enter Try.func9, Try.ntmps9
  go_wp2_with fail
  refine (HA.out _).mono ?_
  rintro e w9 ⟨rfl, hn⟩
  replace H0 := Lib.hid (H0.out.stay hn)
  replace H1 := Lib.hid (H1.out.stay hn)
  have HN := Lib.hid hn
  clear hn HA
  have HCK := Lib.hid (fun w (h : QRow w a0 n0 m0 c) => rcheck_q _ _ _ _ w h)
  have HBX := Lib.hid (fun w (h : QRow w a1 n1 m1 xs) => bel_q _ _ _ _ w h)
  by_cases hx1 : (12 : Int) < (n1 : Int)
  · by_cases hs1 : (20 : Int) < (n0 : Int)
    · by_cases hs2 : (n0 : Int) ≤ 64
      · go_wp2
        go_ret
        exact ⟨rfl, HN.out⟩
      · go_wp2
        go_ret
        exact ⟨rfl, HN.out⟩
    · go_wp2
      go_ret
      exact ⟨rfl, HN.out⟩
  have HPV := Lib.hid (fun w (h : QRow w a1 n1 m1 xs) => pvan_q _ _ _ _ w h (by omega))
  have HRV := Lib.hid (fun w (h : QRow w a1 n1 m1 xs) => rvan_q _ _ _ _ w h (by omega))
  obtain ⟨vn, hvn⟩ : ∃ z, van xs n1 = z := ⟨_, rfl⟩
  rw [hvn] at HPV HRV
  clear hvn
  obtain ⟨vl, hvl⟩ : ∃ z, vn.length = z := ⟨_, rfl⟩
  rw [hvl] at HPV HRV
  clear hvl
  by_cases hs1 : (20 : Int) < (n0 : Int)
  · by_cases hs2 : (n0 : Int) ≤ 64
    · go_wp2
      go_ret
      exact ⟨rfl, HN.out⟩
    · have hc : vE c xs ≠ 0 := fun e => by
        unfold vE chkC at e
        rw [if_pos (by rw [if_pos (by have := HL0.out; omega)]; decide), if_pos (by have := HL0.out; omega)] at e
        exact absurd e (by decide)
      have HT := Lib.hid (fun w (h : QRow w a0 n0 m0 c) (h' : QRow w a1 n1 m1 xs) => pvals_no _ _ _ _ _ _ _ _ w h h' hc)
      by_cases h1 : chkC c = 0
      · have h2 : blw xs = false := by
          cases e : blw xs with
          | false => rfl
          | true => exact absurd (by unfold vE; rw [if_neg (by simp [h1]), if_pos e]) hc
        have h3 : vE c xs = 2 := by unfold vE; rw [if_neg (by simp [h1]), if_neg (by simp [h2])]
        rw [h3] at HT
        rw [h2] at HBX
        rw [h1] at HCK
        clear h1 h2 h3 hc
        go_wp2_with fail
        refine (HT.out _ H0.out H1.out).mono ?_
        rintro e w9 ⟨rfl, hn⟩
        replace H0 := Lib.hid (H0.out.stay hn)
        replace H1 := Lib.hid (H1.out.stay hn)
        replace HN := Lib.hid (HN.out.trans hn)
        clear hn
        go_wp2_with fail
        refine (HCK.out _ H0.out).mono ?_
        rintro e w8 ⟨rfl, hw8⟩
        replace hw8 := hw8.symm
        subst hw8
        go_wp2_with fail
        refine (HBX.out _ H1.out).mono ?_
        rintro e w8 ⟨rfl, hw8⟩
        replace hw8 := hw8.symm
        subst hw8
        go_wp2_with fail
        refine (HPV.out _ H1.out).mono ?_
        rintro e w9 ⟨av1, cv1, rfl, hq, hn⟩
        have HV1 := Lib.hid hq
        replace H0 := Lib.hid (H0.out.stay hn)
        replace H1 := Lib.hid (H1.out.stay hn)
        replace HN := Lib.hid (HN.out.trans hn)
        clear hq hn
        go_wp2_with fail
        refine (HRV.out _ H1.out).mono ?_
        rintro e w9 ⟨av2, cv2, rfl, hq, hn⟩
        have HV2 := Lib.hid hq
        replace HV1 := Lib.hid (HV1.out.stay hn)
        replace H0 := Lib.hid (H0.out.stay hn)
        replace H1 := Lib.hid (H1.out.stay hn)
        replace HN := Lib.hid (HN.out.trans hn)
        clear hq hn
        go_wp2_with fail
        refine (words_ref _ _ _ _ _ _ _ _ _ _ HV1.out HV2.out HN.out).mono ?_
        rintro e w9 ⟨rfl, hn, hW⟩
        rw [beq_self_eq_true]
        replace HN := Lib.hid hW
        clear hn hW
        go_wp2
        go_ret
        exact ⟨rfl, HN.out⟩
      · have h3 : vE c xs = chkC c := by unfold vE; rw [if_pos h1]
        have hne : (chkC c != 0) = true := by rw [bne_iff_ne]; exact h1
        have hne2 : (chkC c == 0) = false := by rw [beq_eq_false_iff_ne]; exact h1
        rw [h3] at HT
        clear h1 h3 hc
        obtain ⟨q, hnm⟩ : ∃ z, chkC c = z := ⟨_, rfl⟩
        rw [hnm] at HT HCK hne hne2
        clear hnm
        go_wp2_with fail
        refine (HT.out _ H0.out H1.out).mono ?_
        rintro e w9 ⟨rfl, hn⟩
        replace H0 := Lib.hid (H0.out.stay hn)
        replace H1 := Lib.hid (H1.out.stay hn)
        replace HN := Lib.hid (HN.out.trans hn)
        clear hn
        go_wp2_with fail
        refine (HCK.out _ H0.out).mono ?_
        rintro e w8 ⟨rfl, hw8⟩
        replace hw8 := hw8.symm
        subst hw8
        go_wp2_with fail
        refine (HPV.out _ H1.out).mono ?_
        rintro e w9 ⟨av1, cv1, rfl, hq, hn⟩
        have HV1 := Lib.hid hq
        replace H0 := Lib.hid (H0.out.stay hn)
        replace H1 := Lib.hid (H1.out.stay hn)
        replace HN := Lib.hid (HN.out.trans hn)
        clear hq hn
        go_wp2_with fail
        refine (HRV.out _ H1.out).mono ?_
        rintro e w9 ⟨av2, cv2, rfl, hq, hn⟩
        have HV2 := Lib.hid hq
        replace HV1 := Lib.hid (HV1.out.stay hn)
        replace H0 := Lib.hid (H0.out.stay hn)
        replace H1 := Lib.hid (H1.out.stay hn)
        replace HN := Lib.hid (HN.out.trans hn)
        clear hq hn
        go_wp2_with fail
        refine (words_ref _ _ _ _ _ _ _ _ _ _ HV1.out HV2.out HN.out).mono ?_
        rintro e w9 ⟨rfl, hn, hW⟩
        rw [beq_self_eq_true]
        replace HN := Lib.hid hW
        clear hn hW
        go_wp2
        go_ret
        exact ⟨rfl, HN.out⟩
  · by_cases hc : vE c xs = 0
    rotate_left
    · have HT := Lib.hid (fun w (h : QRow w a0 n0 m0 c) (h' : QRow w a1 n1 m1 xs) => pvals_no _ _ _ _ _ _ _ _ w h h' hc)
      by_cases h1 : chkC c = 0
      · have h2 : blw xs = false := by
          cases e : blw xs with
          | false => rfl
          | true => exact absurd (by unfold vE; rw [if_neg (by simp [h1]), if_pos e]) hc
        have h3 : vE c xs = 2 := by unfold vE; rw [if_neg (by simp [h1]), if_neg (by simp [h2])]
        rw [h3] at HT
        rw [h2] at HBX
        rw [h1] at HCK
        clear h1 h2 h3 hc
        go_wp2_with fail
        refine (HT.out _ H0.out H1.out).mono ?_
        rintro e w9 ⟨rfl, hn⟩
        replace H0 := Lib.hid (H0.out.stay hn)
        replace H1 := Lib.hid (H1.out.stay hn)
        replace HN := Lib.hid (HN.out.trans hn)
        clear hn
        go_wp2_with fail
        refine (HCK.out _ H0.out).mono ?_
        rintro e w8 ⟨rfl, hw8⟩
        replace hw8 := hw8.symm
        subst hw8
        go_wp2_with fail
        refine (HBX.out _ H1.out).mono ?_
        rintro e w8 ⟨rfl, hw8⟩
        replace hw8 := hw8.symm
        subst hw8
        go_wp2_with fail
        refine (HPV.out _ H1.out).mono ?_
        rintro e w9 ⟨av1, cv1, rfl, hq, hn⟩
        have HV1 := Lib.hid hq
        replace H0 := Lib.hid (H0.out.stay hn)
        replace H1 := Lib.hid (H1.out.stay hn)
        replace HN := Lib.hid (HN.out.trans hn)
        clear hq hn
        go_wp2_with fail
        refine (HRV.out _ H1.out).mono ?_
        rintro e w9 ⟨av2, cv2, rfl, hq, hn⟩
        have HV2 := Lib.hid hq
        replace HV1 := Lib.hid (HV1.out.stay hn)
        replace H0 := Lib.hid (H0.out.stay hn)
        replace H1 := Lib.hid (H1.out.stay hn)
        replace HN := Lib.hid (HN.out.trans hn)
        clear hq hn
        go_wp2_with fail
        refine (words_ref _ _ _ _ _ _ _ _ _ _ HV1.out HV2.out HN.out).mono ?_
        rintro e w9 ⟨rfl, hn, hW⟩
        rw [beq_self_eq_true]
        replace HN := Lib.hid hW
        clear hn hW
        go_wp2
        go_ret
        exact ⟨rfl, HN.out⟩
      · have h3 : vE c xs = chkC c := by unfold vE; rw [if_pos h1]
        have hne : (chkC c != 0) = true := by rw [bne_iff_ne]; exact h1
        have hne2 : (chkC c == 0) = false := by rw [beq_eq_false_iff_ne]; exact h1
        rw [h3] at HT
        clear h1 h3 hc
        obtain ⟨q, hnm⟩ : ∃ z, chkC c = z := ⟨_, rfl⟩
        rw [hnm] at HT HCK hne hne2
        clear hnm
        go_wp2_with fail
        refine (HT.out _ H0.out H1.out).mono ?_
        rintro e w9 ⟨rfl, hn⟩
        replace H0 := Lib.hid (H0.out.stay hn)
        replace H1 := Lib.hid (H1.out.stay hn)
        replace HN := Lib.hid (HN.out.trans hn)
        clear hn
        go_wp2_with fail
        refine (HCK.out _ H0.out).mono ?_
        rintro e w8 ⟨rfl, hw8⟩
        replace hw8 := hw8.symm
        subst hw8
        go_wp2_with fail
        refine (HPV.out _ H1.out).mono ?_
        rintro e w9 ⟨av1, cv1, rfl, hq, hn⟩
        have HV1 := Lib.hid hq
        replace H0 := Lib.hid (H0.out.stay hn)
        replace H1 := Lib.hid (H1.out.stay hn)
        replace HN := Lib.hid (HN.out.trans hn)
        clear hq hn
        go_wp2_with fail
        refine (HRV.out _ H1.out).mono ?_
        rintro e w9 ⟨av2, cv2, rfl, hq, hn⟩
        have HV2 := Lib.hid hq
        replace HV1 := Lib.hid (HV1.out.stay hn)
        replace H0 := Lib.hid (H0.out.stay hn)
        replace H1 := Lib.hid (H1.out.stay hn)
        replace HN := Lib.hid (HN.out.trans hn)
        clear hq hn
        go_wp2_with fail
        refine (words_ref _ _ _ _ _ _ _ _ _ _ HV1.out HV2.out HN.out).mono ?_
        rintro e w9 ⟨rfl, hn, hW⟩
        rw [beq_self_eq_true]
        replace HN := Lib.hid hW
        clear hn hW
        go_wp2
        go_ret
        exact ⟨rfl, HN.out⟩
    · have h1 : chkC c = 0 := by
        by_cases e : chkC c = 0
        · exact e
        · unfold vE at hc; rw [if_pos e] at hc; exact hc
      have h2 : blw xs = true := by
        unfold vE at hc; rw [if_neg (by simp [h1])] at hc
        by_cases e : blw xs = true
        · exact e
        · rw [if_neg e] at hc; exact absurd hc (by decide)
      have HT := Lib.hid (fun w (h : QRow w a0 n0 m0 c) (h' : QRow w a1 n1 m1 xs) => pvals_ok _ _ _ _ _ _ _ _ w h h' hc (by omega))
      rw [h2] at HBX
      rw [h1] at HCK
      clear h1 h2 hc
      go_wp2_with fail
      refine (HT.out _ H0.out H1.out).mono ?_
      rintro e w9 ⟨at', rfl, hq, hn⟩
      have HQ := Lib.hid hq
      replace H0 := Lib.hid (H0.out.stay hn)
      replace H1 := Lib.hid (H1.out.stay hn)
      replace HN := Lib.hid (HN.out.trans hn)
      clear hq hn HT
      go_wp2_with fail
      refine (HCK.out _ H0.out).mono ?_
      rintro e w8 ⟨rfl, hw8⟩
      replace hw8 := hw8.symm
      subst hw8
      go_wp2_with fail
      refine (HBX.out _ H1.out).mono ?_
      rintro e w8 ⟨rfl, hw8⟩
      replace hw8 := hw8.symm
      subst hw8
      go_wp2_with fail
      refine (HPV.out _ H1.out).mono ?_
      rintro e w9 ⟨av1, cv1, rfl, hq, hn⟩
      have HV1 := Lib.hid hq
      replace H0 := Lib.hid (H0.out.stay hn)
      replace H1 := Lib.hid (H1.out.stay hn)
      replace HQ := Lib.hid (HQ.out.stay hn)
      replace HN := Lib.hid (HN.out.trans hn)
      clear hq hn
      go_wp2_with fail
      refine (HRV.out _ H1.out).mono ?_
      rintro e w9 ⟨av2, cv2, rfl, hq, hn⟩
      have HV2 := Lib.hid hq
      replace HV1 := Lib.hid (HV1.out.stay hn)
      replace H0 := Lib.hid (H0.out.stay hn)
      replace H1 := Lib.hid (H1.out.stay hn)
      replace HQ := Lib.hid (HQ.out.stay hn)
      replace HN := Lib.hid (HN.out.trans hn)
      clear hq hn
      go_wp2_with fail
      refine (words_ref _ _ _ _ _ _ _ _ _ _ HV1.out HV2.out HN.out).mono ?_
      rintro e w9 ⟨rfl, hn, hW⟩
      rw [beq_self_eq_true]
      replace HQ := Lib.hid (HQ.out.stay hn)
      replace H0 := Lib.hid (H0.out.stay hn)
      replace H1 := Lib.hid (H1.out.stay hn)
      replace HN := Lib.hid hW
      clear hn hW
      go_wp2_with fail
      refine (rvals_q _ _ _ _ _ _ _ _ _ H0.out H1.out).mono ?_
      rintro e w9 ⟨av, cv, rfl, hq, hn⟩
      have HV := Lib.hid hq
      replace HQ := Lib.hid (HQ.out.stay hn)
      replace HN := Lib.hid (HN.out.trans hn)
      clear hq hn
      go_wp2_with fail
      refine (words_ref _ _ _ _ _ _ _ _ _ _ HQ.out HV.out HN.out).mono ?_
      rintro e w9 ⟨rfl, hn, hW⟩
      rw [beq_self_eq_true]
      replace HN := Lib.hid hW
      clear hn hW
      go_wp2
      go_ret
      exact ⟨rfl, HN.out⟩
end Go.Proofs.Ytiboncnfepnjcaa
