/- The law ThroughShifts. -/
import Derived.Test.YtiboncnfepnjcaaThrH
namespace Go.Proofs.Ytiboncnfepnjcaa
open Go.RowKit Go.Bv
set_option linter.unusedVariables false
set_option maxRecDepth 100000 in
set_option maxHeartbeats 4000000 in
theorem ThroughShifts_walk (W : World) (a0 : Option Addr) (n0 m0 : Nat) (z0 : List Int) (w0 : IRow .u64 W a0 n0 m0 z0) (r0 : m0 * 8 ≤ 140737488351232) (a1 : Option Addr) (n1 m1 : Nat) (z1 : List Int) (w1 : IRow .u64 W a1 n1 m1 z1) (r1 : m1 * 8 ≤ 140737488351232) (a2 : Option Addr) (n2 m2 : Nat) (z2 : List Int) (w2 : IRow .u64 W a2 n2 m2 z2) (r2 : m2 * 8 ≤ 140737488351232) :
    Calls Try.prog 10 #[.slice a0 n0 m0, .slice a1 n1 m1, .slice a2 n2 m2] W fun e w' => e = .returned (.bool true) ∧ Below W.heap.size W w' := by
  obtain ⟨c, hl⟩ := w0.words r0
  have H0 := Lib.hid hl
  have HL0 := Lib.hid hl.len_eq
  clear w0 r0 hl
  obtain ⟨xs, hl⟩ := w1.words r1
  have H1 := Lib.hid hl
  have HL1 := Lib.hid hl.len_eq
  clear w1 r1 hl
  obtain ⟨ys, hl⟩ := w2.words r2
  have H2 := Lib.hid hl
  have HL2 := Lib.hid hl.len_eq
  clear w2 r2 hl
  have HA := Lib.hid awake19
  go_enter Try.func10, Try.ntmps10
  go_wp2_with fail
  refine (HA.out _).mono ?_
  rintro e w9 ⟨rfl, hn⟩
  replace H0 := Lib.hid (H0.out.stay hn)
  replace H1 := Lib.hid (H1.out.stay hn)
  replace H2 := Lib.hid (H2.out.stay hn)
  have HN := Lib.hid hn
  clear hn HA
  by_cases hs1 : (14 : Int) < (n0 : Int)
  · by_cases hs2 : (n0 : Int) ≤ 64
    · go_wp2
      go_ret
      exact ⟨rfl, HN.out⟩
    · by_cases hx1 : (14 : Int) < (n1 : Int)
      · by_cases hx2 : (n1 : Int) ≤ 64
        · go_wp2
          go_ret
          exact ⟨rfl, HN.out⟩
        · have h1 : chkC c ≠ 0 := fun e => by have := (chkC_parts e).2.1; have := HL0.out; omega
          have hs : shE c xs ys ≠ 0 := fun e => by have := (chkC_parts (shE_parts e).1).2.1; have := HL0.out; omega
          have HT := Lib.hid (fun w (h : QRow w a0 n0 m0 c) (h' : QRow w a1 n1 m1 xs) (h'' : QRow w a2 n2 m2 ys) => sh_no _ _ _ _ _ _ _ _ _ _ _ _ w h h' h'' hs)
          have h4 : shE c xs ys = chkC c := by unfold shE; rw [if_pos h1]
          have hne : (chkC c != 0) = true := by rw [bne_iff_ne]; exact h1
          have hne2 : (chkC c == 0) = false := by rw [beq_eq_false_iff_ne]; exact h1
          rw [h4] at HT
          clear h1 h4 hs
          have HCK := Lib.hid (fun w (h : QRow w a0 n0 m0 c) => rcheck_q _ _ _ _ w h)
          obtain ⟨q, hnm⟩ : ∃ z, chkC c = z := ⟨_, rfl⟩
          rw [hnm] at HT HCK hne hne2
          clear hnm
          go_wp2_with fail
          refine (HT.out _ H0.out H1.out H2.out).mono ?_
          rintro e w9 ⟨rfl, hn⟩
          replace H0 := Lib.hid (H0.out.stay hn)
          replace H1 := Lib.hid (H1.out.stay hn)
          replace H2 := Lib.hid (H2.out.stay hn)
          replace HN := Lib.hid (HN.out.trans hn)
          clear hn
          go_wp2_with fail
          refine (HCK.out _ H0.out).mono ?_
          rintro e w8 ⟨rfl, hw8⟩
          replace hw8 := hw8.symm
          subst hw8
          go_wp2
          go_ret
          exact ⟨rfl, HN.out⟩
      · have h1 : chkC c ≠ 0 := fun e => by have := (chkC_parts e).2.1; have := HL0.out; omega
        have hs : shE c xs ys ≠ 0 := fun e => by have := (chkC_parts (shE_parts e).1).2.1; have := HL0.out; omega
        have HT := Lib.hid (fun w (h : QRow w a0 n0 m0 c) (h' : QRow w a1 n1 m1 xs) (h'' : QRow w a2 n2 m2 ys) => sh_no _ _ _ _ _ _ _ _ _ _ _ _ w h h' h'' hs)
        have h4 : shE c xs ys = chkC c := by unfold shE; rw [if_pos h1]
        have hne : (chkC c != 0) = true := by rw [bne_iff_ne]; exact h1
        have hne2 : (chkC c == 0) = false := by rw [beq_eq_false_iff_ne]; exact h1
        rw [h4] at HT
        clear h1 h4 hs
        have HCK := Lib.hid (fun w (h : QRow w a0 n0 m0 c) => rcheck_q _ _ _ _ w h)
        obtain ⟨q, hnm⟩ : ∃ z, chkC c = z := ⟨_, rfl⟩
        rw [hnm] at HT HCK hne hne2
        clear hnm
        go_wp2_with fail
        refine (HT.out _ H0.out H1.out H2.out).mono ?_
        rintro e w9 ⟨rfl, hn⟩
        replace H0 := Lib.hid (H0.out.stay hn)
        replace H1 := Lib.hid (H1.out.stay hn)
        replace H2 := Lib.hid (H2.out.stay hn)
        replace HN := Lib.hid (HN.out.trans hn)
        clear hn
        go_wp2_with fail
        refine (HCK.out _ H0.out).mono ?_
        rintro e w8 ⟨rfl, hw8⟩
        replace hw8 := hw8.symm
        subst hw8
        go_wp2
        go_ret
        exact ⟨rfl, HN.out⟩
  · by_cases hx1 : (14 : Int) < (n1 : Int)
    · by_cases hx2 : (n1 : Int) ≤ 64
      · go_wp2
        go_ret
        exact ⟨rfl, HN.out⟩
      · have h2 : chkT xs ys ≠ 0 := fun e => by have := (chk_parts e).2.1; have := HL1.out; omega
        have hs : shE c xs ys ≠ 0 := fun e => by have := (chk_parts (shE_parts e).2.1).2.1; have := HL1.out; omega
        have HT := Lib.hid (fun w (h : QRow w a0 n0 m0 c) (h' : QRow w a1 n1 m1 xs) (h'' : QRow w a2 n2 m2 ys) => sh_no _ _ _ _ _ _ _ _ _ _ _ _ w h h' h'' hs)
        by_cases h1 : chkC c = 0
        · have h4 : shE c xs ys = chkT xs ys := by unfold shE; rw [if_neg (by simp [h1]), if_pos h2]
          have hne : (chkT xs ys != 0) = true := by rw [bne_iff_ne]; exact h2
          have hne2 : (chkT xs ys == 0) = false := by rw [beq_eq_false_iff_ne]; exact h2
          rw [h4] at HT
          have HCK := Lib.hid (fun w (h : QRow w a0 n0 m0 c) => rcheck_q _ _ _ _ w h)
          rw [h1] at HCK
          clear h1 h2 h4 hs
          have HRK := Lib.hid (fun w (h : QRow w a1 n1 m1 xs) (h' : QRow w a2 n2 m2 ys) => rchk_q _ _ _ _ _ _ _ _ w h h')
          obtain ⟨q, hnm⟩ : ∃ z, chkT xs ys = z := ⟨_, rfl⟩
          rw [hnm] at HT HRK hne hne2
          clear hnm
          go_wp2_with fail
          refine (HT.out _ H0.out H1.out H2.out).mono ?_
          rintro e w9 ⟨rfl, hn⟩
          replace H0 := Lib.hid (H0.out.stay hn)
          replace H1 := Lib.hid (H1.out.stay hn)
          replace H2 := Lib.hid (H2.out.stay hn)
          replace HN := Lib.hid (HN.out.trans hn)
          clear hn
          go_wp2_with fail
          refine (HCK.out _ H0.out).mono ?_
          rintro e w8 ⟨rfl, hw8⟩
          replace hw8 := hw8.symm
          subst hw8
          go_wp2_with fail
          refine (HRK.out _ H1.out H2.out).mono ?_
          rintro e w9 ⟨rfl, hn⟩
          replace H0 := Lib.hid (H0.out.stay hn)
          replace H1 := Lib.hid (H1.out.stay hn)
          replace H2 := Lib.hid (H2.out.stay hn)
          replace HN := Lib.hid (HN.out.trans hn)
          clear hn
          go_wp2
          go_ret
          exact ⟨rfl, HN.out⟩
        · have h4 : shE c xs ys = chkC c := by unfold shE; rw [if_pos h1]
          have hne : (chkC c != 0) = true := by rw [bne_iff_ne]; exact h1
          have hne2 : (chkC c == 0) = false := by rw [beq_eq_false_iff_ne]; exact h1
          rw [h4] at HT
          clear h1 h4 hs
          have HCK := Lib.hid (fun w (h : QRow w a0 n0 m0 c) => rcheck_q _ _ _ _ w h)
          obtain ⟨q, hnm⟩ : ∃ z, chkC c = z := ⟨_, rfl⟩
          rw [hnm] at HT HCK hne hne2
          clear hnm
          go_wp2_with fail
          refine (HT.out _ H0.out H1.out H2.out).mono ?_
          rintro e w9 ⟨rfl, hn⟩
          replace H0 := Lib.hid (H0.out.stay hn)
          replace H1 := Lib.hid (H1.out.stay hn)
          replace H2 := Lib.hid (H2.out.stay hn)
          replace HN := Lib.hid (HN.out.trans hn)
          clear hn
          go_wp2_with fail
          refine (HCK.out _ H0.out).mono ?_
          rintro e w8 ⟨rfl, hw8⟩
          replace hw8 := hw8.symm
          subst hw8
          go_wp2
          go_ret
          exact ⟨rfl, HN.out⟩
    · by_cases hs : shE c xs ys = 0
      rotate_left
      · have HT := Lib.hid (fun w (h : QRow w a0 n0 m0 c) (h' : QRow w a1 n1 m1 xs) (h'' : QRow w a2 n2 m2 ys) => sh_no _ _ _ _ _ _ _ _ _ _ _ _ w h h' h'' hs)
        by_cases h1 : chkC c = 0
        · by_cases h2 : chkT xs ys = 0
          · have h3 : c.length < xs.length := by
              by_cases e : c.length < xs.length
              · exact e
              · exact absurd (by unfold shE; rw [if_neg (by simp [h1]), if_neg (by simp [h2]), if_neg e]) hs
            have h4 : shE c xs ys = 1 := by unfold shE; rw [if_neg (by simp [h1]), if_neg (by simp [h2]), if_pos h3]
            have h5 : (n0 : Int) < (n1 : Int) := by have := HL0.out; have := HL1.out; omega
            rw [h4] at HT
            have HCK := Lib.hid (fun w (h : QRow w a0 n0 m0 c) => rcheck_q _ _ _ _ w h)
            have HRK := Lib.hid (fun w (h : QRow w a1 n1 m1 xs) (h' : QRow w a2 n2 m2 ys) => rchk_q _ _ _ _ _ _ _ _ w h h')
            rw [h1] at HCK
            rw [h2] at HRK
            clear h1 h2 h3 h4 hs
            go_wp2_with fail
            refine (HT.out _ H0.out H1.out H2.out).mono ?_
            rintro e w9 ⟨rfl, hn⟩
            replace H0 := Lib.hid (H0.out.stay hn)
            replace H1 := Lib.hid (H1.out.stay hn)
            replace H2 := Lib.hid (H2.out.stay hn)
            replace HN := Lib.hid (HN.out.trans hn)
            clear hn
            go_wp2_with fail
            refine (HCK.out _ H0.out).mono ?_
            rintro e w8 ⟨rfl, hw8⟩
            replace hw8 := hw8.symm
            subst hw8
            go_wp2_with fail
            refine (HRK.out _ H1.out H2.out).mono ?_
            rintro e w9 ⟨rfl, hn⟩
            replace H0 := Lib.hid (H0.out.stay hn)
            replace H1 := Lib.hid (H1.out.stay hn)
            replace H2 := Lib.hid (H2.out.stay hn)
            replace HN := Lib.hid (HN.out.trans hn)
            clear hn
            go_wp2
            go_ret
            exact ⟨rfl, HN.out⟩
          · have h4 : shE c xs ys = chkT xs ys := by unfold shE; rw [if_neg (by simp [h1]), if_pos h2]
            have hne : (chkT xs ys != 0) = true := by rw [bne_iff_ne]; exact h2
            have hne2 : (chkT xs ys == 0) = false := by rw [beq_eq_false_iff_ne]; exact h2
            rw [h4] at HT
            have HCK := Lib.hid (fun w (h : QRow w a0 n0 m0 c) => rcheck_q _ _ _ _ w h)
            rw [h1] at HCK
            clear h1 h2 h4 hs
            have HRK := Lib.hid (fun w (h : QRow w a1 n1 m1 xs) (h' : QRow w a2 n2 m2 ys) => rchk_q _ _ _ _ _ _ _ _ w h h')
            obtain ⟨q, hnm⟩ : ∃ z, chkT xs ys = z := ⟨_, rfl⟩
            rw [hnm] at HT HRK hne hne2
            clear hnm
            go_wp2_with fail
            refine (HT.out _ H0.out H1.out H2.out).mono ?_
            rintro e w9 ⟨rfl, hn⟩
            replace H0 := Lib.hid (H0.out.stay hn)
            replace H1 := Lib.hid (H1.out.stay hn)
            replace H2 := Lib.hid (H2.out.stay hn)
            replace HN := Lib.hid (HN.out.trans hn)
            clear hn
            go_wp2_with fail
            refine (HCK.out _ H0.out).mono ?_
            rintro e w8 ⟨rfl, hw8⟩
            replace hw8 := hw8.symm
            subst hw8
            go_wp2_with fail
            refine (HRK.out _ H1.out H2.out).mono ?_
            rintro e w9 ⟨rfl, hn⟩
            replace H0 := Lib.hid (H0.out.stay hn)
            replace H1 := Lib.hid (H1.out.stay hn)
            replace H2 := Lib.hid (H2.out.stay hn)
            replace HN := Lib.hid (HN.out.trans hn)
            clear hn
            go_wp2
            go_ret
            exact ⟨rfl, HN.out⟩
        · have h4 : shE c xs ys = chkC c := by unfold shE; rw [if_pos h1]
          have hne : (chkC c != 0) = true := by rw [bne_iff_ne]; exact h1
          have hne2 : (chkC c == 0) = false := by rw [beq_eq_false_iff_ne]; exact h1
          rw [h4] at HT
          clear h1 h4 hs
          have HCK := Lib.hid (fun w (h : QRow w a0 n0 m0 c) => rcheck_q _ _ _ _ w h)
          obtain ⟨q, hnm⟩ : ∃ z, chkC c = z := ⟨_, rfl⟩
          rw [hnm] at HT HCK hne hne2
          clear hnm
          go_wp2_with fail
          refine (HT.out _ H0.out H1.out H2.out).mono ?_
          rintro e w9 ⟨rfl, hn⟩
          replace H0 := Lib.hid (H0.out.stay hn)
          replace H1 := Lib.hid (H1.out.stay hn)
          replace H2 := Lib.hid (H2.out.stay hn)
          replace HN := Lib.hid (HN.out.trans hn)
          clear hn
          go_wp2_with fail
          refine (HCK.out _ H0.out).mono ?_
          rintro e w8 ⟨rfl, hw8⟩
          replace hw8 := hw8.symm
          subst hw8
          go_wp2
          go_ret
          exact ⟨rfl, HN.out⟩
      · obtain ⟨h1, h2, h3⟩ := shE_parts hs
        have h5 : ¬ (n0 : Int) < (n1 : Int) := by have := HL0.out; have := HL1.out; omega
        have HCK := Lib.hid (fun w (h : QRow w a0 n0 m0 c) => rcheck_q _ _ _ _ w h)
        have HRK := Lib.hid (fun w (h : QRow w a1 n1 m1 xs) (h' : QRow w a2 n2 m2 ys) => rchk_q _ _ _ _ _ _ _ _ w h h')
        rw [h1] at HCK
        rw [h2] at HRK
        have HSP := Lib.hid (sh_points hs)
        have HSB := Lib.hid (sh_blw (xs := xs) (ys := ys) h1)
        have HSK := Lib.hid (sh_back hs)
        have HT := Lib.hid (fun w (h : QRow w a0 n0 m0 c) (h' : QRow w a1 n1 m1 xs) (h'' : QRow w a2 n2 m2 ys) => sh_ok _ _ _ _ _ _ _ _ _ _ _ _ w h h' h'' hs)
        have HT2 := Lib.hid (fun w ao co av cv (h : QRow w ao n0 co (sh c xs ys)) (h' : QRow w a1 n1 m1 xs) (h'' : QRow w av n1 cv (vals c xs)) => sh_ok _ _ _ _ _ _ _ _ _ _ _ _ w h h' h'' (sh_again hs))
        rw [HSK.out] at HT2
        clear h1 h2 h3 hs HSK
        obtain ⟨S, hS⟩ : ∃ z, sh c xs ys = z := ⟨_, rfl⟩
        rw [hS] at HSP HSB HT HT2
        clear hS
        go_wp2_with fail
        refine (HT.out _ H0.out H1.out H2.out).mono ?_
        rintro e w9 ⟨ao, co, rfl, hq, hn⟩
        have HQ := Lib.hid hq
        replace H0 := Lib.hid (H0.out.stay hn)
        replace H1 := Lib.hid (H1.out.stay hn)
        replace H2 := Lib.hid (H2.out.stay hn)
        replace HN := Lib.hid (HN.out.trans hn)
        clear hq hn HT
        go_wp2_with fail
        refine (HCK.out _ H0.out).mono ?_
        rintro e w8 ⟨rfl, hw8⟩
        replace hw8 := hw8.symm
        subst hw8
        go_wp2_with fail
        refine (HRK.out _ H1.out H2.out).mono ?_
        rintro e w9 ⟨rfl, hn⟩
        replace H0 := Lib.hid (H0.out.stay hn)
        replace H1 := Lib.hid (H1.out.stay hn)
        replace H2 := Lib.hid (H2.out.stay hn)
        replace HQ := Lib.hid (HQ.out.stay hn)
        replace HN := Lib.hid (HN.out.trans hn)
        clear hn
        go_wp2_with fail
        refine (rvals_q _ _ _ _ _ _ _ _ _ H0.out H1.out).mono ?_
        rintro e w9 ⟨av, cv, rfl, hq, hn⟩
        have HV := Lib.hid hq
        replace H0 := Lib.hid (H0.out.stay hn)
        replace H1 := Lib.hid (H1.out.stay hn)
        replace H2 := Lib.hid (H2.out.stay hn)
        replace HQ := Lib.hid (HQ.out.stay hn)
        replace HN := Lib.hid (HN.out.trans hn)
        clear hq hn
        go_wp2_with fail
        refine (HT2.out _ _ _ _ _ HQ.out H1.out HV.out).mono ?_
        rintro e w9 ⟨ab, cb, rfl, hq, hn⟩
        have HB := Lib.hid hq
        replace H0 := Lib.hid (H0.out.stay hn)
        replace H1 := Lib.hid (H1.out.stay hn)
        replace H2 := Lib.hid (H2.out.stay hn)
        replace HQ := Lib.hid (HQ.out.stay hn)
        replace HN := Lib.hid (HN.out.trans hn)
        clear hq hn HT2 HV
        have HBQ := Lib.hid (fun w (h : QRow w ao n0 co S) => bel_q _ _ _ _ w h)
        rw [HSB.out] at HBQ
        go_wp2_with fail
        refine (HBQ.out _ HQ.out).mono ?_
        rintro e w8 ⟨rfl, hw8⟩
        replace hw8 := hw8.symm
        subst hw8
        go_wp2_with fail
        refine (rvals_q _ _ _ _ _ _ _ _ _ HQ.out H1.out).mono ?_
        rintro e w9 ⟨av2, cv2, rfl, hq, hn⟩
        rw [HSP.out] at hq
        have HV := Lib.hid hq
        replace H0 := Lib.hid (H0.out.stay hn)
        replace H2 := Lib.hid (H2.out.stay hn)
        replace HB := Lib.hid (HB.out.stay hn)
        replace HN := Lib.hid (HN.out.trans hn)
        clear hq hn
        go_wp2_with fail
        refine (words_ref _ _ _ _ _ _ _ _ _ _ HV.out H2.out HN.out).mono ?_
        rintro e w9 ⟨rfl, hn, hW⟩
        rw [beq_self_eq_true]
        replace H0 := Lib.hid (H0.out.stay hn)
        replace HB := Lib.hid (HB.out.stay hn)
        replace HN := Lib.hid hW
        clear hn hW
        go_wp2_with fail
        refine (words_ref _ _ _ _ _ _ _ _ _ _ HB.out H0.out HN.out).mono ?_
        rintro e w9 ⟨rfl, hn, hW⟩
        rw [beq_self_eq_true]
        replace HN := Lib.hid hW
        clear hn hW
        go_wp2
        go_ret
        exact ⟨rfl, HN.out⟩
end Go.Proofs.Ytiboncnfepnjcaa
