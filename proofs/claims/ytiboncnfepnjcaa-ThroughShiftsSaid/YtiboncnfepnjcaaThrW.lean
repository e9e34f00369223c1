/- The example of through's chapter; the law ThroughPoints. -/
import Derived.Test.YtiboncnfepnjcaaThrF
import Derived.Test.YtiboncnfepnjcaaThrC
import Derived.Test.YtiboncnfepnjcaaPolW
import Derived.Test.YtiboncnfepnjcaaWords
namespace Go.Proofs.Ytiboncnfepnjcaa
open Go.RowKit Go.Bv
set_option linter.unusedVariables false
set_option maxRecDepth 100000 in
set_option maxHeartbeats 2000000 in
theorem awake19 (w : World) : Calls Try.prog 32 #[] w fun e w' => e = .returned (.bool true) ∧ New w w' := by
  have HT : Hid (thr [1#64, 2#64] [5#64, 7#64] = [3#64, 2#64]) := Lib.hid (by
    have h := thr_only (c := [3#64, 2#64]) (xs := [1#64, 2#64]) rfl (by decide +kernel) (by decide +kernel)
    rw [show vals [3#64, 2#64] [1#64, 2#64] = [5#64, 7#64] by decide +kernel] at h
    exact h)
  have HC0 := Lib.hid (show chkT [1#64, 2#64] [5#64, 7#64] = 0 by decide +kernel)
  have h1 := qrow2 w 1#64 2#64
  have h2 := qrow2 (w.alloc (.cells #[.int .u64 (W64 1#64), .int .u64 (W64 2#64)] 23)) 5#64 7#64
  have hn := (New.refl (w.alloc (.cells #[.int .u64 (W64 1#64), .int .u64 (W64 2#64)] 23))).alloc (.cells #[.int .u64 (W64 5#64), .int .u64 (W64 7#64)] 23)
  have hn1 := ((New.refl w).alloc (.cells #[.int .u64 (W64 1#64), .int .u64 (W64 2#64)] 23)).trans hn
  have h3 := thr_ok _ _ _ _ _ _ _ _ _ (h1.stay hn) h2 HC0.out
  rw [HT.out, show W64 1#64 = 1 by decide, show W64 2#64 = 2 by decide, show W64 5#64 = 5 by decide, show W64 7#64 = 7 by decide] at h3
  rw [show W64 1#64 = 1 by decide, show W64 2#64 = 2 by decide, show W64 5#64 = 5 by decide, show W64 7#64 = 7 by decide] at hn1
  have hsz : (w.alloc (.cells #[.int .u64 1, .int .u64 2] 23)).heap.size = w.heap.size + 1 := by simp
  rw [hsz] at h3
  have HTH := Lib.hid h3
  have HN := Lib.hid hn1
  clear h1 h2 hn hn1 h3 hsz
  go_enter Try.func32, Try.ntmps32
  go_wp2_with fail
  refine (HTH.out).mono ?_
  rintro e w9 ⟨a, rfl, hq, hn⟩
  replace HN := Lib.hid (HN.out.trans hn)
  obtain ⟨b, off, rfl, hc⟩ := hq.addr (by omega)
  have c0 := hc 0 (by omega)
  have c1 := hc 1 (by omega)
  rw [show ([3#64, 2#64] : List (BitVec 64)).getD 0 0 = 3#64 from rfl, show W64 3#64 = 3 by decide, Nat.add_zero] at c0
  rw [show ([3#64, 2#64] : List (BitVec 64)).getD 1 0 = 2#64 from rfl, show W64 2#64 = 2 by decide] at c1
  clear hq hc hn HTH HT HC0
  go_wp2
  go_ret
  exact ⟨rfl, HN.out⟩
set_option maxRecDepth 100000 in
set_option maxHeartbeats 4000000 in
theorem ThroughPoints_walk (W : World) (a0 : Option Addr) (n0 m0 : Nat) (z0 : List Int) (w0 : IRow .u64 W a0 n0 m0 z0) (r0 : m0 * 8 ≤ 140737488351232) (a1 : Option Addr) (n1 m1 : Nat) (z1 : List Int) (w1 : IRow .u64 W a1 n1 m1 z1) (r1 : m1 * 8 ≤ 140737488351232) :
    Calls Try.prog 7 #[.slice a0 n0 m0, .slice a1 n1 m1] W fun e w' => e = .returned (.bool true) ∧ Below W.heap.size W w' := by
  obtain ⟨xs, hl⟩ := w0.words r0
  have H0 := Lib.hid hl
  have HL0 := Lib.hid hl.len_eq
  clear w0 r0 hl
  obtain ⟨ys, hl⟩ := w1.words r1
  have H1 := Lib.hid hl
  have HL1 := Lib.hid hl.len_eq
  clear w1 r1 hl
  have HA := Lib.hid awake19
  go_enter Try.func7, Try.ntmps7
  go_wp2_with fail
  refine (HA.out _).mono ?_
  rintro e w9 ⟨rfl, hn⟩
  replace H0 := Lib.hid (H0.out.stay hn)
  replace H1 := Lib.hid (H1.out.stay hn)
  have HN := Lib.hid hn
  clear hn HA
  have HP := Lib.hid (fun w (h : QRow w a0 n0 m0 xs) (h' : QRow w a1 n1 m1 ys) => pchk_q _ _ _ _ _ _ _ _ w h h')
  have HR := Lib.hid (fun w (h : QRow w a0 n0 m0 xs) (h' : QRow w a1 n1 m1 ys) => rchk_q _ _ _ _ _ _ _ _ w h h')
  by_cases hs1 : (16 : Int) < (n0 : Int)
  · by_cases hs2 : (n0 : Int) ≤ 64
    · go_wp2
      go_ret
      exact ⟨rfl, HN.out⟩
    · have hc : chkT xs ys ≠ 0 := fun e => by have := (chk_parts e).2.1; have := HL0.out; omega
      have hne : (chkT xs ys != 0) = true := by rw [bne_iff_ne]; exact hc
      have HT := Lib.hid (fun w (h : QRow w a0 n0 m0 xs) (h' : QRow w a1 n1 m1 ys) => thr_no _ _ _ _ _ _ _ _ w h h' hc)
      clear hc
      obtain ⟨q, hnm⟩ : ∃ z, chkT xs ys = z := ⟨_, rfl⟩
      rw [hnm] at HT HP HR hne
      clear hnm
      go_wp2_with fail
      refine (HT.out _ H0.out H1.out).mono ?_
      rintro e w9 ⟨rfl, hn⟩
      replace H0 := Lib.hid (H0.out.stay hn)
      replace H1 := Lib.hid (H1.out.stay hn)
      replace HN := Lib.hid (HN.out.trans hn)
      clear hn
      go_wp2_with fail
      refine (HR.out _ H0.out H1.out).mono ?_
      rintro e w9 ⟨rfl, hn⟩
      replace H0 := Lib.hid (H0.out.stay hn)
      replace H1 := Lib.hid (H1.out.stay hn)
      replace HN := Lib.hid (HN.out.trans hn)
      clear hn
      go_wp2_with fail
      refine (HP.out _ H0.out H1.out).mono ?_
      rintro e w9 ⟨rfl, hn⟩
      replace HN := Lib.hid (HN.out.trans hn)
      clear hn
      go_wp2
      go_ret
      exact ⟨rfl, HN.out⟩
  · by_cases hc : chkT xs ys = 0
    rotate_left
    · have hne : (chkT xs ys != 0) = true := by rw [bne_iff_ne]; exact hc
      have HT := Lib.hid (fun w (h : QRow w a0 n0 m0 xs) (h' : QRow w a1 n1 m1 ys) => thr_no _ _ _ _ _ _ _ _ w h h' hc)
      clear hc
      obtain ⟨q, hnm⟩ : ∃ z, chkT xs ys = z := ⟨_, rfl⟩
      rw [hnm] at HT HP HR hne
      clear hnm
      go_wp2_with fail
      refine (HT.out _ H0.out H1.out).mono ?_
      rintro e w9 ⟨rfl, hn⟩
      replace H0 := Lib.hid (H0.out.stay hn)
      replace H1 := Lib.hid (H1.out.stay hn)
      replace HN := Lib.hid (HN.out.trans hn)
      clear hn
      go_wp2_with fail
      refine (HR.out _ H0.out H1.out).mono ?_
      rintro e w9 ⟨rfl, hn⟩
      replace H0 := Lib.hid (H0.out.stay hn)
      replace H1 := Lib.hid (H1.out.stay hn)
      replace HN := Lib.hid (HN.out.trans hn)
      clear hn
      go_wp2_with fail
      refine (HP.out _ H0.out H1.out).mono ?_
      rintro e w9 ⟨rfl, hn⟩
      replace HN := Lib.hid (HN.out.trans hn)
      clear hn
      go_wp2
      go_ret
      exact ⟨rfl, HN.out⟩
    · have HVE := Lib.hid (thr_points hc)
      have HBL := Lib.hid (blw_of (thr_lt xs ys))
      have HT := Lib.hid (fun w (h : QRow w a0 n0 m0 xs) (h' : QRow w a1 n1 m1 ys) => thr_ok _ _ _ _ _ _ _ _ w h h' hc)
      rw [hc] at HP HR
      clear hc
      obtain ⟨th, hth⟩ : ∃ z, thr xs ys = z := ⟨_, rfl⟩
      rw [hth] at HVE HBL HT
      clear hth
      go_wp2_with fail
      refine (HT.out _ H0.out H1.out).mono ?_
      rintro e w9 ⟨at', rfl, hq, hn⟩
      have HQ := Lib.hid hq
      replace H0 := Lib.hid (H0.out.stay hn)
      replace H1 := Lib.hid (H1.out.stay hn)
      replace HN := Lib.hid (HN.out.trans hn)
      clear hq hn HT
      go_wp2_with fail
      refine (HR.out _ H0.out H1.out).mono ?_
      rintro e w9 ⟨rfl, hn⟩
      replace H0 := Lib.hid (H0.out.stay hn)
      replace H1 := Lib.hid (H1.out.stay hn)
      replace HQ := Lib.hid (HQ.out.stay hn)
      replace HN := Lib.hid (HN.out.trans hn)
      clear hn
      go_wp2_with fail
      refine (HP.out _ H0.out H1.out).mono ?_
      rintro e w9 ⟨rfl, hn⟩
      replace H0 := Lib.hid (H0.out.stay hn)
      replace H1 := Lib.hid (H1.out.stay hn)
      replace HQ := Lib.hid (HQ.out.stay hn)
      replace HN := Lib.hid (HN.out.trans hn)
      clear hn
      have HBQ := Lib.hid (fun w (h : QRow w at' n0 n0 th) => bel_q _ _ _ _ w h)
      rw [HBL.out] at HBQ
      go_wp2_with fail
      refine (HBQ.out _ HQ.out).mono ?_
      rintro e w8 ⟨rfl, hw8⟩
      replace hw8 := hw8.symm
      subst hw8
      go_wp2_with fail
      refine (rvals_q _ _ _ _ _ _ _ _ _ HQ.out H0.out).mono ?_
      rintro e w9 ⟨av, cv, rfl, hq, hn⟩
      rw [HVE.out] at hq
      have HV := Lib.hid hq
      replace H1 := Lib.hid (H1.out.stay hn)
      replace HN := Lib.hid (HN.out.trans hn)
      clear hq hn
      go_wp2_with fail
      refine (words_ref _ _ _ _ _ _ _ _ _ _ HV.out H1.out HN.out).mono ?_
      rintro e w9 ⟨rfl, hn, hW⟩
      rw [beq_self_eq_true]
      replace HN := Lib.hid hW
      clear hn hW
      go_wp2
      go_ret
      exact ⟨rfl, HN.out⟩
end Go.Proofs.Ytiboncnfepnjcaa
