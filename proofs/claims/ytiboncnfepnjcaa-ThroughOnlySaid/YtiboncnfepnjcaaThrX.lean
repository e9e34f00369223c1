/- The law ThroughOnly. -/
import Derived.Test.YtiboncnfepnjcaaThrW
namespace Go.Proofs.Ytiboncnfepnjcaa
open Go.RowKit Go.Bv
set_option linter.unusedVariables false
set_option maxRecDepth 100000 in
set_option maxHeartbeats 4000000 in
theorem ThroughOnly_walk (W : World) (a0 : Option Addr) (n0 m0 : Nat) (z0 : List Int) (w0 : IRow .u64 W a0 n0 m0 z0) (r0 : m0 * 8 ≤ 140737488351232) (a1 : Option Addr) (n1 m1 : Nat) (z1 : List Int) (w1 : IRow .u64 W a1 n1 m1 z1) (r1 : m1 * 8 ≤ 140737488351232) :
    Calls Try.prog 8 #[.slice a0 n0 m0, .slice a1 n1 m1] W fun e w' => e = .returned (.bool true) ∧ Below W.heap.size W w' := by
  obtain ⟨c, hl⟩ := w0.words r0
  have H0 := Lib.hid hl
  have HL0 := Lib.hid hl.len_eq
  clear w0 r0 hl
  obtain ⟨xs, hl⟩ := w1.words r1
  have H1 := Lib.hid hl
  have HL1 := Lib.hid hl.len_eq
  clear w1 r1 hl
  have HA := Lib.hid awake19
  go_enter Try.func8, Try.ntmps8
  go_wp2_with fail
  refine (HA.out _).mono ?_
  rintro e w9 ⟨rfl, hn⟩
  replace H0 := Lib.hid (H0.out.stay hn)
  replace H1 := Lib.hid (H1.out.stay hn)
  have HN := Lib.hid hn
  clear hn HA
  by_cases hs1 : (12 : Int) < (n0 : Int)
  · go_wp2
    go_ret
    exact ⟨rfl, HN.out⟩
  by_cases hs2 : n0 = n1
  rotate_left
  · have hne : ((n0 : Int) != (n1 : Int)) = true := by rw [bne_iff_ne]; omega
    clear hs2
    go_wp2
    go_ret
    exact ⟨rfl, HN.out⟩
  subst hs2
  have HB := Lib.hid (fun w (h : QRow w a0 n0 m0 c) => bel_q _ _ _ _ w h)
  cases hb : blw c with
  | false =>
    rw [hb] at HB
    clear hb
    go_wp2_with fail
    refine (HB.out _ H0.out).mono ?_
    rintro e w8 ⟨rfl, hw8⟩
    replace hw8 := hw8.symm
    subst hw8
    go_wp2
    go_ret
    exact ⟨rfl, HN.out⟩
  | true =>
  rw [hb] at HB
  have HBC := Lib.hid hb
  clear hb
  go_wp2_with fail
  refine (HB.out _ H0.out).mono ?_
  rintro e w8 ⟨rfl, hw8⟩
  replace hw8 := hw8.symm
  subst hw8
  go_wp2_with fail
  refine (rvals_q _ _ _ _ _ _ _ _ _ H0.out H1.out).mono ?_
  rintro e w9 ⟨av, cv, rfl, hq, hn⟩
  have HV := Lib.hid hq
  replace H0 := Lib.hid (H0.out.stay hn)
  replace H1 := Lib.hid (H1.out.stay hn)
  replace HN := Lib.hid (HN.out.trans hn)
  clear hq hn HB
  have HR := Lib.hid (fun w (h : QRow w a1 n0 m1 xs) (h' : QRow w av n0 cv (vals c xs)) => rchk_q _ _ _ _ _ _ _ _ w h h')
  by_cases hc : chkT xs (vals c xs) = 0
  rotate_left
  · have hne : (chkT xs (vals c xs) != 0) = true := by rw [bne_iff_ne]; exact hc
    clear hc
    obtain ⟨q, hnm⟩ : ∃ z, chkT xs (vals c xs) = z := ⟨_, rfl⟩
    rw [hnm] at HR hne
    clear hnm
    go_wp2_with fail
    refine (HR.out _ H1.out HV.out).mono ?_
    rintro e w9 ⟨rfl, hn⟩
    replace HN := Lib.hid (HN.out.trans hn)
    clear hn
    go_wp2
    go_ret
    exact ⟨rfl, HN.out⟩
  have HTO := Lib.hid (thr_only (by rw [HL0.out, HL1.out]) HBC.out hc)
  have HT := Lib.hid (fun w (h : QRow w a1 n0 m1 xs) (h' : QRow w av n0 cv (vals c xs)) => thr_ok _ _ _ _ _ _ _ _ w h h' hc)
  rw [HTO.out] at HT
  rw [hc] at HR
  clear hc
  go_wp2_with fail
  refine (HR.out _ H1.out HV.out).mono ?_
  rintro e w9 ⟨rfl, hn⟩
  replace H0 := Lib.hid (H0.out.stay hn)
  replace H1 := Lib.hid (H1.out.stay hn)
  replace HV := Lib.hid (HV.out.stay hn)
  replace HN := Lib.hid (HN.out.trans hn)
  clear hn
  go_wp2_with fail
  refine (HT.out _ H1.out HV.out).mono ?_
  rintro e w9 ⟨at', rfl, hq, hn⟩
  have HQ := Lib.hid hq
  replace H0 := Lib.hid (H0.out.stay hn)
  replace HN := Lib.hid (HN.out.trans hn)
  clear hq hn HT
  go_wp2_with fail
  refine (words_ref _ _ _ _ _ _ _ _ _ _ HQ.out H0.out HN.out).mono ?_
  rintro e w9 ⟨rfl, hn, hW⟩
  rw [beq_self_eq_true]
  replace HN := Lib.hid hW
  clear hn hW
  go_wp2
  go_ret
  exact ⟨rfl, HN.out⟩
end Go.Proofs.Ytiboncnfepnjcaa
