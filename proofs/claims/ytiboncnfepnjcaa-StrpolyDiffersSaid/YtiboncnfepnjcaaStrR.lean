/- The law StrpolyDiffers. -/
import Derived.Test.YtiboncnfepnjcaaStrP
import Derived.Test.YtiboncnfepnjcaaPolW
namespace Go.Proofs.Ytiboncnfepnjcaa
open Go Go.RowKit Go.Bv
set_option linter.unusedVariables false
theorem same_len (b c : List (BitVec 8)) : (decide ((dfL b c).length = 0)) = (b == c) := by
  rw [Bool.eq_iff_iff, decide_eq_true_eq, beq_iff_eq, List.length_eq_zero_iff]
  exact dfL_same b c
theorem meet_value (x : BitVec 64) (b c : List (BitVec 8)) (hx : ¬ PP ≤ x.toNat) (h : ¬ b = c) : meetE x b c = 0 ∧ meetV x b c = (mp (nv (dfL b c) x) == 0#64) := by
  have e : meetE x b c = 0 := by unfold meetE; rw [if_neg hx, if_neg h]
  refine ⟨e, ?_⟩
  unfold meetV meetB
  rw [e, Bool.eq_iff_iff, beq_iff_eq, dfL_value]
  simp
set_option maxRecDepth 100000 in
set_option maxHeartbeats 4000000 in
theorem StrpolyDiffers_walk (W : World) (a0 : Int) (w0 : (Lit.int .u64 a0).wf = true) (a1 : Option Addr) (n1 m1 : Nat) (z1 : List Int) (w1 : IRow .u8 W a1 n1 m1 z1) (r1 : m1 * 1 ≤ 140737488351232) (a2 : Option Addr) (n2 m2 : Nat) (z2 : List Int) (w2 : IRow .u8 W a2 n2 m2 z2) (r2 : m2 * 1 ≤ 140737488351232) :
    Calls Try.prog 13 #[.int .u64 a0, .slice a1 n1 m1, .slice a2 n2 m2] W fun e w' => e = .returned (.bool true) ∧ Below W.heap.size W w' := by
  obtain ⟨x, rfl⟩ := ex64 a0 (by simp [Lit.wf, IntKind.min, IntKind.max, IntKind.signed, IntKind.bits] at w0; omega)
  obtain ⟨b, hb⟩ := w1.bytes r1
  obtain ⟨c, hc⟩ := w2.bytes r2
  have H1 := Lib.hid hb
  have H2 := Lib.hid hc
  clear w0 w1 w2 r1 r2 hb hc
  have HA := Lib.hid awake25
  go_enter Try.func13, Try.ntmps13
  go_wp2_with fail
  refine (HA.out _).mono ?_
  rintro e w9 ⟨rfl, hn⟩
  replace H1 := Lib.hid (H1.out.stay hn)
  replace H2 := Lib.hid (H2.out.stay hn)
  have HN := Lib.hid hn
  clear hn HA
  by_cases hs1 : (200 : Int) < (n1 : Int)
  · go_wp2
    go_ret
    exact ⟨rfl, HN.out⟩
  by_cases hs2 : (200 : Int) < (n2 : Int)
  · go_wp2
    go_ret
    exact ⟨rfl, HN.out⟩
  have HDF := Lib.hid (fun w (h : BRow w a1 n1 m1 b) (h' : BRow w a2 n2 m2 c) => diff_q a1 a2 n1 m1 n2 m2 b c w h h' (by omega) (by omega))
  have HRD := Lib.hid (fun w (h : BRow w a1 n1 m1 b) (h' : BRow w a2 n2 m2 c) => rdiff_q a1 a2 n1 m1 n2 m2 b c w h h' (by omega) (by omega))
  have HMO := Lib.hid (fun w => most_q a1 a2 n1 m1 n2 m2 w (by omega) (by omega))
  have HRM := Lib.hid (fun w (h : BRow w a1 n1 m1 b) (h' : BRow w a2 n2 m2 c) => rmost_q a1 a2 n1 m1 n2 m2 b c w h h' (by omega) (by omega))
  have HWW := Lib.hid (fun w a k a' k' n (q : List (BitVec 64)) (h : QRow w a n k q) (h' : QRow w a' n k' q) => words_ref a a' n k n k' q q w w h h' (New.refl w))
  have HSC := Lib.hid (fun w (h : BRow w a1 n1 m1 b) (h' : BRow w a2 n2 m2 c) => same_any a1 a2 n1 m1 n2 m2 b c w h h')
  have HME := Lib.hid (fun w (h : BRow w a1 n1 m1 b) (h' : BRow w a2 n2 m2 c) => meets_q x a1 a2 n1 m1 n2 m2 b c w h h' (by omega) (by omega))
  have HVA := Lib.hid (fun w a n k (h : QRow w a n k (dfL b c)) => value_q a n k _ x w h)
  have hsl := same_len b c
  have hmo : (dfL b c).length ≤ mostN n1 n2 + 1 := by
    have := dfL_len b c
    rw [H1.out.len_eq, H2.out.len_eq] at this
    exact this
  have hmm : mostN n1 n2 ≤ 1000 := by unfold mostN; omega
  have HMV := Lib.hid (meet_value x b c)
  obtain ⟨d, hd⟩ : ∃ z, dfL b c = z := ⟨_, rfl⟩
  rw [hd] at HDF HRD HVA hsl hmo HMV
  clear hd
  obtain ⟨dn, hdn⟩ : ∃ z, d.length = z := ⟨_, rfl⟩
  rw [hdn] at HDF HRD hsl hmo
  clear hdn
  obtain ⟨mo, hmo2⟩ : ∃ z, mostN n1 n2 = z := ⟨_, rfl⟩
  rw [hmo2] at HMO HRM hmo hmm
  clear hmo2
  obtain ⟨v, hv⟩ : ∃ z, mp (nv d x) = z := ⟨_, rfl⟩
  rw [hv] at HVA HMV
  clear hv
  have hw1 : wrap64 ((mo : Int) + 1) = (mo : Int) + 1 := by unfold wrap64; omega
  have hle : (dn : Int) ≤ (mo : Int) + 1 := by omega
  have hdz : ((dn : Int) == 0) = (b == c) := by
    rw [← hsl, Bool.eq_iff_iff, beq_iff_eq, decide_eq_true_eq]; omega
  have HSL := Lib.hid hsl
  clear hsl hmo
  obtain ⟨sm, hsm⟩ : ∃ z, (b == c) = z := ⟨_, rfl⟩
  rw [hsm] at hdz HSC
  have HSM := Lib.hid hsm
  clear hsm HSL
  go_wp2_with fail
  refine (HDF.out _ H1.out H2.out).mono ?_
  rintro e w9 ⟨ar, cr, rfl, hq, hn⟩
  have HQ := Lib.hid hq
  replace H1 := Lib.hid (H1.out.stay hn)
  replace H2 := Lib.hid (H2.out.stay hn)
  replace HN := Lib.hid (HN.out.trans hn)
  clear hq hn HDF
  go_wp2_with fail
  refine (HMO.out _).mono ?_
  rintro e w' ⟨rfl, hw⟩
  replace hw := hw.symm
  subst hw
  clear HMO
  go_wp2_with fail
  refine (HRD.out _ H1.out H2.out).mono ?_
  rintro e w9 ⟨ar2, cr2, rfl, hq, hn⟩
  have HQ2 := Lib.hid hq
  replace HQ := Lib.hid (HQ.out.stay hn)
  replace H1 := Lib.hid (H1.out.stay hn)
  replace H2 := Lib.hid (H2.out.stay hn)
  replace HN := Lib.hid (HN.out.trans hn)
  clear hq hn HRD
  go_wp2_with fail
  refine (HWW.out _ _ _ _ _ _ _ HQ.out HQ2.out).mono ?_
  rintro e w9 ⟨rfl, hn, _⟩
  rw [beq_self_eq_true]
  replace HQ := Lib.hid (HQ.out.stay hn)
  replace H1 := Lib.hid (H1.out.stay hn)
  replace H2 := Lib.hid (H2.out.stay hn)
  replace HN := Lib.hid (HN.out.trans hn)
  clear hn HWW HQ2
  go_wp2_with fail
  refine (HRM.out _ H1.out H2.out).mono ?_
  rintro e w9 ⟨rfl, hn⟩
  replace HQ := Lib.hid (HQ.out.stay hn)
  replace H1 := Lib.hid (H1.out.stay hn)
  replace H2 := Lib.hid (H2.out.stay hn)
  replace HN := Lib.hid (HN.out.trans hn)
  clear hn HRM
  go_wp2_with fail
  refine (HSC.out _ H1.out H2.out).mono ?_
  rintro e w' ⟨rfl, hw⟩
  replace hw := hw.symm
  subst hw
  have hss : (sm != sm) = false := by simp
  by_cases hx : PP ≤ x.toNat
  · have hg : decide (2305843009213693951 ≤ W64 x) = true := decide_eq_true (by unfold PP at hx; unfold W64; omega)
    have e1 : meetE x b c = 2 := by unfold meetE; rw [if_pos hx]
    have e2 : meetV x b c = false := by unfold meetV; rw [e1]; rfl
    rw [e1, e2] at HME
    clear e1 e2 hx HMV
    go_wp2_with fail
    refine (HME.out _ H1.out H2.out).mono ?_
    rintro e w9 ⟨rfl, hn⟩
    replace HQ := Lib.hid (HQ.out.stay hn)
    replace H1 := Lib.hid (H1.out.stay hn)
    replace H2 := Lib.hid (H2.out.stay hn)
    replace HN := Lib.hid (HN.out.trans hn)
    clear hn HME
    go_wp2
    go_ret
    exact ⟨rfl, HN.out⟩
  · have hg : decide (2305843009213693951 ≤ W64 x) = false := decide_eq_false (by unfold PP at hx; unfold W64; omega)
    by_cases hbc : b = c
    · have e1 : meetE x b c = 15 := by unfold meetE; rw [if_neg hx, if_pos hbc]
      have e2 : meetV x b c = false := by unfold meetV; rw [e1]; rfl
      have e3 : sm = true := by rw [← HSM.out, beq_iff_eq]; exact hbc
      rw [e1, e2] at HME
      subst e3
      clear e1 e2 hx HMV
      go_wp2_with fail
      refine (HME.out _ H1.out H2.out).mono ?_
      rintro e w9 ⟨rfl, hn⟩
      replace HQ := Lib.hid (HQ.out.stay hn)
      replace H1 := Lib.hid (H1.out.stay hn)
      replace H2 := Lib.hid (H2.out.stay hn)
      replace HN := Lib.hid (HN.out.trans hn)
      clear hn HME
      go_wp2_with fail
      refine (HSC.out _ H1.out H2.out).mono ?_
      rintro e w' ⟨rfl, hw⟩
      replace hw := hw.symm
      subst hw
      go_wp2
      go_ret
      exact ⟨rfl, HN.out⟩
    · have e3 : sm = false := by rw [← HSM.out, beq_eq_false_iff_ne]; exact hbc
      rw [(HMV.out hx hbc).1, (HMV.out hx hbc).2] at HME
      subst e3
      clear hx HMV
      go_wp2_with fail
      refine (HME.out _ H1.out H2.out).mono ?_
      rintro e w9 ⟨rfl, hn⟩
      replace HQ := Lib.hid (HQ.out.stay hn)
      replace H1 := Lib.hid (H1.out.stay hn)
      replace H2 := Lib.hid (H2.out.stay hn)
      replace HN := Lib.hid (HN.out.trans hn)
      clear hn HME
      go_wp2_with fail
      refine (HSC.out _ H1.out H2.out).mono ?_
      rintro e w' ⟨rfl, hw⟩
      replace hw := hw.symm
      subst hw
      go_wp2_with fail
      refine (HVA.out _ _ _ _ HQ.out).mono ?_
      rintro e w' ⟨rfl, hw⟩
      replace hw := hw.symm
      subst hw
      go_wp2
      go_ret
      exact ⟨rfl, HN.out⟩
end Go.Proofs.Ytiboncnfepnjcaa
