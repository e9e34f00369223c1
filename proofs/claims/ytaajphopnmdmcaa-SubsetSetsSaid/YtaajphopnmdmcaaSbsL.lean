/- The law SubsetSets. -/
import Derived.Test.YtaajphopnmdmcaaSbsB
import Derived.Test.YtaajphopnmdmcaaSbsC
import Derived.Test.YtaajphopnmdmcaaSubJ
namespace Go.Proofs.Ytaajphopnmdmcaa
open Go Go.RowKit Go.Bv
set_option linter.unusedVariables false
set_option maxRecDepth 100000 in
set_option maxHeartbeats 8000000 in
theorem SubsetSets_walk (W : World) (a0 : Option Addr) (n0 m0 : Nat) (z0 : List Int) (w0 : IRow .u64 W a0 n0 m0 z0) (r0 : m0 * 8 ≤ 140737488351232) (a1 : Int) (w1 : (Lit.int .i64 a1).wf = true) (a2 : Option Addr) (n2 m2 : Nat) (z2 : List Int) (w2 : IRow .i64 W a2 n2 m2 z2) (r2 : m2 * 8 ≤ 140737488351232) (a3 : Option Addr) (n3 m3 : Nat) (z3 : List Int) (w3 : IRow .i64 W a3 n3 m3 z3) (r3 : m3 * 8 ≤ 140737488351232) :
    Calls Try.prog 7 #[.slice a0 n0 m0, .int .i64 a1, .slice a2 n2 m2, .slice a3 n3 m3] W fun e w' => e = .returned (.bool true) ∧ Below W.heap.size W w' := by
  obtain ⟨l, hl⟩ := w0.words r0
  obtain ⟨s, hp⟩ := w2.ints r2
  obtain ⟨f, hf⟩ := w3.ints r3
  have H0 := Lib.hid hl
  have H1 := Lib.hid hp
  have H2 := Lib.hid hf
  have HL0 := Lib.hid hl.len_eq
  have HLS := Lib.hid hp.len_eq
  have HLF := Lib.hid hf.len_eq
  have hn1 := wfi64 w1
  clear w0 w1 w2 w3 r0 r2 r3 hl hp hf
  have HA := Lib.hid awake41
  go_enter Try.func7, Try.ntmps7
  go_wp2_with fail
  refine (HA.out _).mono ?_
  rintro e wA ⟨rfl, hn⟩
  replace H0 := Lib.hid (H0.out.stay hn)
  replace H1 := Lib.hid (H1.out.stay hn)
  replace H2 := Lib.hid (H2.out.stay hn)
  have HN := Lib.hid hn
  clear hn HA
  by_cases hs0 : (100 : Int) < (n0 : Int)
  · go_wp2
    go_ret
    exact ⟨rfl, HN.out⟩
  by_cases hs1 : 40 < a1 ∧ a1 ≤ 256
  · obtain ⟨hs2, hs3⟩ := hs1
    go_wp2
    go_ret
    exact ⟨rfl, HN.out⟩
  have HC := Lib.hid (fun w => count_41 a1 0 w)
  by_cases hsz : a1 < 0 ∨ 256 < a1 ∨ a1 < 0
  · have hE : szE a1 0 = 1 := if_pos hsz
    have HAM := Lib.hid (move_err a1 hE a3 a2 n3 m3 n2 m2 wA)
    rw [hE] at HC
    clear hE
    have hcase : ¬ 40 < a1 ∨ (40 < a1 ∧ ¬ a1 ≤ 256) := by omega
    rcases hcase with h4 | ⟨h4, h5⟩
    all_goals (
      go_wp2_with fail
      refine HAM.out.mono ?_
      rintro e w' ⟨rfl, hw⟩
      replace hw := hw.symm
      subst hw
      go_wp2_with fail
      refine (HC.out _).mono ?_
      rintro e w' ⟨rfl, hw⟩
      replace hw := hw.symm
      subst hw
      go_wp2
      go_ret
      exact ⟨rfl, HN.out⟩)
  rw [show szE a1 0 = 0 from if_neg hsz] at HC
  obtain ⟨n, rfl⟩ : ∃ n : Nat, a1 = (n : Int) := ⟨a1.toNat, by omega⟩
  have hn256 : n ≤ 256 := by omega
  have hs2 : ¬ (40 : Int) < (n : Int) := by omega
  clear hsz hs1
  have HRS := Lib.hid (fun w (h : ZRow w a2 n2 m2 s) => rises_q n (by omega) a2 n2 m2 s w h (by have := h.most; omega))
  have HRF := Lib.hid (fun w (h : ZRow w a3 n3 m3 f) => rises_q n (by omega) a3 n3 m3 f w h (by have := h.most; omega))
  have HMB : Hid (∀ b c : Bool, (ipB n f && acB f n3) = b → (ipB n s && acB s n2) = c → (b = false ∨ c = false ∨ n3 ≠ n2) → mvB n f s = false) := Lib.hid (fun b c h1 h2 h3 => by
    rw [← Bool.not_eq_true]
    intro h4
    obtain ⟨e1, e2, e3, e4, e5⟩ := mvB_iff.1 h4
    rw [HLF.out] at e1 e4
    rw [HLS.out] at e1 e5
    rw [ipB_iff.2 e2, e4] at h1
    rw [ipB_iff.2 e3, e5] at h2
    rcases h3 with h3 | h3 | h3
    · rw [h3] at h1; cases h1
    · rw [h3] at h2; cases h2
    · exact h3 e1)
  rcases hrf : (ipB n f && acB f n3) with _ | _
  all_goals rw [hrf] at HRF
  all_goals rcases hrs : (ipB n s && acB s n2) with _ | _
  all_goals rw [hrs] at HRS
  · have hmv := HMB.out _ _ hrf hrs (.inl rfl)
    clear hrf HMB
    have HM0 := Lib.hid (move_bad n hn256 a3 a2 n3 m3 n2 m2 f s wA H2.out H1.out (by have := H2.out.most; omega) hmv)
    clear hmv
    go_wp2_with fail
    refine (HM0.out).mono ?_
    rintro e wM ⟨rfl, hn⟩
    replace H0 := Lib.hid (H0.out.stay hn)
    replace H1 := Lib.hid (H1.out.stay hn)
    replace H2 := Lib.hid (H2.out.stay hn)
    replace HN := Lib.hid (HN.out.trans hn)
    clear hn
    go_wp2_with fail
    refine (HC.out _).mono ?_
    rintro e w' ⟨rfl, hw⟩
    replace hw := hw.symm
    subst hw
    go_wp2_with fail
    refine (HRF.out _ H2.out).mono ?_
    rintro e wX ⟨rfl, hn⟩
    replace H0 := Lib.hid (H0.out.stay hn)
    replace H1 := Lib.hid (H1.out.stay hn)
    replace H2 := Lib.hid (H2.out.stay hn)
    replace HN := Lib.hid (HN.out.trans hn)
    clear hn
    clear HM0 H2
    by_cases hgt : (n : Int) < (n2 : Int)
    · have hsz : szE (n : Int) (n2 : Int) = 1 := if_pos (.inr (.inr hgt))
      have HA := Lib.hid (aims41_size (n : Int) a0 a2 n0 m0 n2 m2 wX hsz)
      go_wp2_with fail
      refine (HA.out).mono ?_
      rintro e w' ⟨rfl, hw⟩
      replace hw := hw.symm
      subst hw
      go_wp2
      go_ret
      exact ⟨rfl, HN.out⟩
    have hle : n2 ≤ n := by omega
    have HA := Lib.hid (aims41_bad n hn256 a0 a2 n0 m0 n2 m2 s wX H1.out hle hrs)
    go_wp2_with fail
    refine (HA.out).mono ?_
    rintro e wY ⟨rfl, hn⟩
    replace H1 := Lib.hid (H1.out.stay hn)
    replace HN := Lib.hid (HN.out.trans hn)
    clear hn
    go_wp2_with fail
    refine (HRS.out _ H1.out).mono ?_
    rintro e wZ ⟨rfl, hn⟩
    replace HN := Lib.hid (HN.out.trans hn)
    clear hn
    go_wp2
    go_ret
    exact ⟨rfl, HN.out⟩
  · have hmv := HMB.out _ _ hrf hrs (.inl rfl)
    clear hrf HMB
    have hs : stP n s := ipB_iff.1 (by rw [Bool.and_eq_true] at hrs; exact hrs.1)
    have has : acB s n2 = true := by rw [Bool.and_eq_true] at hrs; exact hrs.2
    clear hrs
    have hle : n2 ≤ n := by rw [← HLS.out]; exact st_le hs
    have hng : ¬ (n : Int) < (n2 : Int) := by omega
    have HTR := Lib.hid (fun w (h : QRow w a0 n0 m0 l) => take41r_q a0 n0 m0 n n2 l w h (by omega) hle)
    rcases hd : drS l (lmP n n2) n2 with _ | ⟨ds, k⟩
    · have HM0 := Lib.hid (move_bad n hn256 a3 a2 n3 m3 n2 m2 f s wA H2.out H1.out (by have := H2.out.most; omega) hmv)
      clear hmv
      go_wp2_with fail
      refine (HM0.out).mono ?_
      rintro e wM ⟨rfl, hn⟩
      replace H0 := Lib.hid (H0.out.stay hn)
      replace H1 := Lib.hid (H1.out.stay hn)
      replace H2 := Lib.hid (H2.out.stay hn)
      replace HN := Lib.hid (HN.out.trans hn)
      clear hn
      go_wp2_with fail
      refine (HC.out _).mono ?_
      rintro e w' ⟨rfl, hw⟩
      replace hw := hw.symm
      subst hw
      go_wp2_with fail
      refine (HRF.out _ H2.out).mono ?_
      rintro e wX ⟨rfl, hn⟩
      replace H0 := Lib.hid (H0.out.stay hn)
      replace H1 := Lib.hid (H1.out.stay hn)
      replace H2 := Lib.hid (H2.out.stay hn)
      replace HN := Lib.hid (HN.out.trans hn)
      clear hn
      clear HM0 H2
      have HA := Lib.hid (aims41_no n hn256 a0 a2 n0 m0 n2 m2 l s wX H0.out H1.out hle hs has hd)
      have HD := Lib.hid hd
      clear hs has hd
      go_wp2_with fail
      refine (HA.out).mono ?_
      rintro e wY ⟨rfl, hn⟩
      replace H0 := Lib.hid (H0.out.stay hn)
      replace H1 := Lib.hid (H1.out.stay hn)
      replace HN := Lib.hid (HN.out.trans hn)
      clear hn
      go_wp2_with fail
      refine (HRS.out _ H1.out).mono ?_
      rintro e wZ ⟨rfl, hn⟩
      replace H0 := Lib.hid (H0.out.stay hn)
      replace HN := Lib.hid (HN.out.trans hn)
      clear hn
      go_wp2_with fail
      refine (HTR.out _ H0.out).mono ?_
      rintro e wD ⟨⟨ds2, k2, q1, q2, q3, q4, hd2, _⟩ | ⟨hd2, rfl⟩, hn⟩
      · rw [HD.out] at hd2; cases hd2
      replace HN := Lib.hid (HN.out.trans hn)
      clear hn hd2 HTR
      go_wp2
      go_ret
      exact ⟨rfl, HN.out⟩
    · obtain ⟨p, hpe⟩ : ∃ p, pkI (cdS ds n2) = p := ⟨_, rfl⟩
      have hrp := cdS_rp (by omega) hle hd
      have hp : stP n p := by rw [← hpe]; exact pk_ip hrp
      have hpl : p.length = s.length := by rw [← hpe, pkI_len, cdS_len, HLS.out]
      have has2 : acB s s.length = true := by rw [HLS.out]; exact has
      have htst := tk_st hp hs hpl
      have htset := tk_set hp hs hpl has2
      have htbk := tk_back hp hs hpl has2
      obtain ⟨cl, hcl, hrcl, hpk⟩ := pk_all (n := n) htst (by rw [tkI_len, hpl, HLS.out]; exact hle)
      have hclm : cl.length = n2 := by rw [hcl, tkI_len, hpl, HLS.out]
      obtain ⟨am, ham⟩ : ∃ z, amS l (lmP n n2) (fun i => BitVec.ofNat 64 (fnI cl i)) ds n2 = z := ⟨_, rfl⟩
      have hdl := (drS_len hd).1
      have hvn : ∀ i, i < n2 → fnI cl i < n - i := fun i hi => by
        have h := hrcl.2 i (by rw [hclm]; exact hi)
        unfold fnI
        omega
      have htl := amS_tells (v := fun i => BitVec.ofNat 64 (fnI cl i)) hd (fun i hi => by
        have := hvn i hi
        rw [lmP_get hi, BitVec.toNat_ofNat, BitVec.toNat_ofNat]
        omega)
      rw [ham] at htl
      have hcd : cdS (nmS (fun i => BitVec.ofNat 64 (fnI cl i)) ds) n2 = cl := by
        rw [cdS_aim (fnI cl) (n := n) hdl (fun i hi => by have := hvn i hi; omega) hn256]
        have h := li_fn (p := cl) (fun j hj => (hrcl.2 j hj).1)
        rwa [hclm] at h
      have hback : amS am (lmP n n2) (fun i => BitVec.ofNat 64 (fnI (cdS ds n2) i)) (nmS (fun i => BitVec.ofNat 64 (fnI cl i)) ds) n2 = l := by
        rw [(amS_nm _ _ _ _ _ _ (by omega)).1, ← ham]
        exact amS_back hd (fun i hi => cdS_back (n := n) hi)
      have hmp := ms_stp hp
      rw [hpl, HLS.out] at hmp
      have HPB : Hid (pkI (cdS ds n2) = tkI n (pkI (cdS (nmS (fun i => BitVec.ofNat 64 (fnI cl i)) ds) n2)) (msI p)) := Lib.hid (by rw [hcd, hpk, htbk, hpe])
      have HBK := Lib.hid hback
      have HTL := Lib.hid htl
      have HD := Lib.hid hd
      have HCD := Lib.hid hcd
      have HPE := Lib.hid hpe
      have HPK := Lib.hid hpk
      have HMP := Lib.hid hmp
      have HTS := Lib.hid htset
      have HT2 := Lib.hid htst.2
      have HP2 := Lib.hid hp.2
      have HRP := Lib.hid hrp
      have HRK : Hid (∀ i, i < n2 → ((nmS (fun i => BitVec.ofNat 64 (fnI cl i)) ds).getD i dz).2 = (ds.getD i dz).2) := Lib.hid (fun i hi => by rw [nmS_get _ _ (by omega)])
      rw [← hpe] at hpk
      clear hd hdl hvn htl hcd hback hmp htset htst htbk hpe hp hpl has2 hrp hcl
      have HM0 := Lib.hid (move_bad n hn256 a3 a2 n3 m3 n2 m2 f s wA H2.out H1.out (by have := H2.out.most; omega) hmv)
      clear hmv
      go_wp2_with fail
      refine (HM0.out).mono ?_
      rintro e wM ⟨rfl, hn⟩
      replace H0 := Lib.hid (H0.out.stay hn)
      replace H1 := Lib.hid (H1.out.stay hn)
      replace H2 := Lib.hid (H2.out.stay hn)
      replace HN := Lib.hid (HN.out.trans hn)
      clear hn
      go_wp2_with fail
      refine (HC.out _).mono ?_
      rintro e w' ⟨rfl, hw⟩
      replace hw := hw.symm
      subst hw
      go_wp2_with fail
      refine (HRF.out _ H2.out).mono ?_
      rintro e wX ⟨rfl, hn⟩
      replace H0 := Lib.hid (H0.out.stay hn)
      replace H1 := Lib.hid (H1.out.stay hn)
      replace H2 := Lib.hid (H2.out.stay hn)
      replace HN := Lib.hid (HN.out.trans hn)
      clear hn
      clear HM0 H2
      have HA := Lib.hid (aims41_ok n hn256 a0 a2 n0 m0 n2 m2 l s cl ds k wX H0.out H1.out hle hs has HD.out hrcl hclm hpk)
      rw [ham] at HA
      go_wp2_with fail
      refine (HA.out).mono ?_
      rintro e wY ⟨a5, m5, rfl, hq, hn⟩
      replace H0 := Lib.hid (H0.out.stay hn)
      replace H1 := Lib.hid (H1.out.stay hn)
      replace HN := Lib.hid (HN.out.trans hn)
      have HM := Lib.hid hq
      clear hq HA
      clear hn
      go_wp2_with fail
      refine (HRS.out _ H1.out).mono ?_
      rintro e wZ ⟨rfl, hn⟩
      replace H0 := Lib.hid (H0.out.stay hn)
      replace H1 := Lib.hid (H1.out.stay hn)
      replace HM := Lib.hid (HM.out.stay hn)
      replace HN := Lib.hid (HN.out.trans hn)
      clear hn
      go_wp2_with fail
      refine (HTR.out _ H0.out).mono ?_
      rintro e wD ⟨⟨ds2, k2, q1, q2, q3, q4, hd2, rfl, hz2, hk2⟩ | ⟨hd2, _⟩, hn⟩
      case inr => rw [HD.out] at hd2; cases hd2
      rw [HD.out] at hd2
      cases hd2
      replace H0 := Lib.hid (H0.out.stay hn)
      replace H1 := Lib.hid (H1.out.stay hn)
      replace HM := Lib.hid (HM.out.stay hn)
      replace HN := Lib.hid (HN.out.trans hn)
      rw [HPE.out] at hz2
      have HWS := Lib.hid hz2
      have HON := Lib.hid hk2
      clear hn hz2 hk2 HTR
      go_wp2_with fail
      refine (take41r_q _ _ _ n n2 am _ HM.out (by omega) hle).mono ?_
      rintro e wE ⟨⟨ds2, k2, r1, r2, r3, r4, hd2, rfl, hz2, hk2⟩ | ⟨hd2, _⟩, hn⟩
      case inr => rw [HTL.out] at hd2; cases hd2
      rw [HTL.out] at hd2
      cases hd2
      rw [HCD.out, HPK.out] at hz2
      replace H0 := Lib.hid (H0.out.stay hn)
      replace H1 := Lib.hid (H1.out.stay hn)
      replace HM := Lib.hid (HM.out.stay hn)
      replace HWS := Lib.hid (HWS.out.stay hn)
      replace HON := Lib.hid (HON.out.stay hn)
      replace HN := Lib.hid (HN.out.trans hn)
      have HNW := Lib.hid hz2
      have HTW := Lib.hid hk2
      clear hn hz2 hk2
      go_wp2_with fail
      refine (setr_41 _ _ _ _ _ HWS.out HP2.out (by omega)).mono ?_
      rintro e wS ⟨a6, m6, rfl, hz6, hn⟩
      replace H0 := Lib.hid (H0.out.stay hn)
      replace H1 := Lib.hid (H1.out.stay hn)
      replace HM := Lib.hid (HM.out.stay hn)
      replace HNW := Lib.hid (HNW.out.stay hn)
      replace HON := Lib.hid (HON.out.stay hn)
      replace HTW := Lib.hid (HTW.out.stay hn)
      replace HN := Lib.hid (HN.out.trans hn)
      have HZ6 := Lib.hid hz6
      clear hz6 HWS
      clear hn
      have HAB := Lib.hid (aims41_ok n hn256 _ _ _ _ _ _ am (msI p) (cdS ds n2) _ _ _ HM.out HZ6.out hle HMP.out.1 HMP.out.2 HTL.out HRP.out (cdS_len _ _) HPB.out)
      rw [HBK.out] at HAB
      go_wp2_with fail
      refine (HAB.out).mono ?_
      rintro e wF ⟨a7, m7, rfl, hq, hn⟩
      replace H0 := Lib.hid (H0.out.stay hn)
      replace H1 := Lib.hid (H1.out.stay hn)
      replace HNW := Lib.hid (HNW.out.stay hn)
      replace HON := Lib.hid (HON.out.stay hn)
      replace HTW := Lib.hid (HTW.out.stay hn)
      replace HN := Lib.hid (HN.out.trans hn)
      have HBA := Lib.hid hq
      clear hq HAB
      clear hn
      go_wp2_with fail
      refine (setr_41 _ _ _ _ _ HNW.out HT2.out (by omega)).mono ?_
      rintro e wT ⟨a9, m9, rfl, hz9, hn⟩
      replace H0 := Lib.hid (H0.out.stay hn)
      replace H1 := Lib.hid (H1.out.stay hn)
      replace HON := Lib.hid (HON.out.stay hn)
      replace HTW := Lib.hid (HTW.out.stay hn)
      replace HBA := Lib.hid (HBA.out.stay hn)
      replace HN := Lib.hid (HN.out.trans hn)
      rw [HTS.out] at hz9
      have HZ9 := Lib.hid hz9
      clear hz9
      clear hn
      go_wp2_with fail
      refine (ints_ref _ _ _ _ _ _ _ _ _ HZ9.out H1.out).mono ?_
      rintro e wG ⟨rfl, hn⟩
      rw [beq_self_eq_true]
      replace H0 := Lib.hid (H0.out.stay hn)
      replace HON := Lib.hid (HON.out.stay hn)
      replace HTW := Lib.hid (HTW.out.stay hn)
      replace HBA := Lib.hid (HBA.out.stay hn)
      replace HN := Lib.hid (HN.out.trans hn)
      clear hn
      go_wp2_with fail
      refine (ranks_40 _ _ _ _ _ _ _ _ HON.out HTW.out HRK.out).mono ?_
      rintro e wH ⟨rfl, hn⟩
      replace H0 := Lib.hid (H0.out.stay hn)
      replace HBA := Lib.hid (HBA.out.stay hn)
      replace HN := Lib.hid (HN.out.trans hn)
      clear hn
      go_wp2_with fail
      refine (words_ref _ _ _ _ _ _ _ _ _ _ HBA.out H0.out HN.out).mono ?_
      rintro e wI ⟨rfl, _, hn⟩
      rw [beq_self_eq_true]
      have HN9 := Lib.hid hn
      clear hn
      go_wp2
      go_ret
      exact ⟨rfl, HN9.out⟩
  · have hmv := HMB.out _ _ hrf hrs (.inr (.inl rfl))
    clear hrf HMB
    have HM0 := Lib.hid (move_bad n hn256 a3 a2 n3 m3 n2 m2 f s wA H2.out H1.out (by have := H2.out.most; omega) hmv)
    clear hmv
    go_wp2_with fail
    refine (HM0.out).mono ?_
    rintro e wM ⟨rfl, hn⟩
    replace H0 := Lib.hid (H0.out.stay hn)
    replace H1 := Lib.hid (H1.out.stay hn)
    replace H2 := Lib.hid (H2.out.stay hn)
    replace HN := Lib.hid (HN.out.trans hn)
    clear hn
    go_wp2_with fail
    refine (HC.out _).mono ?_
    rintro e w' ⟨rfl, hw⟩
    replace hw := hw.symm
    subst hw
    go_wp2_with fail
    refine (HRF.out _ H2.out).mono ?_
    rintro e wF1 ⟨rfl, hn⟩
    replace H0 := Lib.hid (H0.out.stay hn)
    replace H1 := Lib.hid (H1.out.stay hn)
    replace H2 := Lib.hid (H2.out.stay hn)
    replace HN := Lib.hid (HN.out.trans hn)
    clear hn
    go_wp2_with fail
    refine (HRS.out _ H1.out).mono ?_
    rintro e wX ⟨rfl, hn⟩
    replace H0 := Lib.hid (H0.out.stay hn)
    replace H1 := Lib.hid (H1.out.stay hn)
    replace H2 := Lib.hid (H2.out.stay hn)
    replace HN := Lib.hid (HN.out.trans hn)
    clear hn
    clear HM0 H2
    by_cases hgt : (n : Int) < (n2 : Int)
    · have hsz : szE (n : Int) (n2 : Int) = 1 := if_pos (.inr (.inr hgt))
      have HA := Lib.hid (aims41_size (n : Int) a0 a2 n0 m0 n2 m2 wX hsz)
      go_wp2_with fail
      refine (HA.out).mono ?_
      rintro e w' ⟨rfl, hw⟩
      replace hw := hw.symm
      subst hw
      go_wp2
      go_ret
      exact ⟨rfl, HN.out⟩
    have hle : n2 ≤ n := by omega
    have HA := Lib.hid (aims41_bad n hn256 a0 a2 n0 m0 n2 m2 s wX H1.out hle hrs)
    go_wp2_with fail
    refine (HA.out).mono ?_
    rintro e wY ⟨rfl, hn⟩
    replace H1 := Lib.hid (H1.out.stay hn)
    replace HN := Lib.hid (HN.out.trans hn)
    clear hn
    go_wp2_with fail
    refine (HRS.out _ H1.out).mono ?_
    rintro e wZ ⟨rfl, hn⟩
    replace HN := Lib.hid (HN.out.trans hn)
    clear hn
    go_wp2
    go_ret
    exact ⟨rfl, HN.out⟩
  · have hs : stP n s := ipB_iff.1 (by rw [Bool.and_eq_true] at hrs; exact hrs.1)
    have has : acB s n2 = true := by rw [Bool.and_eq_true] at hrs; exact hrs.2
    by_cases hnn : n3 = n2
    · have hf : stP n f := ipB_iff.1 (by rw [Bool.and_eq_true] at hrf; exact hrf.1)
      have haf : acB f n3 = true := by rw [Bool.and_eq_true] at hrf; exact hrf.2
      replace hnn := hnn.symm
      subst hnn
      have hbn : ((n2 : Int) != (n2 : Int)) = false := by simp
      clear hrf hrs HMB
      have hle : n2 ≤ n := by rw [← HLS.out]; exact st_le hs
      have hng : ¬ (n : Int) < (n2 : Int) := by omega
      have HTR := Lib.hid (fun w (h : QRow w a0 n0 m0 l) => take41r_q a0 n0 m0 n n2 l w h (by omega) hle)
      rcases hd : drS l (lmP n n2) n2 with _ | ⟨ds, k⟩
      · have HM0 := Lib.hid (move_q n hn256 a3 a2 n2 m3 m2 f s wA H2.out H1.out hf hs haf has)
        have HM1 := Lib.hid (fun w (h : ZRow w a3 n2 m3 f) (h2 : ZRow w a2 n2 m2 s) => rmove_41 n hn256 a3 a2 n2 m3 m2 f s w h h2 hf hs)
        clear hf haf
        go_wp2_with fail
        refine (HM0.out).mono ?_
        rintro e wM ⟨a8, m8, rfl, hz8, hn⟩
        replace H0 := Lib.hid (H0.out.stay hn)
        replace H1 := Lib.hid (H1.out.stay hn)
        replace H2 := Lib.hid (H2.out.stay hn)
        replace HN := Lib.hid (HN.out.trans hn)
        have HZ8 := Lib.hid hz8
        clear hz8 HM0
        clear hn
        go_wp2_with fail
        refine (HC.out _).mono ?_
        rintro e w' ⟨rfl, hw⟩
        replace hw := hw.symm
        subst hw
        go_wp2_with fail
        refine (HRF.out _ H2.out).mono ?_
        rintro e wF1 ⟨rfl, hn⟩
        replace H0 := Lib.hid (H0.out.stay hn)
        replace H1 := Lib.hid (H1.out.stay hn)
        replace H2 := Lib.hid (H2.out.stay hn)
        replace HZ8 := Lib.hid (HZ8.out.stay hn)
        replace HN := Lib.hid (HN.out.trans hn)
        clear hn
        go_wp2_with fail
        refine (HRS.out _ H1.out).mono ?_
        rintro e wF2 ⟨rfl, hn⟩
        replace H0 := Lib.hid (H0.out.stay hn)
        replace H1 := Lib.hid (H1.out.stay hn)
        replace H2 := Lib.hid (H2.out.stay hn)
        replace HZ8 := Lib.hid (HZ8.out.stay hn)
        replace HN := Lib.hid (HN.out.trans hn)
        clear hn
        go_wp2_with fail
        refine (HM1.out _ H2.out H1.out).mono ?_
        rintro e wF3 ⟨a9, m9, rfl, hz9, hn⟩
        replace H0 := Lib.hid (H0.out.stay hn)
        replace H1 := Lib.hid (H1.out.stay hn)
        replace HZ8 := Lib.hid (HZ8.out.stay hn)
        replace HN := Lib.hid (HN.out.trans hn)
        have HZ9 := Lib.hid hz9
        clear hz9 HM1
        clear hn
        go_wp2_with fail
        refine (ints_ref _ _ _ _ _ _ _ _ _ HZ8.out HZ9.out).mono ?_
        rintro e wX ⟨rfl, hn⟩
        rw [beq_self_eq_true]
        replace H0 := Lib.hid (H0.out.stay hn)
        replace H1 := Lib.hid (H1.out.stay hn)
        replace HN := Lib.hid (HN.out.trans hn)
        clear hn
        clear HZ8 HZ9 H2
        have HA := Lib.hid (aims41_no n hn256 a0 a2 n0 m0 n2 m2 l s wX H0.out H1.out hle hs has hd)
        have HD := Lib.hid hd
        clear hs has hd
        go_wp2_with fail
        refine (HA.out).mono ?_
        rintro e wY ⟨rfl, hn⟩
        replace H0 := Lib.hid (H0.out.stay hn)
        replace H1 := Lib.hid (H1.out.stay hn)
        replace HN := Lib.hid (HN.out.trans hn)
        clear hn
        go_wp2_with fail
        refine (HRS.out _ H1.out).mono ?_
        rintro e wZ ⟨rfl, hn⟩
        replace H0 := Lib.hid (H0.out.stay hn)
        replace HN := Lib.hid (HN.out.trans hn)
        clear hn
        go_wp2_with fail
        refine (HTR.out _ H0.out).mono ?_
        rintro e wD ⟨⟨ds2, k2, q1, q2, q3, q4, hd2, _⟩ | ⟨hd2, rfl⟩, hn⟩
        · rw [HD.out] at hd2; cases hd2
        replace HN := Lib.hid (HN.out.trans hn)
        clear hn hd2 HTR
        go_wp2
        go_ret
        exact ⟨rfl, HN.out⟩
      · obtain ⟨p, hpe⟩ : ∃ p, pkI (cdS ds n2) = p := ⟨_, rfl⟩
        have hrp := cdS_rp (by omega) hle hd
        have hp : stP n p := by rw [← hpe]; exact pk_ip hrp
        have hpl : p.length = s.length := by rw [← hpe, pkI_len, cdS_len, HLS.out]
        have has2 : acB s s.length = true := by rw [HLS.out]; exact has
        have htst := tk_st hp hs hpl
        have htset := tk_set hp hs hpl has2
        have htbk := tk_back hp hs hpl has2
        obtain ⟨cl, hcl, hrcl, hpk⟩ := pk_all (n := n) htst (by rw [tkI_len, hpl, HLS.out]; exact hle)
        have hclm : cl.length = n2 := by rw [hcl, tkI_len, hpl, HLS.out]
        obtain ⟨am, ham⟩ : ∃ z, amS l (lmP n n2) (fun i => BitVec.ofNat 64 (fnI cl i)) ds n2 = z := ⟨_, rfl⟩
        have hdl := (drS_len hd).1
        have hvn : ∀ i, i < n2 → fnI cl i < n - i := fun i hi => by
          have h := hrcl.2 i (by rw [hclm]; exact hi)
          unfold fnI
          omega
        have htl := amS_tells (v := fun i => BitVec.ofNat 64 (fnI cl i)) hd (fun i hi => by
          have := hvn i hi
          rw [lmP_get hi, BitVec.toNat_ofNat, BitVec.toNat_ofNat]
          omega)
        rw [ham] at htl
        have hcd : cdS (nmS (fun i => BitVec.ofNat 64 (fnI cl i)) ds) n2 = cl := by
          rw [cdS_aim (fnI cl) (n := n) hdl (fun i hi => by have := hvn i hi; omega) hn256]
          have h := li_fn (p := cl) (fun j hj => (hrcl.2 j hj).1)
          rwa [hclm] at h
        have hback : amS am (lmP n n2) (fun i => BitVec.ofNat 64 (fnI (cdS ds n2) i)) (nmS (fun i => BitVec.ofNat 64 (fnI cl i)) ds) n2 = l := by
          rw [(amS_nm _ _ _ _ _ _ (by omega)).1, ← ham]
          exact amS_back hd (fun i hi => cdS_back (n := n) hi)
        have hmp := ms_stp hp
        rw [hpl, HLS.out] at hmp
        have HPB : Hid (pkI (cdS ds n2) = tkI n (pkI (cdS (nmS (fun i => BitVec.ofNat 64 (fnI cl i)) ds) n2)) (msI p)) := Lib.hid (by rw [hcd, hpk, htbk, hpe])
        have HBK := Lib.hid hback
        have HTL := Lib.hid htl
        have HD := Lib.hid hd
        have HCD := Lib.hid hcd
        have HPE := Lib.hid hpe
        have HPK := Lib.hid hpk
        have HMP := Lib.hid hmp
        have HTS := Lib.hid htset
        have HT2 := Lib.hid htst.2
        have HP2 := Lib.hid hp.2
        have HRP := Lib.hid hrp
        have HRK : Hid (∀ i, i < n2 → ((nmS (fun i => BitVec.ofNat 64 (fnI cl i)) ds).getD i dz).2 = (ds.getD i dz).2) := Lib.hid (fun i hi => by rw [nmS_get _ _ (by omega)])
        rw [← hpe] at hpk
        clear hd hdl hvn htl hcd hback hmp htset htst htbk hpe hp hpl has2 hrp hcl
        have HM0 := Lib.hid (move_q n hn256 a3 a2 n2 m3 m2 f s wA H2.out H1.out hf hs haf has)
        have HM1 := Lib.hid (fun w (h : ZRow w a3 n2 m3 f) (h2 : ZRow w a2 n2 m2 s) => rmove_41 n hn256 a3 a2 n2 m3 m2 f s w h h2 hf hs)
        clear hf haf
        go_wp2_with fail
        refine (HM0.out).mono ?_
        rintro e wM ⟨a8, m8, rfl, hz8, hn⟩
        replace H0 := Lib.hid (H0.out.stay hn)
        replace H1 := Lib.hid (H1.out.stay hn)
        replace H2 := Lib.hid (H2.out.stay hn)
        replace HN := Lib.hid (HN.out.trans hn)
        have HZ8 := Lib.hid hz8
        clear hz8 HM0
        clear hn
        go_wp2_with fail
        refine (HC.out _).mono ?_
        rintro e w' ⟨rfl, hw⟩
        replace hw := hw.symm
        subst hw
        go_wp2_with fail
        refine (HRF.out _ H2.out).mono ?_
        rintro e wF1 ⟨rfl, hn⟩
        replace H0 := Lib.hid (H0.out.stay hn)
        replace H1 := Lib.hid (H1.out.stay hn)
        replace H2 := Lib.hid (H2.out.stay hn)
        replace HZ8 := Lib.hid (HZ8.out.stay hn)
        replace HN := Lib.hid (HN.out.trans hn)
        clear hn
        go_wp2_with fail
        refine (HRS.out _ H1.out).mono ?_
        rintro e wF2 ⟨rfl, hn⟩
        replace H0 := Lib.hid (H0.out.stay hn)
        replace H1 := Lib.hid (H1.out.stay hn)
        replace H2 := Lib.hid (H2.out.stay hn)
        replace HZ8 := Lib.hid (HZ8.out.stay hn)
        replace HN := Lib.hid (HN.out.trans hn)
        clear hn
        go_wp2_with fail
        refine (HM1.out _ H2.out H1.out).mono ?_
        rintro e wF3 ⟨a9, m9, rfl, hz9, hn⟩
        replace H0 := Lib.hid (H0.out.stay hn)
        replace H1 := Lib.hid (H1.out.stay hn)
        replace HZ8 := Lib.hid (HZ8.out.stay hn)
        replace HN := Lib.hid (HN.out.trans hn)
        have HZ9 := Lib.hid hz9
        clear hz9 HM1
        clear hn
        go_wp2_with fail
        refine (ints_ref _ _ _ _ _ _ _ _ _ HZ8.out HZ9.out).mono ?_
        rintro e wX ⟨rfl, hn⟩
        rw [beq_self_eq_true]
        replace H0 := Lib.hid (H0.out.stay hn)
        replace H1 := Lib.hid (H1.out.stay hn)
        replace HN := Lib.hid (HN.out.trans hn)
        clear hn
        clear HZ8 HZ9 H2
        have HA := Lib.hid (aims41_ok n hn256 a0 a2 n0 m0 n2 m2 l s cl ds k wX H0.out H1.out hle hs has HD.out hrcl hclm hpk)
        rw [ham] at HA
        go_wp2_with fail
        refine (HA.out).mono ?_
        rintro e wY ⟨a5, m5, rfl, hq, hn⟩
        replace H0 := Lib.hid (H0.out.stay hn)
        replace H1 := Lib.hid (H1.out.stay hn)
        replace HN := Lib.hid (HN.out.trans hn)
        have HM := Lib.hid hq
        clear hq HA
        clear hn
        go_wp2_with fail
        refine (HRS.out _ H1.out).mono ?_
        rintro e wZ ⟨rfl, hn⟩
        replace H0 := Lib.hid (H0.out.stay hn)
        replace H1 := Lib.hid (H1.out.stay hn)
        replace HM := Lib.hid (HM.out.stay hn)
        replace HN := Lib.hid (HN.out.trans hn)
        clear hn
        go_wp2_with fail
        refine (HTR.out _ H0.out).mono ?_
        rintro e wD ⟨⟨ds2, k2, q1, q2, q3, q4, hd2, rfl, hz2, hk2⟩ | ⟨hd2, _⟩, hn⟩
        case inr => rw [HD.out] at hd2; cases hd2
        rw [HD.out] at hd2
        cases hd2
        replace H0 := Lib.hid (H0.out.stay hn)
        replace H1 := Lib.hid (H1.out.stay hn)
        replace HM := Lib.hid (HM.out.stay hn)
        replace HN := Lib.hid (HN.out.trans hn)
        rw [HPE.out] at hz2
        have HWS := Lib.hid hz2
        have HON := Lib.hid hk2
        clear hn hz2 hk2 HTR
        go_wp2_with fail
        refine (take41r_q _ _ _ n n2 am _ HM.out (by omega) hle).mono ?_
        rintro e wE ⟨⟨ds2, k2, r1, r2, r3, r4, hd2, rfl, hz2, hk2⟩ | ⟨hd2, _⟩, hn⟩
        case inr => rw [HTL.out] at hd2; cases hd2
        rw [HTL.out] at hd2
        cases hd2
        rw [HCD.out, HPK.out] at hz2
        replace H0 := Lib.hid (H0.out.stay hn)
        replace H1 := Lib.hid (H1.out.stay hn)
        replace HM := Lib.hid (HM.out.stay hn)
        replace HWS := Lib.hid (HWS.out.stay hn)
        replace HON := Lib.hid (HON.out.stay hn)
        replace HN := Lib.hid (HN.out.trans hn)
        have HNW := Lib.hid hz2
        have HTW := Lib.hid hk2
        clear hn hz2 hk2
        go_wp2_with fail
        refine (setr_41 _ _ _ _ _ HWS.out HP2.out (by omega)).mono ?_
        rintro e wS ⟨a6, m6, rfl, hz6, hn⟩
        replace H0 := Lib.hid (H0.out.stay hn)
        replace H1 := Lib.hid (H1.out.stay hn)
        replace HM := Lib.hid (HM.out.stay hn)
        replace HNW := Lib.hid (HNW.out.stay hn)
        replace HON := Lib.hid (HON.out.stay hn)
        replace HTW := Lib.hid (HTW.out.stay hn)
        replace HN := Lib.hid (HN.out.trans hn)
        have HZ6 := Lib.hid hz6
        clear hz6 HWS
        clear hn
        have HAB := Lib.hid (aims41_ok n hn256 _ _ _ _ _ _ am (msI p) (cdS ds n2) _ _ _ HM.out HZ6.out hle HMP.out.1 HMP.out.2 HTL.out HRP.out (cdS_len _ _) HPB.out)
        rw [HBK.out] at HAB
        go_wp2_with fail
        refine (HAB.out).mono ?_
        rintro e wF ⟨a7, m7, rfl, hq, hn⟩
        replace H0 := Lib.hid (H0.out.stay hn)
        replace H1 := Lib.hid (H1.out.stay hn)
        replace HNW := Lib.hid (HNW.out.stay hn)
        replace HON := Lib.hid (HON.out.stay hn)
        replace HTW := Lib.hid (HTW.out.stay hn)
        replace HN := Lib.hid (HN.out.trans hn)
        have HBA := Lib.hid hq
        clear hq HAB
        clear hn
        go_wp2_with fail
        refine (setr_41 _ _ _ _ _ HNW.out HT2.out (by omega)).mono ?_
        rintro e wT ⟨a9, m9, rfl, hz9, hn⟩
        replace H0 := Lib.hid (H0.out.stay hn)
        replace H1 := Lib.hid (H1.out.stay hn)
        replace HON := Lib.hid (HON.out.stay hn)
        replace HTW := Lib.hid (HTW.out.stay hn)
        replace HBA := Lib.hid (HBA.out.stay hn)
        replace HN := Lib.hid (HN.out.trans hn)
        rw [HTS.out] at hz9
        have HZ9 := Lib.hid hz9
        clear hz9
        clear hn
        go_wp2_with fail
        refine (ints_ref _ _ _ _ _ _ _ _ _ HZ9.out H1.out).mono ?_
        rintro e wG ⟨rfl, hn⟩
        rw [beq_self_eq_true]
        replace H0 := Lib.hid (H0.out.stay hn)
        replace HON := Lib.hid (HON.out.stay hn)
        replace HTW := Lib.hid (HTW.out.stay hn)
        replace HBA := Lib.hid (HBA.out.stay hn)
        replace HN := Lib.hid (HN.out.trans hn)
        clear hn
        go_wp2_with fail
        refine (ranks_40 _ _ _ _ _ _ _ _ HON.out HTW.out HRK.out).mono ?_
        rintro e wH ⟨rfl, hn⟩
        replace H0 := Lib.hid (H0.out.stay hn)
        replace HBA := Lib.hid (HBA.out.stay hn)
        replace HN := Lib.hid (HN.out.trans hn)
        clear hn
        go_wp2_with fail
        refine (words_ref _ _ _ _ _ _ _ _ _ _ HBA.out H0.out HN.out).mono ?_
        rintro e wI ⟨rfl, _, hn⟩
        rw [beq_self_eq_true]
        have HN9 := Lib.hid hn
        clear hn
        go_wp2
        go_ret
        exact ⟨rfl, HN9.out⟩
    · have hmv := HMB.out _ _ hrf hrs (.inr (.inr hnn))
      have hbn : ((n3 : Int) != (n2 : Int)) = true := by simp; omega
      clear hrf hrs HMB
      have hle : n2 ≤ n := by rw [← HLS.out]; exact st_le hs
      have hng : ¬ (n : Int) < (n2 : Int) := by omega
      have HTR := Lib.hid (fun w (h : QRow w a0 n0 m0 l) => take41r_q a0 n0 m0 n n2 l w h (by omega) hle)
      rcases hd : drS l (lmP n n2) n2 with _ | ⟨ds, k⟩
      · have HM0 := Lib.hid (move_bad n hn256 a3 a2 n3 m3 n2 m2 f s wA H2.out H1.out (by have := H2.out.most; omega) hmv)
        clear hmv
        go_wp2_with fail
        refine (HM0.out).mono ?_
        rintro e wM ⟨rfl, hn⟩
        replace H0 := Lib.hid (H0.out.stay hn)
        replace H1 := Lib.hid (H1.out.stay hn)
        replace H2 := Lib.hid (H2.out.stay hn)
        replace HN := Lib.hid (HN.out.trans hn)
        clear hn
        go_wp2_with fail
        refine (HC.out _).mono ?_
        rintro e w' ⟨rfl, hw⟩
        replace hw := hw.symm
        subst hw
        go_wp2_with fail
        refine (HRF.out _ H2.out).mono ?_
        rintro e wF1 ⟨rfl, hn⟩
        replace H0 := Lib.hid (H0.out.stay hn)
        replace H1 := Lib.hid (H1.out.stay hn)
        replace H2 := Lib.hid (H2.out.stay hn)
        replace HN := Lib.hid (HN.out.trans hn)
        clear hn
        go_wp2_with fail
        refine (HRS.out _ H1.out).mono ?_
        rintro e wX ⟨rfl, hn⟩
        replace H0 := Lib.hid (H0.out.stay hn)
        replace H1 := Lib.hid (H1.out.stay hn)
        replace H2 := Lib.hid (H2.out.stay hn)
        replace HN := Lib.hid (HN.out.trans hn)
        clear hn
        clear HM0 H2
        have HA := Lib.hid (aims41_no n hn256 a0 a2 n0 m0 n2 m2 l s wX H0.out H1.out hle hs has hd)
        have HD := Lib.hid hd
        clear hs has hd
        go_wp2_with fail
        refine (HA.out).mono ?_
        rintro e wY ⟨rfl, hn⟩
        replace H0 := Lib.hid (H0.out.stay hn)
        replace H1 := Lib.hid (H1.out.stay hn)
        replace HN := Lib.hid (HN.out.trans hn)
        clear hn
        go_wp2_with fail
        refine (HRS.out _ H1.out).mono ?_
        rintro e wZ ⟨rfl, hn⟩
        replace H0 := Lib.hid (H0.out.stay hn)
        replace HN := Lib.hid (HN.out.trans hn)
        clear hn
        go_wp2_with fail
        refine (HTR.out _ H0.out).mono ?_
        rintro e wD ⟨⟨ds2, k2, q1, q2, q3, q4, hd2, _⟩ | ⟨hd2, rfl⟩, hn⟩
        · rw [HD.out] at hd2; cases hd2
        replace HN := Lib.hid (HN.out.trans hn)
        clear hn hd2 HTR
        go_wp2
        go_ret
        exact ⟨rfl, HN.out⟩
      · obtain ⟨p, hpe⟩ : ∃ p, pkI (cdS ds n2) = p := ⟨_, rfl⟩
        have hrp := cdS_rp (by omega) hle hd
        have hp : stP n p := by rw [← hpe]; exact pk_ip hrp
        have hpl : p.length = s.length := by rw [← hpe, pkI_len, cdS_len, HLS.out]
        have has2 : acB s s.length = true := by rw [HLS.out]; exact has
        have htst := tk_st hp hs hpl
        have htset := tk_set hp hs hpl has2
        have htbk := tk_back hp hs hpl has2
        obtain ⟨cl, hcl, hrcl, hpk⟩ := pk_all (n := n) htst (by rw [tkI_len, hpl, HLS.out]; exact hle)
        have hclm : cl.length = n2 := by rw [hcl, tkI_len, hpl, HLS.out]
        obtain ⟨am, ham⟩ : ∃ z, amS l (lmP n n2) (fun i => BitVec.ofNat 64 (fnI cl i)) ds n2 = z := ⟨_, rfl⟩
        have hdl := (drS_len hd).1
        have hvn : ∀ i, i < n2 → fnI cl i < n - i := fun i hi => by
          have h := hrcl.2 i (by rw [hclm]; exact hi)
          unfold fnI
          omega
        have htl := amS_tells (v := fun i => BitVec.ofNat 64 (fnI cl i)) hd (fun i hi => by
          have := hvn i hi
          rw [lmP_get hi, BitVec.toNat_ofNat, BitVec.toNat_ofNat]
          omega)
        rw [ham] at htl
        have hcd : cdS (nmS (fun i => BitVec.ofNat 64 (fnI cl i)) ds) n2 = cl := by
          rw [cdS_aim (fnI cl) (n := n) hdl (fun i hi => by have := hvn i hi; omega) hn256]
          have h := li_fn (p := cl) (fun j hj => (hrcl.2 j hj).1)
          rwa [hclm] at h
        have hback : amS am (lmP n n2) (fun i => BitVec.ofNat 64 (fnI (cdS ds n2) i)) (nmS (fun i => BitVec.ofNat 64 (fnI cl i)) ds) n2 = l := by
          rw [(amS_nm _ _ _ _ _ _ (by omega)).1, ← ham]
          exact amS_back hd (fun i hi => cdS_back (n := n) hi)
        have hmp := ms_stp hp
        rw [hpl, HLS.out] at hmp
        have HPB : Hid (pkI (cdS ds n2) = tkI n (pkI (cdS (nmS (fun i => BitVec.ofNat 64 (fnI cl i)) ds) n2)) (msI p)) := Lib.hid (by rw [hcd, hpk, htbk, hpe])
        have HBK := Lib.hid hback
        have HTL := Lib.hid htl
        have HD := Lib.hid hd
        have HCD := Lib.hid hcd
        have HPE := Lib.hid hpe
        have HPK := Lib.hid hpk
        have HMP := Lib.hid hmp
        have HTS := Lib.hid htset
        have HT2 := Lib.hid htst.2
        have HP2 := Lib.hid hp.2
        have HRP := Lib.hid hrp
        have HRK : Hid (∀ i, i < n2 → ((nmS (fun i => BitVec.ofNat 64 (fnI cl i)) ds).getD i dz).2 = (ds.getD i dz).2) := Lib.hid (fun i hi => by rw [nmS_get _ _ (by omega)])
        rw [← hpe] at hpk
        clear hd hdl hvn htl hcd hback hmp htset htst htbk hpe hp hpl has2 hrp hcl
        have HM0 := Lib.hid (move_bad n hn256 a3 a2 n3 m3 n2 m2 f s wA H2.out H1.out (by have := H2.out.most; omega) hmv)
        clear hmv
        go_wp2_with fail
        refine (HM0.out).mono ?_
        rintro e wM ⟨rfl, hn⟩
        replace H0 := Lib.hid (H0.out.stay hn)
        replace H1 := Lib.hid (H1.out.stay hn)
        replace H2 := Lib.hid (H2.out.stay hn)
        replace HN := Lib.hid (HN.out.trans hn)
        clear hn
        go_wp2_with fail
        refine (HC.out _).mono ?_
        rintro e w' ⟨rfl, hw⟩
        replace hw := hw.symm
        subst hw
        go_wp2_with fail
        refine (HRF.out _ H2.out).mono ?_
        rintro e wF1 ⟨rfl, hn⟩
        replace H0 := Lib.hid (H0.out.stay hn)
        replace H1 := Lib.hid (H1.out.stay hn)
        replace H2 := Lib.hid (H2.out.stay hn)
        replace HN := Lib.hid (HN.out.trans hn)
        clear hn
        go_wp2_with fail
        refine (HRS.out _ H1.out).mono ?_
        rintro e wX ⟨rfl, hn⟩
        replace H0 := Lib.hid (H0.out.stay hn)
        replace H1 := Lib.hid (H1.out.stay hn)
        replace H2 := Lib.hid (H2.out.stay hn)
        replace HN := Lib.hid (HN.out.trans hn)
        clear hn
        clear HM0 H2
        have HA := Lib.hid (aims41_ok n hn256 a0 a2 n0 m0 n2 m2 l s cl ds k wX H0.out H1.out hle hs has HD.out hrcl hclm hpk)
        rw [ham] at HA
        go_wp2_with fail
        refine (HA.out).mono ?_
        rintro e wY ⟨a5, m5, rfl, hq, hn⟩
        replace H0 := Lib.hid (H0.out.stay hn)
        replace H1 := Lib.hid (H1.out.stay hn)
        replace HN := Lib.hid (HN.out.trans hn)
        have HM := Lib.hid hq
        clear hq HA
        clear hn
        go_wp2_with fail
        refine (HRS.out _ H1.out).mono ?_
        rintro e wZ ⟨rfl, hn⟩
        replace H0 := Lib.hid (H0.out.stay hn)
        replace H1 := Lib.hid (H1.out.stay hn)
        replace HM := Lib.hid (HM.out.stay hn)
        replace HN := Lib.hid (HN.out.trans hn)
        clear hn
        go_wp2_with fail
        refine (HTR.out _ H0.out).mono ?_
        rintro e wD ⟨⟨ds2, k2, q1, q2, q3, q4, hd2, rfl, hz2, hk2⟩ | ⟨hd2, _⟩, hn⟩
        case inr => rw [HD.out] at hd2; cases hd2
        rw [HD.out] at hd2
        cases hd2
        replace H0 := Lib.hid (H0.out.stay hn)
        replace H1 := Lib.hid (H1.out.stay hn)
        replace HM := Lib.hid (HM.out.stay hn)
        replace HN := Lib.hid (HN.out.trans hn)
        rw [HPE.out] at hz2
        have HWS := Lib.hid hz2
        have HON := Lib.hid hk2
        clear hn hz2 hk2 HTR
        go_wp2_with fail
        refine (take41r_q _ _ _ n n2 am _ HM.out (by omega) hle).mono ?_
        rintro e wE ⟨⟨ds2, k2, r1, r2, r3, r4, hd2, rfl, hz2, hk2⟩ | ⟨hd2, _⟩, hn⟩
        case inr => rw [HTL.out] at hd2; cases hd2
        rw [HTL.out] at hd2
        cases hd2
        rw [HCD.out, HPK.out] at hz2
        replace H0 := Lib.hid (H0.out.stay hn)
        replace H1 := Lib.hid (H1.out.stay hn)
        replace HM := Lib.hid (HM.out.stay hn)
        replace HWS := Lib.hid (HWS.out.stay hn)
        replace HON := Lib.hid (HON.out.stay hn)
        replace HN := Lib.hid (HN.out.trans hn)
        have HNW := Lib.hid hz2
        have HTW := Lib.hid hk2
        clear hn hz2 hk2
        go_wp2_with fail
        refine (setr_41 _ _ _ _ _ HWS.out HP2.out (by omega)).mono ?_
        rintro e wS ⟨a6, m6, rfl, hz6, hn⟩
        replace H0 := Lib.hid (H0.out.stay hn)
        replace H1 := Lib.hid (H1.out.stay hn)
        replace HM := Lib.hid (HM.out.stay hn)
        replace HNW := Lib.hid (HNW.out.stay hn)
        replace HON := Lib.hid (HON.out.stay hn)
        replace HTW := Lib.hid (HTW.out.stay hn)
        replace HN := Lib.hid (HN.out.trans hn)
        have HZ6 := Lib.hid hz6
        clear hz6 HWS
        clear hn
        have HAB := Lib.hid (aims41_ok n hn256 _ _ _ _ _ _ am (msI p) (cdS ds n2) _ _ _ HM.out HZ6.out hle HMP.out.1 HMP.out.2 HTL.out HRP.out (cdS_len _ _) HPB.out)
        rw [HBK.out] at HAB
        go_wp2_with fail
        refine (HAB.out).mono ?_
        rintro e wF ⟨a7, m7, rfl, hq, hn⟩
        replace H0 := Lib.hid (H0.out.stay hn)
        replace H1 := Lib.hid (H1.out.stay hn)
        replace HNW := Lib.hid (HNW.out.stay hn)
        replace HON := Lib.hid (HON.out.stay hn)
        replace HTW := Lib.hid (HTW.out.stay hn)
        replace HN := Lib.hid (HN.out.trans hn)
        have HBA := Lib.hid hq
        clear hq HAB
        clear hn
        go_wp2_with fail
        refine (setr_41 _ _ _ _ _ HNW.out HT2.out (by omega)).mono ?_
        rintro e wT ⟨a9, m9, rfl, hz9, hn⟩
        replace H0 := Lib.hid (H0.out.stay hn)
        replace H1 := Lib.hid (H1.out.stay hn)
        replace HON := Lib.hid (HON.out.stay hn)
        replace HTW := Lib.hid (HTW.out.stay hn)
        replace HBA := Lib.hid (HBA.out.stay hn)
        replace HN := Lib.hid (HN.out.trans hn)
        rw [HTS.out] at hz9
        have HZ9 := Lib.hid hz9
        clear hz9
        clear hn
        go_wp2_with fail
        refine (ints_ref _ _ _ _ _ _ _ _ _ HZ9.out H1.out).mono ?_
        rintro e wG ⟨rfl, hn⟩
        rw [beq_self_eq_true]
        replace H0 := Lib.hid (H0.out.stay hn)
        replace HON := Lib.hid (HON.out.stay hn)
        replace HTW := Lib.hid (HTW.out.stay hn)
        replace HBA := Lib.hid (HBA.out.stay hn)
        replace HN := Lib.hid (HN.out.trans hn)
        clear hn
        go_wp2_with fail
        refine (ranks_40 _ _ _ _ _ _ _ _ HON.out HTW.out HRK.out).mono ?_
        rintro e wH ⟨rfl, hn⟩
        replace H0 := Lib.hid (H0.out.stay hn)
        replace HBA := Lib.hid (HBA.out.stay hn)
        replace HN := Lib.hid (HN.out.trans hn)
        clear hn
        go_wp2_with fail
        refine (words_ref _ _ _ _ _ _ _ _ _ _ HBA.out H0.out HN.out).mono ?_
        rintro e wI ⟨rfl, _, hn⟩
        rw [beq_self_eq_true]
        have HN9 := Lib.hid hn
        clear hn
        go_wp2
        go_ret
        exact ⟨rfl, HN9.out⟩
end Go.Proofs.Ytaajphopnmdmcaa
