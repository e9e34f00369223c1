/- The law SubsetAims. -/
import Derived.Test.YtaajphopnmdmcaaSubI
namespace Go.Proofs.Ytaajphopnmdmcaa
open Go Go.RowKit Go.Bv
set_option linter.unusedVariables false
theorem cdS_aim (v : Nat → Nat) {n K : Nat} {ds : List Drw} (hd : ds.length = K) (hv : ∀ i, i < K → v i < n) (hn : n ≤ 256) : cdS (nmS (fun i => BitVec.ofNat 64 (v i)) ds) K = liI v K := by
  unfold cdS
  apply liI_ext
  intro x hx
  rw [nmS_get _ _ (by omega)]
  show (BitVec.ofNat 64 (v x)).toNat = _
  have := hv x hx
  rw [BitVec.toNat_ofNat]
  omega
theorem cdS_back {n K : Nat} {ds : List Drw} {i : Nat} (hi : i < K) : BitVec.ofNat 64 (fnI (cdS ds K) i) = (ds.getD i dz).1 := by
  unfold cdS
  rw [fnI_li _ hi]
  apply BitVec.eq_of_toNat_eq
  rw [BitVec.toNat_ofNat]
  exact Nat.mod_eq_of_lt (ds.getD i dz).1.isLt
set_option maxRecDepth 100000 in
set_option maxHeartbeats 4000000 in
theorem SubsetAims_walk (W : World) (a0 : Option Addr) (n0 m0 : Nat) (z0 : List Int) (w0 : IRow .u64 W a0 n0 m0 z0) (r0 : m0 * 8 ≤ 140737488351232) (a1 : Int) (w1 : (Lit.int .i64 a1).wf = true) (a2 : Option Addr) (n2 m2 : Nat) (z2 : List Int) (w2 : IRow .i64 W a2 n2 m2 z2) (r2 : m2 * 8 ≤ 140737488351232) :
    Calls Try.prog 6 #[.slice a0 n0 m0, .int .i64 a1, .slice a2 n2 m2] W fun e w' => e = .returned (.bool true) ∧ Below W.heap.size W w' := by
  obtain ⟨l, hl⟩ := w0.words r0
  obtain ⟨p, hp⟩ := w2.ints r2
  have H0 := Lib.hid hl
  have H1 := Lib.hid hp
  have HL0 := Lib.hid hl.len_eq
  have HL1 := Lib.hid hp.len_eq
  clear w0 w2 r0 r2 hl hp
  have hn1 := wfi64 w1
  clear w1
  have HA := Lib.hid awake41
  go_enter Try.func6, Try.ntmps6
  go_wp2_with fail
  refine (HA.out _).mono ?_
  rintro e wA ⟨rfl, hn⟩
  replace H0 := Lib.hid (H0.out.stay hn)
  replace H1 := Lib.hid (H1.out.stay hn)
  have HN := Lib.hid hn
  clear hn HA
  by_cases hs0 : (100 : Int) < (n0 : Int)
  · go_wp2
    go_ret
    exact ⟨rfl, HN.out⟩
  by_cases hs1 : 40 < a1 ∧ a1 ≤ 256
  · obtain ⟨hs2, hs3⟩ := hs1
    go_wp2
    go_ret
    exact ⟨rfl, HN.out⟩
  have HC := Lib.hid (fun w => count_41 a1 (n2 : Int) w)
  by_cases hsz : a1 < 0 ∨ 256 < a1 ∨ a1 < (n2 : Int)
  · have hE : szE a1 (n2 : Int) = 1 := if_pos hsz
    have HAM := Lib.hid (aim41_size a1 a0 a2 n0 m0 n2 m2 wA hE)
    rw [hE] at HC
    clear hE
    have hcase : ¬ 40 < a1 ∨ (40 < a1 ∧ ¬ a1 ≤ 256) := by omega
    rcases hcase with h4 | ⟨h4, h5⟩
    all_goals (
      go_wp2_with fail
      refine HAM.out.mono ?_
      rintro e w' ⟨rfl, hw⟩
      replace hw := hw.symm
      subst hw
      go_wp2_with fail
      refine (HC.out _).mono ?_
      rintro e w' ⟨rfl, hw⟩
      replace hw := hw.symm
      subst hw
      go_wp2
      go_ret
      exact ⟨rfl, HN.out⟩)
  rw [show szE a1 (n2 : Int) = 0 from if_neg hsz] at HC
  obtain ⟨n, rfl⟩ : ∃ n : Nat, a1 = (n : Int) := ⟨a1.toNat, by omega⟩
  have hn256 : n ≤ 256 := by omega
  have hs2 : ¬ (40 : Int) < (n : Int) := by omega
  have hKn : n2 ≤ n := by omega
  clear hsz hs1
  have HIS := Lib.hid (fun w (h : ZRow w a2 n2 m2 p) => isr_41 n (by omega) a2 n2 m2 p w h (by omega))
  by_cases hor : ipP n p
  case neg =>
    have HAM := Lib.hid (aim41_bad n hn256 a0 a2 n0 m0 n2 m2 p wA H1.out hKn hor)
    rw [ipB_no hor] at HIS
    clear hor
    go_wp2_with fail
    refine HAM.out.mono ?_
    rintro e w9 ⟨rfl, hn⟩
    replace H1 := Lib.hid (H1.out.stay hn)
    replace HN := Lib.hid (HN.out.trans hn)
    clear hn HAM
    go_wp2_with fail
    refine (HC.out _).mono ?_
    rintro e w' ⟨rfl, hw⟩
    replace hw := hw.symm
    subst hw
    go_wp2_with fail
    refine (HIS.out _ H1.out).mono ?_
    rintro e w8 ⟨rfl, hw⟩
    replace hw := hw.symm
    subst hw
    go_wp2
    go_ret
    exact ⟨rfl, HN.out⟩
  have HTR := Lib.hid (fun w (h : QRow w a0 n0 m0 l) => take41r_q a0 n0 m0 n n2 l w h (by omega) hKn)
  rw [ipB_iff.2 hor] at HIS
  obtain ⟨cl, hcl, hrp, rfl⟩ := pk_all hor (by rw [HL1.out]; exact hKn)
  rw [pkI_len] at HL1
  have HCL := Lib.hid HL1.out
  have HRP := Lib.hid hrp
  clear hor hcl HL1
  rcases hd : drS l (lmP n n2) n2 with _ | ⟨ds, k⟩
  · have HAM := Lib.hid (aim41_no n hn256 a0 a2 n0 m0 n2 m2 l cl wA H0.out H1.out hrp HCL.out hd)
    have HD := Lib.hid hd
    clear hd hrp
    go_wp2_with fail
    refine HAM.out.mono ?_
    rintro e w9 ⟨rfl, hn⟩
    replace H0 := Lib.hid (H0.out.stay hn)
    replace H1 := Lib.hid (H1.out.stay hn)
    replace HN := Lib.hid (HN.out.trans hn)
    clear hn HAM
    go_wp2_with fail
    refine (HC.out _).mono ?_
    rintro e w' ⟨rfl, hw⟩
    replace hw := hw.symm
    subst hw
    go_wp2_with fail
    refine (HIS.out _ H1.out).mono ?_
    rintro e w8 ⟨rfl, hw⟩
    replace hw := hw.symm
    subst hw
    go_wp2_with fail
    refine (HTR.out _ H0.out).mono ?_
    rintro e wD ⟨⟨ds2, k2, q1, q2, q3, q4, hd2, _⟩ | ⟨hd2, rfl⟩, hn⟩
    · rw [HD.out] at hd2; cases hd2
    replace HN := Lib.hid (HN.out.trans hn)
    clear hn hd2 HTR
    go_wp2
    go_ret
    exact ⟨rfl, HN.out⟩
  · obtain ⟨am, ham⟩ : ∃ z, amS l (lmP n n2) (fun i => BitVec.ofNat 64 (fnI cl i)) ds n2 = z := ⟨_, rfl⟩
    have hdl := (drS_len hd).1
    have hvn : ∀ i, i < n2 → fnI cl i < n - i := fun i hi => by
      have h := hrp.2 i (by rw [HCL.out]; exact hi)
      unfold fnI
      omega
    have htl := amS_tells (v := fun i => BitVec.ofNat 64 (fnI cl i)) hd (fun i hi => by
      have := hvn i hi
      rw [lmP_get hi, BitVec.toNat_ofNat, BitVec.toNat_ofNat]
      omega)
    rw [ham] at htl
    have hcd : cdS (nmS (fun i => BitVec.ofNat 64 (fnI cl i)) ds) n2 = cl := by
      rw [cdS_aim (fnI cl) (n := n) hdl (fun i hi => by have := hvn i hi; omega) hn256]
      have h := li_fn (p := cl) (fun j hj => (hrp.2 j hj).1)
      rwa [HCL.out] at h
    have HCD := Lib.hid hcd
    have HWR := Lib.hid (cdS_rp (by omega) hKn hd)
    have hback : amS am (lmP n n2) (fun i => BitVec.ofNat 64 (fnI (cdS ds n2) i)) (nmS (fun i => BitVec.ofNat 64 (fnI cl i)) ds) n2 = l := by
      rw [(amS_nm _ _ _ _ _ _ (by omega)).1, ← ham]
      exact amS_back hd (fun i hi => cdS_back (n := n) hi)
    have HBK := Lib.hid hback
    have HTL := Lib.hid htl
    have HD := Lib.hid hd
    have HAM := Lib.hid (aim41_ok n hn256 a0 a2 n0 m0 n2 m2 l cl ds k wA H0.out H1.out hrp HCL.out hd)
    rw [ham] at HAM
    have HRK : Hid (∀ i, i < n2 → ((nmS (fun i => BitVec.ofNat 64 (fnI cl i)) ds).getD i dz).2 = (ds.getD i dz).2) := Lib.hid (fun i hi => by rw [nmS_get _ _ (by omega)])
    clear hd htl hback ham hdl hvn hcd hrp
    go_wp2_with fail
    refine HAM.out.mono ?_
    rintro e w9 ⟨a4, m4, rfl, hq, hn⟩
    replace H0 := Lib.hid (H0.out.stay hn)
    replace H1 := Lib.hid (H1.out.stay hn)
    replace HN := Lib.hid (HN.out.trans hn)
    have HM := Lib.hid hq
    clear hn hq HAM
    go_wp2_with fail
    refine (HC.out _).mono ?_
    rintro e w' ⟨rfl, hw⟩
    replace hw := hw.symm
    subst hw
    go_wp2_with fail
    refine (HIS.out _ H1.out).mono ?_
    rintro e w8 ⟨rfl, hw⟩
    replace hw := hw.symm
    subst hw
    go_wp2_with fail
    refine (HTR.out _ H0.out).mono ?_
    rintro e wD ⟨⟨ds2, k2, q1, q2, q3, q4, hd2, rfl, hz2, hk2⟩ | ⟨hd2, _⟩, hn⟩
    case inr => rw [HD.out] at hd2; cases hd2
    rw [HD.out] at hd2
    cases hd2
    replace H0 := Lib.hid (H0.out.stay hn)
    replace H1 := Lib.hid (H1.out.stay hn)
    replace HM := Lib.hid (HM.out.stay hn)
    replace HN := Lib.hid (HN.out.trans hn)
    have HWS := Lib.hid hz2
    have HON := Lib.hid hk2
    clear hn hz2 hk2 HTR
    go_wp2_with fail
    refine (take41r_q _ _ _ _ _ _ _ HM.out (by omega) hKn).mono ?_
    rintro e wE ⟨⟨ds2, k2, r1, r2, r3, r4, hd2, rfl, hz2, hk2⟩ | ⟨hd2, _⟩, hn⟩
    case inr => rw [HTL.out] at hd2; cases hd2
    rw [HTL.out] at hd2
    cases hd2
    rw [HCD.out] at hz2
    replace H0 := Lib.hid (H0.out.stay hn)
    replace H1 := Lib.hid (H1.out.stay hn)
    replace HM := Lib.hid (HM.out.stay hn)
    replace HWS := Lib.hid (HWS.out.stay hn)
    replace HON := Lib.hid (HON.out.stay hn)
    replace HN := Lib.hid (HN.out.trans hn)
    have HNW := Lib.hid hz2
    have HTW := Lib.hid hk2
    clear hn hz2 hk2
    have HAB := Lib.hid (aim41_ok n hn256 _ _ _ _ _ _ _ _ _ _ _ HM.out HWS.out HWR.out (cdS_len _ _) HTL.out)
    rw [HBK.out] at HAB
    go_wp2_with fail
    refine HAB.out.mono ?_
    rintro e wF ⟨a5, m5, rfl, hq, hn⟩
    replace H0 := Lib.hid (H0.out.stay hn)
    replace H1 := Lib.hid (H1.out.stay hn)
    replace HNW := Lib.hid (HNW.out.stay hn)
    replace HON := Lib.hid (HON.out.stay hn)
    replace HTW := Lib.hid (HTW.out.stay hn)
    replace HN := Lib.hid (HN.out.trans hn)
    have HBA := Lib.hid hq
    clear hn hq HAB
    go_wp2_with fail
    refine (ints_ref _ _ _ _ _ _ _ _ _ HNW.out H1.out).mono ?_
    rintro e wG ⟨rfl, hn⟩
    rw [beq_self_eq_true]
    replace H0 := Lib.hid (H0.out.stay hn)
    replace HON := Lib.hid (HON.out.stay hn)
    replace HTW := Lib.hid (HTW.out.stay hn)
    replace HBA := Lib.hid (HBA.out.stay hn)
    replace HN := Lib.hid (HN.out.trans hn)
    clear hn
    go_wp2_with fail
    refine (ranks_40 _ _ _ _ _ _ _ _ HON.out HTW.out HRK.out).mono ?_
    rintro e wH ⟨rfl, hn⟩
    replace H0 := Lib.hid (H0.out.stay hn)
    replace HBA := Lib.hid (HBA.out.stay hn)
    replace HN := Lib.hid (HN.out.trans hn)
    clear hn
    go_wp2_with fail
    refine (words_ref _ _ _ _ _ _ _ _ _ _ HBA.out H0.out HN.out).mono ?_
    rintro e wI ⟨rfl, _, hn⟩
    rw [beq_self_eq_true]
    have HN9 := Lib.hid hn
    clear hn
    go_wp2
    go_ret
    exact ⟨rfl, HN9.out⟩
end Go.Proofs.Ytaajphopnmdmcaa
