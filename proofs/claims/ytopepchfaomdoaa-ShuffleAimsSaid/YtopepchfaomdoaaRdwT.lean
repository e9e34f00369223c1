/- The law ShuffleAims. -/
import Derived.Test.YtopepchfaomdoaaRdwS
namespace Go.Proofs.Ytopepchfaomdoaa
open Go Go.RowKit Go.Bv
set_option linter.unusedVariables false
theorem aim40_bad (a a2 : Option Addr) (nl c n c2 : Nat) (l : List (BitVec 64)) (p : List Int) (w : World) (hl : QRow w a nl c l) (hz : ZRow w a2 n c2 p) (hn : n ≤ 256) (hp : ¬ isO p) :
    Calls Try.prog 25 #[.slice a nl c, .slice a2 n c2] w fun e w' => e = .returned (.tuple #[.slice none 0 0, .int .i64 2]) ∧ New w w' := by
  have HCH := Lib.hid (chc_bad a2 n c2 p w hz (by omega) hp)
  clear hl hz hp
  go_enter Try.func25, Try.ntmps25
  go_wp2_with fail
  refine HCH.out.mono ?_
  rintro e w1 ⟨rfl, hn1⟩
  have HN := Lib.hid hn1
  clear hn1 HCH
  go_wp2
  go_ret2
  exact ⟨rfl, HN.out⟩
set_option maxRecDepth 100000 in
theorem aim40_no (a a2 : Option Addr) (nl c n c2 : Nat) (l : List (BitVec 64)) (p : List Int) (w : World) (hl : QRow w a nl c l) (hz : ZRow w a2 n c2 p) (hn : n ≤ 256) (hp : isO p) (hd : drS l (lmL n) (n - 1) = none) :
    Calls Try.prog 25 #[.slice a nl c, .slice a2 n c2] w fun e w' => e = .returned (.tuple #[.slice none 0 0, .int .i64 7]) ∧ New w w' := by
  have HL := Lib.hid hl
  have HD := Lib.hid hd
  have HCH := Lib.hid (chc_ok a2 n c2 p w hz (by omega) hp)
  clear hl hz hd hp
  go_enter Try.func25, Try.ntmps25
  go_wp2_with fail
  refine HCH.out.mono ?_
  rintro e w1 ⟨a3, c3, rfl, hz, hn1⟩
  have HN := Lib.hid hn1
  replace HL := Lib.hid (HL.out.stay hn1)
  clear hz hn1 HCH
  go_wp2_with fail
  refine (new_t _ _ _ _ _ HL.out).mono ?_
  rintro e wB ⟨b, rfl, hb, ht, hn2⟩
  have HT := Lib.hid ht
  have HNB := Lib.hid hn2
  have HBB := Lib.hid hb
  clear ht hn2 hb
  go_wp2_with fail
  refine (take40_q b b n l _ HT.out hn).mono ?_
  rintro e wC (⟨ds2, k2, p1, p2, p3, p4, hd2, _⟩ | ⟨hd2, rfl, g, ht, hb2, _⟩)
  · rw [HD.out] at hd2; cases hd2
  have hnc : New w1 wC := hb2.new w1 HNB.out HBB.out HBB.out
  replace HN := Lib.hid (HN.out.trans hnc)
  clear ht hb2 hnc HT HNB HBB hd2
  go_wp2
  go_ret2
  exact ⟨rfl, HN.out⟩
/-- the draws of an aimed row lead to the order -/
theorem cd_aim {l ls : List (BitVec 64)} {p : List Int} {n : Nat} {ds : List Drw} (hp : isO p) (hn : p.length = n) (hb : n ≤ 256) (hd : ds.length = n - 1) : liI (cdF n (nmS (fun i => BitVec.ofNat 64 (vAim p i)) ds)) n = chI p := by
  have hr := chI_rt hp
  have h0 := li_fn (p := chI p) (fun j hj => (hr j hj).1)
  rw [← h0, chI_len, hn]
  apply liI_ext
  intro x hx
  have hrx := hr x (by rw [chI_len, hn]; exact hx)
  unfold cdF
  rw [nmS_len, hd]
  by_cases e : n - 1 - x < n - 1
  · rw [if_pos e, nmS_get _ _ (by omega)]
    show (BitVec.ofNat 64 (vAim p (n - 1 - x))).toNat = _
    unfold vAim
    rw [hn, show n - 1 - (n - 1 - x) = x by omega, BitVec.toNat_ofNat]
    unfold fnI
    omega
  · rw [if_neg e]
    obtain rfl : x = 0 := by omega
    unfold fnI
    omega
theorem vAim_lt {p : List Int} {n : Nat} (hp : isO p) (hn : p.length = n) (hb : n ≤ 256) {i : Nat} (hi : i < n - 1) : (BitVec.ofNat 64 (vAim p i)).toNat < ((lmL n).getD i 0).toNat := by
  have h := (chI_rt hp) (p.length - 1 - i) (by rw [chI_len, hn]; omega)
  rw [lmL_get hi, BitVec.toNat_ofNat, BitVec.toNat_ofNat]
  unfold vAim fnI
  omega
/-- aimed back at the order that was told -/
theorem vAim_back {l : List (BitVec 64)} {n k : Nat} {ds : List Drw} (hb : n ≤ 256) (h : drS l (lmL n) (n - 1) = some (ds, k)) {i : Nat} (hi : i < n - 1) : BitVec.ofNat 64 (vAim (pmI (liI (cdF n ds) n)) i) = (ds.getD i dz).1 := by
  have hr := cdF_rt (by omega) h
  have hd := (drS_len h).1
  unfold vAim
  rw [ch_pm hr, pmI_len, liI_len, fnI_li _ (by omega)]
  unfold cdF
  rw [if_pos (by omega), show n - 1 - (n - 1 - i) = i by omega]
  apply BitVec.eq_of_toNat_eq
  rw [BitVec.toNat_ofNat]
  exact Nat.mod_eq_of_lt (ds.getD i dz).1.isLt
theorem amS_same (o ls : List (BitVec 64)) {u v : Nat → BitVec 64} (ds : List Drw) : ∀ m, (∀ i, i < m → u i = v i) → amS o ls u ds m = amS o ls v ds m
  | 0, _ => rfl
  | m + 1, h => by
    show (amS o ls u ds m).set _ (wrdN (u m) _ _) = (amS o ls v ds m).set _ (wrdN (v m) _ _)
    rw [amS_same o ls ds m (fun i hi => h i (by omega)), h m (by omega)]
set_option maxRecDepth 100000 in
set_option maxHeartbeats 4000000 in
theorem ShuffleAims_walk (W : World) (a0 : Option Addr) (n0 m0 : Nat) (z0 : List Int) (w0 : IRow .u64 W a0 n0 m0 z0) (r0 : m0 * 8 ≤ 140737488351232) (a1 : Option Addr) (n1 m1 : Nat) (z1 : List Int) (w1 : IRow .i64 W a1 n1 m1 z1) (r1 : m1 * 8 ≤ 140737488351232) :
    Calls Try.prog 7 #[.slice a0 n0 m0, .slice a1 n1 m1] W fun e w' => e = .returned (.bool true) ∧ Below W.heap.size W w' := by
  obtain ⟨l, hl⟩ := w0.words r0
  obtain ⟨p, hp⟩ := w1.ints r1
  have H0 := Lib.hid hl
  have H1 := Lib.hid hp
  have HL0 := Lib.hid hl.len_eq
  have HL1 := Lib.hid hp.len_eq
  clear w0 w1 r0 r1 hl hp
  have HA := Lib.hid awake40
  go_enter Try.func7, Try.ntmps7
  go_wp2_with fail
  refine (HA.out _).mono ?_
  rintro e wA ⟨rfl, hn⟩
  replace H0 := Lib.hid (H0.out.stay hn)
  replace H1 := Lib.hid (H1.out.stay hn)
  have HN := Lib.hid hn
  clear hn HA
  by_cases hs0 : (100 : Int) < (n0 : Int)
  · go_wp2
    go_ret
    exact ⟨rfl, HN.out⟩
  by_cases hs1 : (30 : Int) < (n1 : Int)
  · go_wp2
    go_ret
    exact ⟨rfl, HN.out⟩
  have hn256 : n1 ≤ 256 := by omega
  have HIS := Lib.hid (fun w (h : ZRow w a1 n1 m1 p) => isr_40 a1 n1 m1 p w h (by omega))
  by_cases hor : isO p
  case neg =>
    have HAM := Lib.hid (aim40_bad a0 a1 n0 m0 n1 m1 l p wA H0.out H1.out hn256 hor)
    rw [isB_no hor] at HIS
    clear hor
    go_wp2_with fail
    refine HAM.out.mono ?_
    rintro e w9 ⟨rfl, hn⟩
    replace H1 := Lib.hid (H1.out.stay hn)
    replace HN := Lib.hid (HN.out.trans hn)
    clear hn HAM
    go_wp2_with fail
    refine (HIS.out _ H1.out).mono ?_
    rintro e w8 ⟨rfl, hw⟩
    replace hw := hw.symm
    subst hw
    go_wp2
    go_ret
    exact ⟨rfl, HN.out⟩
  have HTR := Lib.hid (fun w (h : QRow w a0 n0 m0 l) => take40r_q a0 n0 m0 n1 l w h (by omega))
  rw [isB_iff.2 hor] at HIS
  have HOR := Lib.hid hor
  rcases hd : drS l (lmL n1) (n1 - 1) with _ | ⟨ds, k⟩
  · have HAM := Lib.hid (aim40_no a0 a1 n0 m0 n1 m1 l p wA H0.out H1.out hn256 hor hd)
    have HD := Lib.hid hd
    clear hor hd
    go_wp2_with fail
    refine HAM.out.mono ?_
    rintro e w9 ⟨rfl, hn⟩
    replace H0 := Lib.hid (H0.out.stay hn)
    replace H1 := Lib.hid (H1.out.stay hn)
    replace HN := Lib.hid (HN.out.trans hn)
    clear hn HAM
    go_wp2_with fail
    refine (HIS.out _ H1.out).mono ?_
    rintro e w8 ⟨rfl, hw⟩
    replace hw := hw.symm
    subst hw
    go_wp2_with fail
    refine (HTR.out _ H0.out).mono ?_
    rintro e wD ⟨⟨ds2, k2, q1, q2, q3, q4, hd2, _⟩ | ⟨hd2, rfl⟩, hn⟩
    · rw [HD.out] at hd2; cases hd2
    replace HN := Lib.hid (HN.out.trans hn)
    clear hn hd2 HTR
    go_wp2
    go_ret
    exact ⟨rfl, HN.out⟩
  · obtain ⟨am, ham⟩ : ∃ z, amS l (lmL n1) (fun i => BitVec.ofNat 64 (vAim p i)) ds (n1 - 1) = z := ⟨_, rfl⟩
    have hdl := (drS_len hd).1
    have htl := amS_tells (v := fun i => BitVec.ofNat 64 (vAim p i)) hd (fun i hi => vAim_lt hor HL1.out hn256 hi)
    rw [ham] at htl
    have haml : am.length = n0 := by rw [← ham, amS_len, HL0.out]
    have HCD := Lib.hid (cd_aim (l := l) (ls := l) hor HL1.out hn256 hdl)
    have HRT := Lib.hid (cdF_rt (by omega) hd)
    have HWO : Hid (isO (pmI (liI (cdF n1 ds) n1))) := Lib.hid (pmI_or HRT.out)
    have hback : amS am (lmL n1) (fun i => BitVec.ofNat 64 (vAim (pmI (liI (cdF n1 ds) n1)) i)) (nmS (fun i => BitVec.ofNat 64 (vAim p i)) ds) (n1 - 1) = l := by
      rw [(amS_nm _ _ _ _ _ _ (by omega)).1, ← ham]
      exact amS_back hd (fun i hi => vAim_back hn256 hd hi)
    have HBK := Lib.hid hback
    have HTL := Lib.hid htl
    have HD := Lib.hid hd
    have HAM := Lib.hid (aim40_ok a0 a1 n0 m0 n1 m1 l p ds k wA H0.out H1.out hn256 hor hd)
    rw [ham] at HAM
    have HRK : Hid (∀ i, i < n1 - 1 → ((nmS (fun i => BitVec.ofNat 64 (vAim p i)) ds).getD i dz).2 = (ds.getD i dz).2) := Lib.hid (fun i hi => by rw [nmS_get _ _ (by omega)])
    clear hor hd htl hback ham hdl
    go_wp2_with fail
    refine HAM.out.mono ?_
    rintro e w9 ⟨a2, m2, rfl, hq, hn⟩
    replace H0 := Lib.hid (H0.out.stay hn)
    replace H1 := Lib.hid (H1.out.stay hn)
    replace HN := Lib.hid (HN.out.trans hn)
    have HM := Lib.hid hq
    clear hn hq HAM
    go_wp2_with fail
    refine (HIS.out _ H1.out).mono ?_
    rintro e w8 ⟨rfl, hw⟩
    replace hw := hw.symm
    subst hw
    go_wp2_with fail
    refine (HTR.out _ H0.out).mono ?_
    rintro e wD ⟨⟨ds2, k2, q1, q2, q3, q4, hd2, rfl, hz2, hk2⟩ | ⟨hd2, _⟩, hn⟩
    case inr => rw [HD.out] at hd2; cases hd2
    rw [HD.out] at hd2
    cases hd2
    replace H0 := Lib.hid (H0.out.stay hn)
    replace H1 := Lib.hid (H1.out.stay hn)
    replace HM := Lib.hid (HM.out.stay hn)
    replace HN := Lib.hid (HN.out.trans hn)
    have HWS := Lib.hid hz2
    have HON := Lib.hid hk2
    clear hn hz2 hk2 HTR
    go_wp2_with fail
    refine (take40r_q _ _ _ _ _ _ HM.out (by omega)).mono ?_
    rintro e wE ⟨⟨ds2, k2, r1, r2, r3, r4, hd2, rfl, hz2, hk2⟩ | ⟨hd2, _⟩, hn⟩
    case inr => rw [HTL.out] at hd2; cases hd2
    rw [HTL.out] at hd2
    cases hd2
    rw [HCD.out, pm_ch HOR.out] at hz2
    replace H0 := Lib.hid (H0.out.stay hn)
    replace H1 := Lib.hid (H1.out.stay hn)
    replace HM := Lib.hid (HM.out.stay hn)
    replace HWS := Lib.hid (HWS.out.stay hn)
    replace HON := Lib.hid (HON.out.stay hn)
    replace HN := Lib.hid (HN.out.trans hn)
    have HNW := Lib.hid hz2
    have HTW := Lib.hid hk2
    clear hn hz2 hk2
    have HAB := Lib.hid (aim40_ok _ _ _ _ _ _ _ _ _ _ _ HM.out HWS.out hn256 HWO.out HTL.out)
    rw [HBK.out] at HAB
    go_wp2_with fail
    refine HAB.out.mono ?_
    rintro e wF ⟨a5, m5, rfl, hq, hn⟩
    replace H0 := Lib.hid (H0.out.stay hn)
    replace H1 := Lib.hid (H1.out.stay hn)
    replace HNW := Lib.hid (HNW.out.stay hn)
    replace HON := Lib.hid (HON.out.stay hn)
    replace HTW := Lib.hid (HTW.out.stay hn)
    replace HN := Lib.hid (HN.out.trans hn)
    have HBA := Lib.hid hq
    clear hn hq HAB
    go_wp2_with fail
    refine (ints_ref _ _ _ _ _ _ _ _ _ HNW.out H1.out).mono ?_
    rintro e wG ⟨rfl, hn⟩
    rw [beq_self_eq_true]
    replace H0 := Lib.hid (H0.out.stay hn)
    replace HON := Lib.hid (HON.out.stay hn)
    replace HTW := Lib.hid (HTW.out.stay hn)
    replace HBA := Lib.hid (HBA.out.stay hn)
    replace HN := Lib.hid (HN.out.trans hn)
    clear hn
    go_wp2_with fail
    refine (ranks_40 _ _ _ _ _ _ _ _ HON.out HTW.out HRK.out).mono ?_
    rintro e wH ⟨rfl, hn⟩
    replace H0 := Lib.hid (H0.out.stay hn)
    replace HBA := Lib.hid (HBA.out.stay hn)
    replace HN := Lib.hid (HN.out.trans hn)
    clear hn
    go_wp2_with fail
    refine (words_ref _ _ _ _ _ _ _ _ _ _ HBA.out H0.out HN.out).mono ?_
    rintro e wI ⟨rfl, _, hn⟩
    rw [beq_self_eq_true]
    have HN9 := Lib.hid hn
    clear hn
    go_wp2
    go_ret
    exact ⟨rfl, HN9.out⟩
end Go.Proofs.Ytopepchfaomdoaa
