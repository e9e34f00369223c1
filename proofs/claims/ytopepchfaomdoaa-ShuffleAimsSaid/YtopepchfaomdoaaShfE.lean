/- shuffle: the example; the laws ShuffleOrders, ShuffleOnly. -/
import Derived.Test.YtopepchfaomdoaaShfD
namespace Go.Proofs.Ytopepchfaomdoaa
open Go Go.RowKit Go.Bv
set_option linter.unusedVariables false
set_option maxRecDepth 100000 in
set_option maxHeartbeats 2000000 in
theorem awake40 (w : World) : Calls Try.prog 8 #[] w fun e w' => e = .returned (.bool true) ∧ New w w' := by
  have hrt : rtI [0, 0, 0] := by
    intro i hi
    match i, hi with
    | 0, _ => decide
    | 1, _ => decide
    | 2, _ => decide
  have hpm : pmI [0, 0, 0] = [1, 2, 0] := by decide +kernel
  have hio := pmI_or hrt
  rw [hpm] at hio
  obtain ⟨_, _, he, hz⟩ := ZRow.of_owns (l := [0, 0, 0]) (ow_made w w.heap.size 3 #[.int .i64 0, .int .i64 0, .int .i64 0] 3 _ (Nat.le_refl _) (by omega) rfl rfl) (by omega) (by intro z hz; simp at hz; subst hz; unfold In64; omega)
  cases he
  have hpc := perm_ok _ _ _ _ _ hz hrt (by omega)
  rw [hpm] at hpc
  have HPC := Lib.hid hpc
  have HIS := Lib.hid (fun w' a c (h : ZRow w' a 3 c [1, 2, 0]) => is_40 a 3 c _ w' h (by omega))
  rw [isB_iff.2 hio] at HIS
  clear hrt hpm hio hz hpc
  go_enter Try.func8, Try.ntmps8
  go_wp2_with fail
  refine (HPC.out).mono ?_
  rintro e w9 ⟨g, rfl, how, hn⟩
  obtain ⟨_, _, he, hq⟩ := ZRow.of_owns how (by omega) (by intro z hz; simp at hz; unfold In64; omega)
  cases he
  have HQ := Lib.hid hq
  have HN := Lib.hid (((New.refl w).alloc (.cells #[.int .i64 0, .int .i64 0, .int .i64 0] 3)).trans hn)
  have c0 := hq.cell g 0 rfl 0 (by omega)
  have c1 := hq.cell g 0 rfl 1 (by omega)
  rw [Nat.add_zero] at c0
  rw [Nat.zero_add] at c1
  rw [show ([1, 2, 0] : List Int).getD 0 0 = 1 from rfl] at c0
  rw [show ([1, 2, 0] : List Int).getD 1 0 = 2 from rfl] at c1
  clear how hn hq HPC
  go_wp2_with fail
  refine (HIS.out _ _ _ HQ.out).mono ?_
  rintro e w8 ⟨rfl, hn⟩
  replace HN := Lib.hid (HN.out.trans hn)
  clear hn HIS
  go_wp2
  go_ret
  exact ⟨rfl, HN.out⟩
set_option maxRecDepth 100000 in
set_option maxHeartbeats 4000000 in
theorem ShuffleOrders_walk (W : World) (a0 : Option Addr) (n0 m0 : Nat) (z0 : List Int) (w0 : IRow .i64 W a0 n0 m0 z0) (r0 : m0 * 8 ≤ 140737488351232) (a1 : Option Addr) (n1 m1 : Nat) (z1 : List Int) (w1 : IRow .i64 W a1 n1 m1 z1) (r1 : m1 * 8 ≤ 140737488351232) :
    Calls Try.prog 3 #[.slice a0 n0 m0, .slice a1 n1 m1] W fun e w' => e = .returned (.bool true) ∧ Below W.heap.size W w' := by
  obtain ⟨c, hc⟩ := w0.ints r0
  obtain ⟨p, hp⟩ := w1.ints r1
  have H0 := Lib.hid hc
  have H1 := Lib.hid hp
  clear w0 w1 r0 r1 hc hp
  have HA := Lib.hid awake40
  go_enter Try.func3, Try.ntmps3
  go_wp2_with fail
  refine (HA.out _).mono ?_
  rintro e w9 ⟨rfl, hn⟩
  replace H0 := Lib.hid (H0.out.stay hn)
  replace H1 := Lib.hid (H1.out.stay hn)
  have HN := Lib.hid hn
  clear hn HA
  by_cases hs0 : (60 : Int) < (n0 : Int)
  · go_wp2
    go_ret
    exact ⟨rfl, HN.out⟩
  by_cases hs1 : (60 : Int) < (n1 : Int)
  · go_wp2
    go_ret
    exact ⟨rfl, HN.out⟩
  have HRI := Lib.hid (fun w (h : ZRow w a0 n0 m0 c) => right_40 a0 n0 m0 c w h)
  have HIS := Lib.hid (fun w (h : ZRow w a1 n1 m1 p) => is_40 a1 n1 m1 p w h (by omega))
  have HIR := Lib.hid (fun w (h : ZRow w a1 n1 m1 p) => isr_40 a1 n1 m1 p w h (by omega))
  by_cases hr : rtI c
  · have HPO := Lib.hid (fun w (h : ZRow w a0 n0 m0 c) => perm_ok a0 n0 m0 c w h hr (by omega))
    have HPR0 := Lib.hid (fun w (h : ZRow w a0 n0 m0 c) => permr_40 a0 n0 m0 c w h hr (by omega))
    have HRB := Lib.hid (rightB_iff.2 hr)
    rw [HRB.out] at HRI
    have HIN : Hid (∀ z ∈ pmI c, In64 z) := Lib.hid (by
      have h1 := pmI_or hr
      have h2 := rtI_F hr
      unfold pmI
      rw [H0.out.len_eq] at h2 ⊢
      exact in64_li _ (fun x hx => by have := st_lt h2 n0 (Nat.le_refl _) x hx; omega))
    obtain ⟨pm, hpm⟩ : ∃ z, pmI c = z := ⟨_, rfl⟩
    rw [hpm] at HPO HPR0 HIN
    clear hpm hr
    go_wp2_with fail
    refine (HPO.out _ H0.out).mono ?_
    rintro e w9 ⟨g, rfl, how, hn⟩
    obtain ⟨_, _, he, hq⟩ := ZRow.of_owns how (by omega) HIN.out
    cases he
    have HQ := Lib.hid hq
    replace H0 := Lib.hid (H0.out.stay hn)
    replace H1 := Lib.hid (H1.out.stay hn)
    replace HN := Lib.hid (HN.out.trans hn)
    clear how hq hn HPO
    go_wp2_with fail
    refine (HRI.out _ H0.out).mono ?_
    rintro e w' ⟨rfl, hw⟩
    replace hw := hw.symm
    subst hw
    go_wp2_with fail
    refine (HPR0.out _ H0.out).mono ?_
    rintro e w9 ⟨a9, c9, rfl, hq, hn⟩
    replace H0 := Lib.hid (H0.out.stay hn)
    replace H1 := Lib.hid (H1.out.stay hn)
    replace HQ := Lib.hid (HQ.out.stay hn)
    replace HN := Lib.hid (HN.out.trans hn)
    have HQ2 := Lib.hid hq
    clear hn hq
    go_wp2_with fail
    refine (ints_ref _ _ _ _ _ _ _ _ _ HQ.out HQ2.out).mono ?_
    rintro e w9 ⟨rfl, hn⟩
    replace H0 := Lib.hid (H0.out.stay hn)
    replace H1 := Lib.hid (H1.out.stay hn)
    replace HQ := Lib.hid (HQ.out.stay hn)
    replace HQ2 := Lib.hid (HQ2.out.stay hn)
    replace HN := Lib.hid (HN.out.trans hn)
    clear hn
    rw [beq_self_eq_true]
    clear HQ HQ2 HPR0 HRI
    by_cases hp : isO p
    · have HCH := Lib.hid (fun w (h : ZRow w a1 n1 m1 p) => chc_ok a1 n1 m1 p w h (by omega) hp)
      have HRT := Lib.hid (fun w a c (h : ZRow w a n1 c (chI p)) => right_40 a n1 c _ w h)
      rw [rightB_iff.2 (chI_rt hp)] at HRT
      have HPR := Lib.hid (fun w a c (h : ZRow w a n1 c (chI p)) => permr_40 a n1 c _ w h (chI_rt hp) (by omega))
      rw [pm_ch hp] at HPR
      have HIB := Lib.hid (isB_iff.2 hp)
      rw [HIB.out] at HIS HIR
      obtain ⟨ch, hch⟩ : ∃ z, chI p = z := ⟨_, rfl⟩
      rw [hch] at HCH HRT HPR
      clear hch hp
      go_wp2_with fail
      refine (HCH.out _ H1.out).mono ?_
      rintro e w9 ⟨a2, c2, rfl, hq, hn⟩
      replace H0 := Lib.hid (H0.out.stay hn)
      replace H1 := Lib.hid (H1.out.stay hn)
      replace HN := Lib.hid (HN.out.trans hn)
      have HD := Lib.hid hq
      clear hn hq
      go_wp2_with fail
      refine (HIS.out _ H1.out).mono ?_
      rintro e w9 ⟨rfl, hn⟩
      replace H0 := Lib.hid (H0.out.stay hn)
      replace H1 := Lib.hid (H1.out.stay hn)
      replace HD := Lib.hid (HD.out.stay hn)
      replace HN := Lib.hid (HN.out.trans hn)
      clear hn
      go_wp2_with fail
      refine (HIR.out _ H1.out).mono ?_
      rintro e w' ⟨rfl, hw⟩
      replace hw := hw.symm
      subst hw
      go_wp2_with fail
      refine (HIR.out _ H1.out).mono ?_
      rintro e w' ⟨rfl, hw⟩
      replace hw := hw.symm
      subst hw
      go_wp2_with fail
      refine (HRT.out _ _ _ HD.out).mono ?_
      rintro e w' ⟨rfl, hw⟩
      replace hw := hw.symm
      subst hw
      go_wp2_with fail
      refine (HPR.out _ _ _ HD.out).mono ?_
      rintro e w9 ⟨a3, c3, rfl, hq, hn⟩
      replace H0 := Lib.hid (H0.out.stay hn)
      replace H1 := Lib.hid (H1.out.stay hn)
      replace HD := Lib.hid (HD.out.stay hn)
      replace HN := Lib.hid (HN.out.trans hn)
      have HE := Lib.hid hq
      clear hn hq
      go_wp2_with fail
      refine (ints_ref _ _ _ _ _ _ _ _ _ HE.out H1.out).mono ?_
      rintro e w9 ⟨rfl, hn⟩
      replace H0 := Lib.hid (H0.out.stay hn)
      replace H1 := Lib.hid (H1.out.stay hn)
      replace HD := Lib.hid (HD.out.stay hn)
      replace HE := Lib.hid (HE.out.stay hn)
      replace HN := Lib.hid (HN.out.trans hn)
      clear hn
      rw [beq_self_eq_true]
      go_wp2
      go_ret
      exact ⟨rfl, HN.out⟩
    · have HCH := Lib.hid (fun w (h : ZRow w a1 n1 m1 p) => chc_bad a1 n1 m1 p w h (by omega) hp)
      have HIB := Lib.hid (isB_no hp)
      rw [HIB.out] at HIS HIR
      clear hp
      go_wp2_with fail
      refine (HCH.out _ H1.out).mono ?_
      rintro e w9 ⟨rfl, hn⟩
      replace H0 := Lib.hid (H0.out.stay hn)
      replace H1 := Lib.hid (H1.out.stay hn)
      replace HN := Lib.hid (HN.out.trans hn)
      clear hn
      go_wp2_with fail
      refine (HIS.out _ H1.out).mono ?_
      rintro e w9 ⟨rfl, hn⟩
      replace H0 := Lib.hid (H0.out.stay hn)
      replace H1 := Lib.hid (H1.out.stay hn)
      replace HN := Lib.hid (HN.out.trans hn)
      clear hn
      go_wp2_with fail
      refine (HIR.out _ H1.out).mono ?_
      rintro e w' ⟨rfl, hw⟩
      replace hw := hw.symm
      subst hw
      go_wp2_with fail
      refine (HIR.out _ H1.out).mono ?_
      rintro e w' ⟨rfl, hw⟩
      replace hw := hw.symm
      subst hw
      go_wp2
      go_ret
      exact ⟨rfl, HN.out⟩
  · have HPO := Lib.hid (fun w (h : ZRow w a0 n0 m0 c) => perm_bad a0 n0 m0 c w h hr)
    have HRB : Hid (rightB c = false) := Lib.hid (by rw [← Bool.not_eq_true, rightB_iff]; exact hr)
    rw [HRB.out] at HRI
    clear hr
    go_wp2_with fail
    refine (HPO.out _ H0.out).mono ?_
    rintro e w9 ⟨rfl, hn⟩
    replace H0 := Lib.hid (H0.out.stay hn)
    replace H1 := Lib.hid (H1.out.stay hn)
    replace HN := Lib.hid (HN.out.trans hn)
    clear hn
    go_wp2_with fail
    refine (HRI.out _ H0.out).mono ?_
    rintro e w' ⟨rfl, hw⟩
    replace hw := hw.symm
    subst hw
    by_cases hp : isO p
    · have HCH := Lib.hid (fun w (h : ZRow w a1 n1 m1 p) => chc_ok a1 n1 m1 p w h (by omega) hp)
      have HRT := Lib.hid (fun w a c (h : ZRow w a n1 c (chI p)) => right_40 a n1 c _ w h)
      rw [rightB_iff.2 (chI_rt hp)] at HRT
      have HPR := Lib.hid (fun w a c (h : ZRow w a n1 c (chI p)) => permr_40 a n1 c _ w h (chI_rt hp) (by omega))
      rw [pm_ch hp] at HPR
      have HIB := Lib.hid (isB_iff.2 hp)
      rw [HIB.out] at HIS HIR
      obtain ⟨ch, hch⟩ : ∃ z, chI p = z := ⟨_, rfl⟩
      rw [hch] at HCH HRT HPR
      clear hch hp
      go_wp2_with fail
      refine (HCH.out _ H1.out).mono ?_
      rintro e w9 ⟨a2, c2, rfl, hq, hn⟩
      replace H0 := Lib.hid (H0.out.stay hn)
      replace H1 := Lib.hid (H1.out.stay hn)
      replace HN := Lib.hid (HN.out.trans hn)
      have HD := Lib.hid hq
      clear hn hq
      go_wp2_with fail
      refine (HIS.out _ H1.out).mono ?_
      rintro e w9 ⟨rfl, hn⟩
      replace H0 := Lib.hid (H0.out.stay hn)
      replace H1 := Lib.hid (H1.out.stay hn)
      replace HD := Lib.hid (HD.out.stay hn)
      replace HN := Lib.hid (HN.out.trans hn)
      clear hn
      go_wp2_with fail
      refine (HIR.out _ H1.out).mono ?_
      rintro e w' ⟨rfl, hw⟩
      replace hw := hw.symm
      subst hw
      go_wp2_with fail
      refine (HIR.out _ H1.out).mono ?_
      rintro e w' ⟨rfl, hw⟩
      replace hw := hw.symm
      subst hw
      go_wp2_with fail
      refine (HRT.out _ _ _ HD.out).mono ?_
      rintro e w' ⟨rfl, hw⟩
      replace hw := hw.symm
      subst hw
      go_wp2_with fail
      refine (HPR.out _ _ _ HD.out).mono ?_
      rintro e w9 ⟨a3, c3, rfl, hq, hn⟩
      replace H0 := Lib.hid (H0.out.stay hn)
      replace H1 := Lib.hid (H1.out.stay hn)
      replace HD := Lib.hid (HD.out.stay hn)
      replace HN := Lib.hid (HN.out.trans hn)
      have HE := Lib.hid hq
      clear hn hq
      go_wp2_with fail
      refine (ints_ref _ _ _ _ _ _ _ _ _ HE.out H1.out).mono ?_
      rintro e w9 ⟨rfl, hn⟩
      replace H0 := Lib.hid (H0.out.stay hn)
      replace H1 := Lib.hid (H1.out.stay hn)
      replace HD := Lib.hid (HD.out.stay hn)
      replace HE := Lib.hid (HE.out.stay hn)
      replace HN := Lib.hid (HN.out.trans hn)
      clear hn
      rw [beq_self_eq_true]
      go_wp2
      go_ret
      exact ⟨rfl, HN.out⟩
    · have HCH := Lib.hid (fun w (h : ZRow w a1 n1 m1 p) => chc_bad a1 n1 m1 p w h (by omega) hp)
      have HIB := Lib.hid (isB_no hp)
      rw [HIB.out] at HIS HIR
      clear hp
      go_wp2_with fail
      refine (HCH.out _ H1.out).mono ?_
      rintro e w9 ⟨rfl, hn⟩
      replace H0 := Lib.hid (H0.out.stay hn)
      replace H1 := Lib.hid (H1.out.stay hn)
      replace HN := Lib.hid (HN.out.trans hn)
      clear hn
      go_wp2_with fail
      refine (HIS.out _ H1.out).mono ?_
      rintro e w9 ⟨rfl, hn⟩
      replace H0 := Lib.hid (H0.out.stay hn)
      replace H1 := Lib.hid (H1.out.stay hn)
      replace HN := Lib.hid (HN.out.trans hn)
      clear hn
      go_wp2_with fail
      refine (HIR.out _ H1.out).mono ?_
      rintro e w' ⟨rfl, hw⟩
      replace hw := hw.symm
      subst hw
      go_wp2_with fail
      refine (HIR.out _ H1.out).mono ?_
      rintro e w' ⟨rfl, hw⟩
      replace hw := hw.symm
      subst hw
      go_wp2
      go_ret
      exact ⟨rfl, HN.out⟩
set_option maxRecDepth 100000 in
set_option maxHeartbeats 4000000 in
theorem ShuffleOnly_walk (W : World) (a0 : Option Addr) (n0 m0 : Nat) (z0 : List Int) (w0 : IRow .i64 W a0 n0 m0 z0) (r0 : m0 * 8 ≤ 140737488351232) :
    Calls Try.prog 4 #[.slice a0 n0 m0] W fun e w' => e = .returned (.bool true) ∧ Below W.heap.size W w' := by
  obtain ⟨c, hc⟩ := w0.ints r0
  have H0 := Lib.hid hc
  clear w0 r0 hc
  have HA := Lib.hid awake40
  go_enter Try.func4, Try.ntmps4
  go_wp2_with fail
  refine (HA.out _).mono ?_
  rintro e w9 ⟨rfl, hn⟩
  replace H0 := Lib.hid (H0.out.stay hn)
  have HN := Lib.hid hn
  clear hn HA
  by_cases hs0 : (60 : Int) < (n0 : Int)
  · go_wp2
    go_ret
    exact ⟨rfl, HN.out⟩
  have HRI := Lib.hid (fun w (h : ZRow w a0 n0 m0 c) => right_40 a0 n0 m0 c w h)
  by_cases hr : rtI c
  · have HPR := Lib.hid (fun w (h : ZRow w a0 n0 m0 c) => permr_40 a0 n0 m0 c w h hr (by omega))
    have HRB := Lib.hid (rightB_iff.2 hr)
    rw [HRB.out] at HRI
    have HCH := Lib.hid (fun w a k (h : ZRow w a n0 k (pmI c)) => chc_ok a n0 k _ w h (by omega) (pmI_or hr))
    rw [ch_pm hr] at HCH
    obtain ⟨pm, hpm⟩ : ∃ z, pmI c = z := ⟨_, rfl⟩
    rw [hpm] at HPR HCH
    clear hpm hr
    go_wp2_with fail
    refine (HRI.out _ H0.out).mono ?_
    rintro e w' ⟨rfl, hw⟩
    replace hw := hw.symm
    subst hw
    go_wp2_with fail
    refine (HPR.out _ H0.out).mono ?_
    rintro e w9 ⟨a9, c9, rfl, hq, hn⟩
    replace H0 := Lib.hid (H0.out.stay hn)
    replace HN := Lib.hid (HN.out.trans hn)
    have HQ := Lib.hid hq
    clear hn hq
    go_wp2_with fail
    refine (HCH.out _ _ _ HQ.out).mono ?_
    rintro e w9 ⟨a8, c8, rfl, hq, hn⟩
    replace H0 := Lib.hid (H0.out.stay hn)
    replace HQ := Lib.hid (HQ.out.stay hn)
    replace HN := Lib.hid (HN.out.trans hn)
    have HD := Lib.hid hq
    clear hn hq
    go_wp2_with fail
    refine (ints_ref _ _ _ _ _ _ _ _ _ HD.out H0.out).mono ?_
    rintro e w9 ⟨rfl, hn⟩
    replace H0 := Lib.hid (H0.out.stay hn)
    replace HQ := Lib.hid (HQ.out.stay hn)
    replace HD := Lib.hid (HD.out.stay hn)
    replace HN := Lib.hid (HN.out.trans hn)
    clear hn
    rw [beq_self_eq_true]
    go_wp2
    go_ret
    exact ⟨rfl, HN.out⟩
  · have HRB : Hid (rightB c = false) := Lib.hid (by rw [← Bool.not_eq_true, rightB_iff]; exact hr)
    rw [HRB.out] at HRI
    clear hr
    go_wp2_with fail
    refine (HRI.out _ H0.out).mono ?_
    rintro e w' ⟨rfl, hw⟩
    replace hw := hw.symm
    subst hw
    go_wp2
    go_ret
    exact ⟨rfl, HN.out⟩
end Go.Proofs.Ytopepchfaomdoaa
