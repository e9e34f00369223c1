/- subset: the example; the law SubsetOnly. -/
import Derived.Test.YtaajphopnmdmcaaSubC
namespace Go.Proofs.Ytaajphopnmdmcaa
open Go Go.RowKit Go.Bv
set_option linter.unusedVariables false
set_option maxRecDepth 100000 in
set_option maxHeartbeats 2000000 in
theorem awake41 (w : World) : Calls Try.prog 8 #[] w fun e w' => e = .returned (.bool true) ∧ New w w' := by
  have hrp : rp2 3 [2, 0] := by
    refine ⟨by decide, fun i hi => ?_⟩
    match i, hi with
    | 0, _ => decide
    | 1, _ => decide
  have hpk : pkI [2, 0] = [2, 1] := by decide +kernel
  obtain ⟨_, _, he, hz⟩ := ZRow.of_owns (l := [2, 0]) (ow_made w w.heap.size 3 #[.int .i64 2, .int .i64 0] 2 _ (Nat.le_refl _) (by omega) rfl rfl) (by omega) (by intro z hz; simp at hz; unfold In64; omega)
  cases he
  have hpc := pick_ok 3 (by omega) _ _ _ _ _ hz hrp
  rw [hpk] at hpc
  have HPC := Lib.hid hpc
  clear hrp hpk hz hpc
  go_enter Try.func8, Try.ntmps8
  go_wp2_with fail
  refine (HPC.out).mono ?_
  rintro e w9 ⟨a', c', rfl, hq, hn⟩
  have HN := Lib.hid (((New.refl w).alloc (.cells #[.int .i64 2, .int .i64 0] 3)).trans hn)
  obtain ⟨b, off, rfl, hc⟩ := hq.addr (by omega)
  have c0 := hc 0 (by omega)
  have c1 := hc 1 (by omega)
  rw [Nat.add_zero] at c0
  rw [show ([2, 1] : List Int).getD 0 0 = 2 from rfl] at c0
  rw [show ([2, 1] : List Int).getD 1 0 = 1 from rfl] at c1
  clear hn hq hc HPC
  go_wp2
  go_ret
  exact ⟨rfl, HN.out⟩
set_option maxRecDepth 100000 in
set_option maxHeartbeats 4000000 in
theorem SubsetOnly_walk (W : World) (a0 : Int) (w0 : (Lit.int .i64 a0).wf = true) (a1 : Option Addr) (n1 m1 : Nat) (z1 : List Int) (w1 : IRow .i64 W a1 n1 m1 z1) (r1 : m1 * 8 ≤ 140737488351232) :
    Calls Try.prog 4 #[.int .i64 a0, .slice a1 n1 m1] W fun e w' => e = .returned (.bool true) ∧ Below W.heap.size W w' := by
  obtain ⟨c, hc⟩ := w1.ints r1
  have H1 := Lib.hid hc
  have HL := Lib.hid hc.len_eq
  have hmo := hc.most
  have hn0 := wfi64 w0
  clear w0 w1 r1 hc
  have HA := Lib.hid awake41
  have HCT := Lib.hid (fun w => count_41 a0 (n1 : Int) w)
  go_enter Try.func4, Try.ntmps4
  go_wp2_with fail
  refine (HA.out _).mono ?_
  rintro e w9 ⟨rfl, hn⟩
  replace H1 := Lib.hid (H1.out.stay hn)
  have HN := Lib.hid hn
  clear hn HA
  by_cases hs0 : (60 : Int) < a0
  · go_wp2
    go_ret
    exact ⟨rfl, HN.out⟩
  by_cases hsz : a0 < 0 ∨ 256 < a0 ∨ a0 < (n1 : Int)
  · have hz : szE a0 (n1 : Int) = 1 := if_pos hsz
    rw [hz] at HCT
    clear hz hsz
    go_wp2_with fail
    refine (HCT.out _).mono ?_
    rintro e w' ⟨rfl, hw⟩
    replace hw := hw.symm
    subst hw
    go_wp2
    go_ret
    exact ⟨rfl, HN.out⟩
  have hz : szE a0 (n1 : Int) = 0 := if_neg hsz
  rw [hz] at HCT
  obtain ⟨N, rfl⟩ : ∃ N : Nat, a0 = (N : Int) := ⟨a0.toNat, by omega⟩
  have hNn : n1 ≤ N := by omega
  have hN6 : N ≤ 60 := by omega
  clear hz hsz
  have HRI := Lib.hid (fun w (h : ZRow w a1 n1 m1 c) => right_41 (N : Int) ⟨by omega, by omega⟩ a1 n1 m1 c w h (by omega))
  by_cases hr : r2B (N : Int) c n1 = true
  · have hrp : rp2 N c := ⟨by rw [HL.out]; exact hNn, fun i hi => r2B_iff.1 hr i (by rw [HL.out] at hi; exact hi)⟩
    have HPR := Lib.hid (fun w (h : ZRow w a1 n1 m1 c) => pickr_41 N (by omega) a1 n1 m1 c w h hrp)
    rw [hr] at HRI
    have HCH := Lib.hid (fun w a k (h : ZRow w a n1 k (pkI c)) => chc_41 N (by omega) a n1 k c w h hrp HL.out)
    obtain ⟨pk, hpk⟩ : ∃ z, pkI c = z := ⟨_, rfl⟩
    rw [hpk] at HPR HCH
    clear hpk hr hrp
    go_wp2_with fail
    refine (HCT.out _).mono ?_
    rintro e w' ⟨rfl, hw⟩
    replace hw := hw.symm
    subst hw
    go_wp2_with fail
    refine (HRI.out _ H1.out).mono ?_
    rintro e w' ⟨rfl, hw⟩
    replace hw := hw.symm
    subst hw
    go_wp2_with fail
    refine (HPR.out _ H1.out).mono ?_
    rintro e w9 ⟨a9, c9, rfl, hq, hn⟩
    replace H1 := Lib.hid (H1.out.stay hn)
    replace HN := Lib.hid (HN.out.trans hn)
    have HQ := Lib.hid hq
    clear hn hq
    go_wp2_with fail
    refine (HCH.out _ _ _ HQ.out).mono ?_
    rintro e w9 ⟨a8, c8, rfl, hq, hn⟩
    replace H1 := Lib.hid (H1.out.stay hn)
    replace HQ := Lib.hid (HQ.out.stay hn)
    replace HN := Lib.hid (HN.out.trans hn)
    have HD := Lib.hid hq
    clear hn hq
    go_wp2_with fail
    refine (ints_ref _ _ _ _ _ _ _ _ _ HD.out H1.out).mono ?_
    rintro e w9 ⟨rfl, hn⟩
    replace H1 := Lib.hid (H1.out.stay hn)
    replace HQ := Lib.hid (HQ.out.stay hn)
    replace HD := Lib.hid (HD.out.stay hn)
    replace HN := Lib.hid (HN.out.trans hn)
    clear hn
    rw [beq_self_eq_true]
    go_wp2
    go_ret
    exact ⟨rfl, HN.out⟩
  · have hrf : r2B (N : Int) c n1 = false := by rw [← Bool.not_eq_true]; exact hr
    rw [hrf] at HRI
    clear hr hrf
    go_wp2_with fail
    refine (HCT.out _).mono ?_
    rintro e w' ⟨rfl, hw⟩
    replace hw := hw.symm
    subst hw
    go_wp2_with fail
    refine (HRI.out _ H1.out).mono ?_
    rintro e w' ⟨rfl, hw⟩
    replace hw := hw.symm
    subst hw
    go_wp2
    go_ret
    exact ⟨rfl, HN.out⟩
end Go.Proofs.Ytaajphopnmdmcaa
