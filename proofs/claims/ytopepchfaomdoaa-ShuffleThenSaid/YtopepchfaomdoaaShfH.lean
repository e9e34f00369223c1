/- The law ShuffleThen. -/
import Derived.Test.YtopepchfaomdoaaShfG
namespace Go.Proofs.Ytopepchfaomdoaa
open Go Go.RowKit Go.Bv
set_option linter.unusedVariables false
theorem thR_no {p q : List Int} (h : ¬ (p.length = q.length ∧ isO p ∧ isO q)) : thR p q = [] := by
  have : thB p q = false := by
    rw [← Bool.not_eq_true]
    intro h2
    unfold thB at h2
    rw [Bool.and_eq_true, Bool.and_eq_true, decide_eq_true_eq, isB_iff, isB_iff] at h2
    exact h h2
  unfold thR; rw [this]; rfl
theorem thR_yes {p q : List Int} (h : p.length = q.length) (hp : isO p) (hq : isO q) : thR p q = thI p q := by
  unfold thR thB
  rw [decide_eq_true h, isB_iff.2 hp, isB_iff.2 hq]; rfl
theorem bkR_no {p : List Int} (h : ¬ isO p) : bkR p = [] := by unfold bkR; rw [isB_no h]; rfl
theorem bkR_yes {p : List Int} (h : isO p) : bkR p = bkI p := by unfold bkR; rw [isB_iff.2 h]; rfl
theorem thI_at {p q : List Int} (hp : isO p) (hq : isO q) (hl : p.length = q.length) {j : Nat} (hj : j < p.length) : ∃ x : Nat, q.getD j 0 = (x : Int) ∧ x < p.length ∧ (thI p q).getD j 0 = p.getD x 0 := by
  have h1 := hq.1 j (by omega)
  refine ⟨fnI q j, by unfold fnI; omega, by unfold fnI; omega, ?_⟩
  have h2 := hp.1 (fnI q j) (by unfold fnI; omega)
  unfold thI
  rw [liI_get _ hj]
  show ((fnI p (fnI q j) : Nat) : Int) = _
  have e : fnI p (fnI q j) = (p.getD (fnI q j) 0).toNat := rfl
  rw [e]; omega
set_option maxRecDepth 100000 in
set_option maxHeartbeats 4000000 in
theorem ShuffleThen_walk (W : World) (a0 : Option Addr) (n0 m0 : Nat) (z0 : List Int) (w0 : IRow .i64 W a0 n0 m0 z0) (r0 : m0 * 8 ≤ 140737488351232) (a1 : Option Addr) (n1 m1 : Nat) (z1 : List Int) (w1 : IRow .i64 W a1 n1 m1 z1) (r1 : m1 * 8 ≤ 140737488351232) :
    Calls Try.prog 5 #[.slice a0 n0 m0, .slice a1 n1 m1] W fun e w' => e = .returned (.bool true) ∧ Below W.heap.size W w' := by
  obtain ⟨p, hc⟩ := w0.ints r0
  obtain ⟨q, hp⟩ := w1.ints r1
  have H0 := Lib.hid hc
  have H1 := Lib.hid hp
  have HL0 := Lib.hid hc.len_eq
  have HL1 := Lib.hid hp.len_eq
  clear w0 w1 r0 r1 hc hp
  have HA := Lib.hid awake40
  go_enter Try.func5, Try.ntmps5
  go_wp2_with fail
  refine (HA.out _).mono ?_
  rintro e w9 ⟨rfl, hn⟩
  replace H0 := Lib.hid (H0.out.stay hn)
  replace H1 := Lib.hid (H1.out.stay hn)
  have HN := Lib.hid hn
  clear hn HA
  by_cases hs0 : (60 : Int) < (n0 : Int)
  · go_wp2
    go_ret
    exact ⟨rfl, HN.out⟩
  by_cases hs1 : (60 : Int) < (n1 : Int)
  · go_wp2
    go_ret
    exact ⟨rfl, HN.out⟩
  have HT := Lib.hid (fun w (h : ZRow w a0 n0 m0 p) (h' : ZRow w a1 n1 m1 q) => then_40 a0 a1 n0 m0 n1 m1 p q w h h' (by omega) (by omega))
  have HB := Lib.hid (fun w (h : ZRow w a0 n0 m0 p) => back_40 a0 n0 m0 p w h (by omega))
  have HIP := Lib.hid (fun w (h : ZRow w a0 n0 m0 p) => isr_40 a0 n0 m0 p w h (by omega))
  have HIQ := Lib.hid (fun w (h : ZRow w a1 n1 m1 q) => isr_40 a1 n1 m1 q w h (by omega))
  by_cases ho : isO p
  · have HPB := Lib.hid (isB_iff.2 ho)
    rw [HPB.out] at HIP
    rw [bkR_yes ho] at HB
    have HTB := Lib.hid (fun w a c (h : ZRow w a0 n0 m0 p) (h' : ZRow w a (bkI p).length c (bkI p)) => then_40 a0 a n0 m0 _ c p _ w h h' (by omega) (by have := bkI_len p; have := HL0.out; omega))
    have hbl : (bkI p).length = n0 := by rw [bkI_len, HL0.out]
    have htb : thR p (bkI p) = liI (fun x => x) n0 := by rw [thR_yes (bkI_len p).symm ho (bkI_or ho), th_bk ho, HL0.out]
    rw [htb, liI_len, hbl] at HTB
    rw [hbl] at HB
    have HRW := Lib.hid (fun w => row_ref40 n0 w (by omega))
    have HIN : Hid (∀ z ∈ liI (fun x => x) n0, In64 z) := Lib.hid (in64_li _ (fun x hx => by omega))
    obtain ⟨bk, hbk⟩ : ∃ z, bkI p = z := ⟨_, rfl⟩
    rw [hbk] at HB HTB
    clear hbl htb hbk
    obtain ⟨rw0, hrw0⟩ : ∃ z, liI (fun x => x) n0 = z := ⟨_, rfl⟩
    rw [hrw0] at HTB HRW HIN
    clear hrw0
    have HTH : Hid (n0 = n1 → isO q → (thR p q).length = n0 ∧ ∀ j, j < n0 → ∃ x : Nat, q.getD j 0 = (x : Int) ∧ x < n0 ∧ (thR p q).getD j 0 = p.getD x 0) := Lib.hid (fun hl hq => by
      have h0 := HL0.out
      have h1 := HL1.out
      have h2 := thR_yes (show p.length = q.length by omega) ho hq
      rw [h2, thI_len]
      refine ⟨h0, fun j hj => ?_⟩
      have := thI_at ho hq (by omega) (show j < p.length by omega)
      rwa [h0] at this)
    have HTN : Hid (¬ (n0 = n1 ∧ isO q) → (thR p q).length = 0) := Lib.hid (fun h => by
      rw [thR_no (fun h3 => h ⟨by have := h3.1; rw [HL0.out, HL1.out] at this; exact this, h3.2.2⟩)]; rfl)
    obtain ⟨t, ht⟩ : ∃ z, thR p q = z := ⟨_, rfl⟩
    rw [ht] at HT HTH HTN
    clear ht ho
    obtain ⟨tn, htn⟩ : ∃ z, t.length = z := ⟨_, rfl⟩
    rw [htn] at HT HTH HTN
    clear htn
    go_wp2_with fail
    refine (HT.out _ H0.out H1.out).mono ?_
    rintro e w9 ⟨at1, ct1, rfl, hq, hn⟩
    replace H0 := Lib.hid (H0.out.stay hn)
    replace H1 := Lib.hid (H1.out.stay hn)
    replace HN := Lib.hid (HN.out.trans hn)
    have HQT := Lib.hid hq
    clear hn hq
    go_wp2_with fail
    refine (HB.out _ H0.out).mono ?_
    rintro e w9 ⟨ab1, cb1, rfl, hq, hn⟩
    replace H0 := Lib.hid (H0.out.stay hn)
    replace H1 := Lib.hid (H1.out.stay hn)
    replace HQT := Lib.hid (HQT.out.stay hn)
    replace HN := Lib.hid (HN.out.trans hn)
    have HQB := Lib.hid hq
    clear hn hq
    go_wp2_with fail
    refine (HIP.out _ H0.out).mono ?_
    rintro e w' ⟨rfl, hw⟩
    replace hw := hw.symm
    subst hw
    go_wp2_with fail
    refine (HTB.out _ _ _ H0.out HQB.out).mono ?_
    rintro e w9 ⟨ar1, cr1, rfl, hq, hn⟩
    replace H0 := Lib.hid (H0.out.stay hn)
    replace H1 := Lib.hid (H1.out.stay hn)
    replace HQT := Lib.hid (HQT.out.stay hn)
    replace HQB := Lib.hid (HQB.out.stay hn)
    replace HN := Lib.hid (HN.out.trans hn)
    have HQR := Lib.hid hq
    clear hn hq
    go_wp2_with fail
    refine (HRW.out _).mono ?_
    rintro e w9 ⟨v, rfl, how, hn⟩
    obtain ⟨aw, cw, rfl, hq⟩ := ZRow.of_owns how (by omega) HIN.out
    replace H0 := Lib.hid (H0.out.stay hn)
    replace H1 := Lib.hid (H1.out.stay hn)
    replace HQT := Lib.hid (HQT.out.stay hn)
    replace HQB := Lib.hid (HQB.out.stay hn)
    replace HQR := Lib.hid (HQR.out.stay hn)
    replace HN := Lib.hid (HN.out.trans hn)
    have HQW := Lib.hid hq
    clear how hq hn
    go_wp2_with fail
    refine (ints_ref _ _ _ _ _ _ _ _ _ HQR.out HQW.out).mono ?_
    rintro e w9 ⟨rfl, hn⟩
    replace H0 := Lib.hid (H0.out.stay hn)
    replace H1 := Lib.hid (H1.out.stay hn)
    replace HQT := Lib.hid (HQT.out.stay hn)
    replace HQB := Lib.hid (HQB.out.stay hn)
    replace HQR := Lib.hid (HQR.out.stay hn)
    replace HN := Lib.hid (HN.out.trans hn)
    clear hn
    rw [beq_self_eq_true]
    clear HQR HQW HQB HB HTB HRW HIN HT HIP
    by_cases hl : n0 = n1
    · by_cases hq : isO q
      · obtain ⟨h1, h2⟩ := HTH.out hl hq
        have HIB := Lib.hid (isB_iff.2 hq)
        rw [HIB.out] at HIQ
        have HT2 := Lib.hid h2
        subst h1
        subst hl
        clear h2 HTH HTN hq
        go_wp2_with fail
        refine (HIQ.out _ H1.out).mono ?_
        rintro e w' ⟨rfl, hw⟩
        replace hw := hw.symm
        subst hw
        go_wp2_with fail
        go_loopw [66] (fun iv wr => ∃ k : Nat, k ≤ tn ∧ iv = .int .i64 (k : Int) ∧ New w9 wr) (fun iv _ => tn - (intOf iv).toNat)
        case atStart => exact ⟨0, Nat.zero_le _, rfl, New.refl _⟩
        case round =>
          obtain ⟨k, hk, rfl, hnew⟩ := hrel
          by_cases hlt : (k : Int) < (tn : Int)
          · have hk0 : (0 : Int) ≤ (k : Int) := by omega
            obtain ⟨x, hx1, hx2, hx3⟩ := HT2.out k (by omega)
            obtain ⟨b1, o1, rfl, hc1⟩ := (HQT.out.stay hnew).addr (by omega)
            obtain ⟨b2, o2, rfl, hc2⟩ := (H1.out.stay hnew).addr (by omega)
            obtain ⟨b3, o3, rfl, hc3⟩ := (H0.out.stay hnew).addr (by omega)
            have c1 := hc1 k (by omega)
            have c2 := hc2 k (by omega)
            have c3 := hc3 x hx2
            rw [hx3] at c1
            rw [hx1] at c2
            have hx0 : (0 : Int) ≤ (x : Int) := by omega
            have hxn : (x : Int) < (tn : Int) := by omega
            clear hc1 hc2 hc3 hx1 hx3
            generalize p.getD x 0 = y at c1 c3
            go_wp2
            go_quiet (fail)
            go_wp2
            exact ⟨⟨k + 1, by omega, by go_num, hnew.drewN nq⟩, by simp [intOf]; omega⟩
          · obtain rfl : k = tn := by omega
            go_wp2
            go_ret
            exact ⟨rfl, HN.out.trans hnew⟩
      · have h1 := HTN.out (fun h => hq h.2)
        have HIB := Lib.hid (isB_no hq)
        rw [HIB.out] at HIQ
        subst h1
        subst hl
        clear HTH HTN hq
        go_wp2_with fail
        refine (HIQ.out _ H1.out).mono ?_
        rintro e w' ⟨rfl, hw⟩
        replace hw := hw.symm
        subst hw
        go_wp2
        go_ret
        exact ⟨rfl, HN.out⟩
    · have h1 := HTN.out (fun h => hl h.1)
      have hne : ((n0 : Int) != (n1 : Int)) = true := by rw [bne_iff_ne]; omega
      subst h1
      clear HTH HTN
      go_wp2
      go_ret
      exact ⟨rfl, HN.out⟩
  · have HPB := Lib.hid (isB_no ho)
    rw [HPB.out] at HIP
    rw [bkR_no ho] at HB
    rw [thR_no (fun h => ho h.2.1)] at HT
    rw [List.length_nil] at HB HT
    clear ho
    go_wp2_with fail
    refine (HT.out _ H0.out H1.out).mono ?_
    rintro e w9 ⟨at1, ct1, rfl, _, hn⟩
    replace H0 := Lib.hid (H0.out.stay hn)
    replace H1 := Lib.hid (H1.out.stay hn)
    replace HN := Lib.hid (HN.out.trans hn)
    clear hn
    go_wp2_with fail
    refine (HB.out _ H0.out).mono ?_
    rintro e w9 ⟨ab1, cb1, rfl, _, hn⟩
    replace H0 := Lib.hid (H0.out.stay hn)
    replace H1 := Lib.hid (H1.out.stay hn)
    replace HN := Lib.hid (HN.out.trans hn)
    clear hn
    go_wp2_with fail
    refine (HIP.out _ H0.out).mono ?_
    rintro e w' ⟨rfl, hw⟩
    replace hw := hw.symm
    subst hw
    go_wp2
    go_ret
    exact ⟨rfl, HN.out⟩
end Go.Proofs.Ytopepchfaomdoaa
