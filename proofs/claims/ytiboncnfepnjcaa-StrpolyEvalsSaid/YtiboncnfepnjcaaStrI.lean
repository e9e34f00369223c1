/- The law StrpolyEvals. -/
import Derived.Test.YtiboncnfepnjcaaStrH
namespace Go.Proofs.Ytiboncnfepnjcaa
open Go.RowKit Go.Bv
set_option linter.unusedVariables false
set_option maxRecDepth 100000 in
set_option maxHeartbeats 4000000 in
theorem StrpolyEvals_walk (W : World) (a0 : Int) (w0 : (Lit.int .u64 a0).wf = true) (a1 : Option Addr) (n1 m1 : Nat) (z1 : List Int) (w1 : IRow .u8 W a1 n1 m1 z1) (r1 : m1 * 1 ≤ 140737488351232) (a2 : Int) (w2 : (Lit.int .u64 a2).wf = true) (a3 : Int) (w3 : (Lit.int .u64 a3).wf = true) :
    Calls Try.prog 12 #[.int .u64 a0, .slice a1 n1 m1, .int .u64 a2, .int .u64 a3] W fun e w' => e = .returned (.bool true) ∧ Below W.heap.size W w' := by
  obtain ⟨x, rfl⟩ := ex64 a0 (by simp [Lit.wf, IntKind.min, IntKind.max, IntKind.signed, IntKind.bits] at w0; omega)
  obtain ⟨h, rfl⟩ := ex64 a2 (by simp [Lit.wf, IntKind.min, IntKind.max, IntKind.signed, IntKind.bits] at w2; omega)
  obtain ⟨y, rfl⟩ := ex64 a3 (by simp [Lit.wf, IntKind.min, IntKind.max, IntKind.signed, IntKind.bits] at w3; omega)
  obtain ⟨l, hl⟩ := w1.bytes r1
  have H1 := Lib.hid hl
  clear w0 w1 w2 w3 r1 hl
  have HA := Lib.hid awake25
  have HE := Lib.hid (fun w (h : BRow w a1 n1 m1 l) => seval_any x a1 n1 m1 l w h)
  have HR := Lib.hid (fun w (h : BRow w a1 n1 m1 l) => reval25_q x a1 n1 m1 l w h)
  obtain ⟨ev, hev⟩ : ∃ z, seV x l = z := ⟨_, rfl⟩
  obtain ⟨ee, hee⟩ : ∃ z, seE x n1 = z := ⟨_, rfl⟩
  rw [hev, hee] at HE HR
  clear hev hee
  go_enter Try.func12, Try.ntmps12
  go_wp2_with fail
  refine (HA.out _).mono ?_
  rintro e w9 ⟨rfl, hn⟩
  replace H1 := Lib.hid (H1.out.stay hn)
  have HN := Lib.hid hn
  clear hn HA
  by_cases hs1 : (400 : Int) < (n1 : Int)
  · by_cases hs2 : (n1 : Int) ≤ 4096
    · go_wp2
      go_ret
      exact ⟨rfl, HN.out⟩
    · skip
      by_cases ha : x.toNat < PP
      · by_cases hh : h.toNat < PP
        · by_cases hy : y.toNat < PP
          · skip
            have HAP := Lib.hid (fun w => sapp_ok x h y ha hh hy w)
            obtain ⟨r, hr⟩ : ∃ z, mp (h.toNat * x.toNat + y.toNat) = z := ⟨_, rfl⟩
            have HGO := Lib.hid (fun w => goes_q x h y w)
            rw [hr] at HAP HGO
            clear hr
            have gx : decide (2305843009213693951 ≤ W64 x) = false := decide_eq_false (by unfold PP at ha; unfold W64; omega)
            have gh : decide (2305843009213693951 ≤ W64 h) = false := decide_eq_false (by unfold PP at hh; unfold W64; omega)
            have gy : decide (2305843009213693951 ≤ W64 y) = false := decide_eq_false (by unfold PP at hy; unfold W64; omega)
            clear ha hh hy
            go_wp2_with fail
            refine (HE.out _ H1.out).mono ?_
            rintro e w9 ⟨rfl, hn⟩
            replace H1 := Lib.hid (H1.out.stay hn)
            replace HN := Lib.hid (HN.out.trans hn)
            clear hn
            go_wp2_with fail
            refine (HR.out _ H1.out).mono ?_
            rintro e w9 ⟨rfl, hn⟩
            replace HN := Lib.hid (HN.out.trans hn)
            clear hn
            go_wp2_with fail
            refine (HAP.out _).mono ?_
            rintro e w9 ⟨rfl, hn⟩
            replace HN := Lib.hid (HN.out.trans hn)
            clear hn
            go_wp2_with fail
            refine (HGO.out _).mono ?_
            rintro e w8 ⟨rfl, hw⟩
            replace hw := hw.symm
            subst hw
            go_wp2
            go_ret
            exact ⟨rfl, HN.out⟩
          · have hb : ¬ (x.toNat < PP ∧ h.toNat < PP ∧ y.toNat < PP) := fun hc => hy hc.2.2
            have HAP := Lib.hid (fun w => sapp_bad x h y hb w)
            have gx : decide (2305843009213693951 ≤ W64 x) = false := decide_eq_false (by unfold PP at ha; unfold W64; omega)
            have gh : decide (2305843009213693951 ≤ W64 h) = false := decide_eq_false (by unfold PP at hh; unfold W64; omega)
            have gy : decide (2305843009213693951 ≤ W64 y) = true := decide_eq_true (by unfold PP at hy; unfold W64; omega)
            clear ha hh hy
            clear hb 
            go_wp2_with fail
            refine (HE.out _ H1.out).mono ?_
            rintro e w9 ⟨rfl, hn⟩
            replace H1 := Lib.hid (H1.out.stay hn)
            replace HN := Lib.hid (HN.out.trans hn)
            clear hn
            go_wp2_with fail
            refine (HR.out _ H1.out).mono ?_
            rintro e w9 ⟨rfl, hn⟩
            replace HN := Lib.hid (HN.out.trans hn)
            clear hn
            go_wp2_with fail
            refine (HAP.out _).mono ?_
            rintro e w9 ⟨rfl, hn⟩
            replace HN := Lib.hid (HN.out.trans hn)
            clear hn
            go_wp2
            go_ret
            exact ⟨rfl, HN.out⟩
        · have hb : ¬ (x.toNat < PP ∧ h.toNat < PP ∧ y.toNat < PP) := fun hc => hh hc.2.1
          have HAP := Lib.hid (fun w => sapp_bad x h y hb w)
          have gx : decide (2305843009213693951 ≤ W64 x) = false := decide_eq_false (by unfold PP at ha; unfold W64; omega)
          have gh : decide (2305843009213693951 ≤ W64 h) = true := decide_eq_true (by unfold PP at hh; unfold W64; omega)
          clear ha hh
          clear hb 
          go_wp2_with fail
          refine (HE.out _ H1.out).mono ?_
          rintro e w9 ⟨rfl, hn⟩
          replace H1 := Lib.hid (H1.out.stay hn)
          replace HN := Lib.hid (HN.out.trans hn)
          clear hn
          go_wp2_with fail
          refine (HR.out _ H1.out).mono ?_
          rintro e w9 ⟨rfl, hn⟩
          replace HN := Lib.hid (HN.out.trans hn)
          clear hn
          go_wp2_with fail
          refine (HAP.out _).mono ?_
          rintro e w9 ⟨rfl, hn⟩
          replace HN := Lib.hid (HN.out.trans hn)
          clear hn
          go_wp2
          go_ret
          exact ⟨rfl, HN.out⟩
      · have hb : ¬ (x.toNat < PP ∧ h.toNat < PP ∧ y.toNat < PP) := fun hc => ha hc.1
        have HAP := Lib.hid (fun w => sapp_bad x h y hb w)
        have gx : decide (2305843009213693951 ≤ W64 x) = true := decide_eq_true (by unfold PP at ha; unfold W64; omega)
        clear ha
        clear hb 
        go_wp2_with fail
        refine (HE.out _ H1.out).mono ?_
        rintro e w9 ⟨rfl, hn⟩
        replace H1 := Lib.hid (H1.out.stay hn)
        replace HN := Lib.hid (HN.out.trans hn)
        clear hn
        go_wp2_with fail
        refine (HR.out _ H1.out).mono ?_
        rintro e w9 ⟨rfl, hn⟩
        replace HN := Lib.hid (HN.out.trans hn)
        clear hn
        go_wp2_with fail
        refine (HAP.out _).mono ?_
        rintro e w9 ⟨rfl, hn⟩
        replace HN := Lib.hid (HN.out.trans hn)
        clear hn
        go_wp2
        go_ret
        exact ⟨rfl, HN.out⟩
  · skip
    by_cases ha : x.toNat < PP
    · by_cases hh : h.toNat < PP
      · by_cases hy : y.toNat < PP
        · skip
          have HAP := Lib.hid (fun w => sapp_ok x h y ha hh hy w)
          obtain ⟨r, hr⟩ : ∃ z, mp (h.toNat * x.toNat + y.toNat) = z := ⟨_, rfl⟩
          have HGO := Lib.hid (fun w => goes_q x h y w)
          rw [hr] at HAP HGO
          clear hr
          have gx : decide (2305843009213693951 ≤ W64 x) = false := decide_eq_false (by unfold PP at ha; unfold W64; omega)
          have gh : decide (2305843009213693951 ≤ W64 h) = false := decide_eq_false (by unfold PP at hh; unfold W64; omega)
          have gy : decide (2305843009213693951 ≤ W64 y) = false := decide_eq_false (by unfold PP at hy; unfold W64; omega)
          clear ha hh hy
          go_wp2_with fail
          refine (HE.out _ H1.out).mono ?_
          rintro e w9 ⟨rfl, hn⟩
          replace H1 := Lib.hid (H1.out.stay hn)
          replace HN := Lib.hid (HN.out.trans hn)
          clear hn
          go_wp2_with fail
          refine (HR.out _ H1.out).mono ?_
          rintro e w9 ⟨rfl, hn⟩
          replace HN := Lib.hid (HN.out.trans hn)
          clear hn
          go_wp2_with fail
          refine (HAP.out _).mono ?_
          rintro e w9 ⟨rfl, hn⟩
          replace HN := Lib.hid (HN.out.trans hn)
          clear hn
          go_wp2_with fail
          refine (HGO.out _).mono ?_
          rintro e w8 ⟨rfl, hw⟩
          replace hw := hw.symm
          subst hw
          go_wp2
          go_ret
          exact ⟨rfl, HN.out⟩
        · have hb : ¬ (x.toNat < PP ∧ h.toNat < PP ∧ y.toNat < PP) := fun hc => hy hc.2.2
          have HAP := Lib.hid (fun w => sapp_bad x h y hb w)
          have gx : decide (2305843009213693951 ≤ W64 x) = false := decide_eq_false (by unfold PP at ha; unfold W64; omega)
          have gh : decide (2305843009213693951 ≤ W64 h) = false := decide_eq_false (by unfold PP at hh; unfold W64; omega)
          have gy : decide (2305843009213693951 ≤ W64 y) = true := decide_eq_true (by unfold PP at hy; unfold W64; omega)
          clear ha hh hy
          clear hb 
          go_wp2_with fail
          refine (HE.out _ H1.out).mono ?_
          rintro e w9 ⟨rfl, hn⟩
          replace H1 := Lib.hid (H1.out.stay hn)
          replace HN := Lib.hid (HN.out.trans hn)
          clear hn
          go_wp2_with fail
          refine (HR.out _ H1.out).mono ?_
          rintro e w9 ⟨rfl, hn⟩
          replace HN := Lib.hid (HN.out.trans hn)
          clear hn
          go_wp2_with fail
          refine (HAP.out _).mono ?_
          rintro e w9 ⟨rfl, hn⟩
          replace HN := Lib.hid (HN.out.trans hn)
          clear hn
          go_wp2
          go_ret
          exact ⟨rfl, HN.out⟩
      · have hb : ¬ (x.toNat < PP ∧ h.toNat < PP ∧ y.toNat < PP) := fun hc => hh hc.2.1
        have HAP := Lib.hid (fun w => sapp_bad x h y hb w)
        have gx : decide (2305843009213693951 ≤ W64 x) = false := decide_eq_false (by unfold PP at ha; unfold W64; omega)
        have gh : decide (2305843009213693951 ≤ W64 h) = true := decide_eq_true (by unfold PP at hh; unfold W64; omega)
        clear ha hh
        clear hb 
        go_wp2_with fail
        refine (HE.out _ H1.out).mono ?_
        rintro e w9 ⟨rfl, hn⟩
        replace H1 := Lib.hid (H1.out.stay hn)
        replace HN := Lib.hid (HN.out.trans hn)
        clear hn
        go_wp2_with fail
        refine (HR.out _ H1.out).mono ?_
        rintro e w9 ⟨rfl, hn⟩
        replace HN := Lib.hid (HN.out.trans hn)
        clear hn
        go_wp2_with fail
        refine (HAP.out _).mono ?_
        rintro e w9 ⟨rfl, hn⟩
        replace HN := Lib.hid (HN.out.trans hn)
        clear hn
        go_wp2
        go_ret
        exact ⟨rfl, HN.out⟩
    · have hb : ¬ (x.toNat < PP ∧ h.toNat < PP ∧ y.toNat < PP) := fun hc => ha hc.1
      have HAP := Lib.hid (fun w => sapp_bad x h y hb w)
      have gx : decide (2305843009213693951 ≤ W64 x) = true := decide_eq_true (by unfold PP at ha; unfold W64; omega)
      clear ha
      clear hb 
      go_wp2_with fail
      refine (HE.out _ H1.out).mono ?_
      rintro e w9 ⟨rfl, hn⟩
      replace H1 := Lib.hid (H1.out.stay hn)
      replace HN := Lib.hid (HN.out.trans hn)
      clear hn
      go_wp2_with fail
      refine (HR.out _ H1.out).mono ?_
      rintro e w9 ⟨rfl, hn⟩
      replace HN := Lib.hid (HN.out.trans hn)
      clear hn
      go_wp2_with fail
      refine (HAP.out _).mono ?_
      rintro e w9 ⟨rfl, hn⟩
      replace HN := Lib.hid (HN.out.trans hn)
      clear hn
      go_wp2
      go_ret
      exact ⟨rfl, HN.out⟩
end Go.Proofs.Ytiboncnfepnjcaa
