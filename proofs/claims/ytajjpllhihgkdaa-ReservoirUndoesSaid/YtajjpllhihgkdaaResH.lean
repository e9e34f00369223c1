/- The law ReservoirUndoes. -/
import Derived.Test.YtajjpllhihgkdaaResG
namespace Go.Proofs.Ytajjpllhihgkdaa
open Go Go.RowKit Go.Bv
set_option linter.unusedVariables false
set_option maxRecDepth 100000 in
set_option maxHeartbeats 8000000 in
theorem ReservoirUndoes_walk (W : World) (a0 : Int) (w0 : (Lit.int .i64 a0).wf = true) (a1 : Int) (w1 : (Lit.int .i64 a1).wf = true) (a2 : Option Addr) (n2 m2 : Nat) (z2 : List Int) (w2 : IRow .i64 W a2 n2 m2 z2) (r2 : m2 * 8 ≤ 140737488351232) (a3 : Option Addr) (n3 m3 : Nat) (z3 : List Int) (w3 : IRow .i64 W a3 n3 m3 z3) (r3 : m3 * 8 ≤ 140737488351232) :
    Calls Try.prog 4 #[.int .i64 a0, .int .i64 a1, .slice a2 n2 m2, .slice a3 n3 m3] W fun e w' => e = .returned (.bool true) ∧ Below W.heap.size W w' := by
  obtain ⟨p, hp⟩ := w2.ints r2
  obtain ⟨d, hd⟩ := w3.ints r3
  have H2 := Lib.hid hp
  have H3 := Lib.hid hd
  have HL2 := Lib.hid hp.len_eq
  have HL3 := Lib.hid hd.len_eq
  clear w2 w3 r2 r3 hp hd
  have hn0 := wfi64 w0
  have hn1 := wfi64 w1
  clear w0 w1
  have HA := Lib.hid awake42
  go_enter Try.func4, Try.ntmps4
  go_wp2_with fail
  refine (HA.out _).mono ?_
  rintro e wA ⟨rfl, hn⟩
  replace H2 := Lib.hid (H2.out.stay hn)
  replace H3 := Lib.hid (H3.out.stay hn)
  have HN := Lib.hid hn
  clear hn HA
  by_cases g0 : 60 < a0 ∧ a0 ≤ 256
  · obtain ⟨ga, gb⟩ := g0
    go_wp2
    go_ret
    exact ⟨rfl, HN.out⟩
  have e0 : ¬ 60 < a0 ∨ (60 < a0 ∧ ¬ a0 ≤ 256) := by omega
  have HCR := Lib.hid (fun w => checkr_42 a0 a1 w)
  by_cases hk : ckE a0 a1 = 0
  case neg =>
    have HU := Lib.hid (fun w => undo_err a0 a1 a2 n2 m2 w hk)
    obtain ⟨z, hz⟩ : ∃ z, ckE a0 a1 = z := ⟨_, rfl⟩
    rw [hz] at HCR HU hk
    have hz2 : (z == 0) = false := by rw [beq_eq_false_iff_ne]; exact hk
    have hz3 : (z != 0) = true := by simpa using hk
    have hz4 : (z == z) = true := by simp
    clear hz
    rcases e0 with e0 | ⟨e0, e0'⟩
    all_goals (
      go_wp2_with fail
      refine (HU.out _).mono ?_
      rintro e w' ⟨rfl, hw⟩
      replace hw := hw.symm
      subst hw
      go_wp2_with fail
      refine (HCR.out _).mono ?_
      rintro e w' ⟨rfl, hw⟩
      replace hw := hw.symm
      subst hw
      go_wp2
      go_ret
      exact ⟨rfl, HN.out⟩)
  have hk2 : 0 ≤ a0 ∧ 0 ≤ a1 ∧ a1 ≤ a0 ∧ a0 ≤ 256 := by
    unfold ckE at hk
    by_cases h1 : a0 < 0 ∨ a1 < 0 ∨ a0 < a1
    · rw [if_pos h1] at hk; omega
    · rw [if_neg h1] at hk
      by_cases h2 : 256 < a0
      · rw [if_pos h2] at hk; omega
      · omega
  have e0' : ¬ 60 < a0 := by omega
  rw [hk] at HCR
  obtain ⟨n, rfl⟩ : ∃ n : Nat, a0 = (n : Int) := ⟨a0.toNat, by omega⟩
  obtain ⟨k, rfl⟩ : ∃ k : Nat, a1 = (k : Int) := ⟨a1.toNat, by omega⟩
  have hkn : k ≤ n := by omega
  have hn256 : n ≤ 256 := by omega
  clear hk g0 e0 hk2
  by_cases hm : n2 = n
  case neg =>
    have HU := Lib.hid (fun w (h : ZRow w a2 n2 m2 p) => undo_bad n k hkn hn256 a2 n2 m2 p w h (fun h2 => hm h2.1))
    have hb : ((n2 : Int) != (n : Int)) = true := by simp; omega
    clear hm
    go_wp2_with fail
    refine (HU.out _ H2.out).mono ?_
    rintro e wN ⟨rfl, hn⟩
    replace H2 := Lib.hid (H2.out.stay hn)
    replace HN := Lib.hid (HN.out.trans hn)
    clear hn
    go_wp2_with fail
    refine (HCR.out _).mono ?_
    rintro e w' ⟨rfl, hw⟩
    replace hw := hw.symm
    subst hw
    go_wp2
    go_ret
    exact ⟨rfl, HN.out⟩
  subst hm
  have hb : ((n2 : Int) != (n2 : Int)) = false := by simp
  have HIS := Lib.hid (fun w (h : ZRow w a2 n2 m2 p) => isr_40 a2 n2 m2 p w h (by omega))
  by_cases hor : isO p
  case neg =>
    have HU := Lib.hid (fun w (h : ZRow w a2 n2 m2 p) => undo_bad n2 k hkn hn256 a2 n2 m2 p w h (fun h2 => hor h2.2))
    rw [isB_no hor] at HIS
    clear hor
    go_wp2_with fail
    refine (HU.out _ H2.out).mono ?_
    rintro e wN ⟨rfl, hn⟩
    replace H2 := Lib.hid (H2.out.stay hn)
    replace HN := Lib.hid (HN.out.trans hn)
    clear hn
    go_wp2_with fail
    refine (HCR.out _).mono ?_
    rintro e w' ⟨rfl, hw⟩
    replace hw := hw.symm
    subst hw
    go_wp2_with fail
    refine (HIS.out _ H2.out).mono ?_
    rintro e w' ⟨rfl, hw⟩
    replace hw := hw.symm
    subst hw
    go_wp2
    go_ret
    exact ⟨rfl, HN.out⟩
  have HU := Lib.hid (fun w (h : ZRow w a2 n2 m2 p) => undo_q n2 k hkn hn256 a2 m2 p w h hor)
  rw [isB_iff.2 hor] at HIS
  obtain ⟨K, hK⟩ : ∃ K, n2 - k = K := ⟨_, rfl⟩
  have hrd := udI_rd hor HL2.out hkn
  have HRI := Lib.hid (fun w a c (h : ZRow w a K c (udI n2 k p)) => right_42 n2 k hkn (by omega) a K c _ w h)
  rw [rdB_iff.2 hrd] at HRI
  have HIF := Lib.hid (fun w a c (h : ZRow w a k c (ufI n2 k p)) => isr_40 a k c _ w h (by omega))
  rw [isB_iff.2 (ufI_or hor HL2.out hkn)] at HIF
  have hon := unF_on (n := n2) (by have := fnI_or hor; rwa [HL2.out] at this) (n2 - k) (by omega)
  rw [show n2 - (n2 - k) = k by omega] at hon
  have HFR := Lib.hid (fun w a c b cb (h1 : ZRow w a k c (ufI n2 k p)) (h2 : ZRow w b K cb (udI n2 k p)) => from_42 k K n2 (by omega) (by omega) a b c cb (unF (fnI p) n2 (n2 - k)) (udI n2 k p) w h1 h2 (fun i hi => hrd.2 i (by omega)) hon.2.2 (fun x hx => by
    by_cases e : x < k
    · have := hon.1 x e; omega
    · rw [hon.2.2 x (by omega) hx]; exact hx))
  have hfp := fr_udI hor HL2.out hkn
  rw [hK] at HU hfp HFR
  rw [show k + K = n2 by omega, hfp] at HFR
  have HR3 := Lib.hid (fun w (h : ZRow w a3 n3 m3 d) => right_42 n2 k hkn (by omega) a3 n3 m3 d w h)
  have hbk : ((k : Int) != (k : Int)) = false := by simp
  have HKK := Lib.hid hK
  clear hor hrd hon hfp hK
  go_wp2_with fail
  refine (HU.out _ H2.out).mono ?_
  rintro e wN ⟨a5, c5, a6, c6, rfl, hz5, hz6, hn⟩
  replace H2 := Lib.hid (H2.out.stay hn)
  replace H3 := Lib.hid (H3.out.stay hn)
  replace HN := Lib.hid (HN.out.trans hn)
  have HQ5 := Lib.hid hz5
  have HQ6 := Lib.hid hz6
  clear hz5 hz6
  clear hn
  go_wp2_with fail
  refine (HCR.out _).mono ?_
  rintro e w' ⟨rfl, hw⟩
  replace hw := hw.symm
  subst hw
  go_wp2_with fail
  refine (HIS.out _ H2.out).mono ?_
  rintro e w' ⟨rfl, hw⟩
  replace hw := hw.symm
  subst hw
  go_wp2_with fail
  refine (HRI.out _ _ _ HQ5.out).mono ?_
  rintro e w' ⟨rfl, hw⟩
  replace hw := hw.symm
  subst hw
  go_wp2_with fail
  refine (HIF.out _ _ _ HQ6.out).mono ?_
  rintro e w' ⟨rfl, hw⟩
  replace hw := hw.symm
  subst hw
  go_wp2_with fail
  refine (HFR.out _ _ _ _ _ HQ6.out HQ5.out).mono ?_
  rintro e wN ⟨a7, c7, rfl, hz7, hn⟩
  replace H2 := Lib.hid (H2.out.stay hn)
  replace H3 := Lib.hid (H3.out.stay hn)
  replace HN := Lib.hid (HN.out.trans hn)
  have HQ7 := Lib.hid hz7
  clear hz7
  clear hn
  go_wp2_with fail
  refine (ints_ref _ _ _ _ _ _ _ _ _ HQ7.out H2.out).mono ?_
  rintro e wN ⟨rfl, hn⟩
  replace H3 := Lib.hid (H3.out.stay hn)
  replace HN := Lib.hid (HN.out.trans hn)
  clear hn
  rw [beq_self_eq_true]
  by_cases hrd : rdI n2 k d
  case neg =>
    rw [rdB_no hrd] at HR3
    clear hrd
    go_wp2_with fail
    refine (HR3.out _ H3.out).mono ?_
    rintro e w' ⟨rfl, hw⟩
    replace hw := hw.symm
    subst hw
    go_wp2
    go_ret
    exact ⟨rfl, HN.out⟩
  have HOR := Lib.hid (fun w (h : ZRow w a3 n3 m3 d) => orderr_42 n2 k hkn hn256 a3 n3 m3 d w h hrd)
  have hu2 := fun w a c (h : ZRow w a n2 c (odI n2 k d)) => undo_q n2 k hkn hn256 a c _ w h (odI_or hkn hrd)
  rw [ud_od hkn hrd, uf_od hkn hrd, HKK.out] at hu2
  have HU2 := Lib.hid hu2
  have hn3 : n3 = K := by rw [← HL3.out, ← HKK.out]; exact hrd.1
  rw [rdB_iff.2 hrd] at HR3
  have HRW := Lib.hid (fun w => row_ref40 k w (by omega))
  clear hrd hu2
  subst hn3
  go_wp2_with fail
  refine (HR3.out _ H3.out).mono ?_
  rintro e w' ⟨rfl, hw⟩
  replace hw := hw.symm
  subst hw
  go_wp2_with fail
  refine (HOR.out _ H3.out).mono ?_
  rintro e wN ⟨a8, c8, rfl, hz8, hn⟩
  replace H3 := Lib.hid (H3.out.stay hn)
  replace HN := Lib.hid (HN.out.trans hn)
  have HQ8 := Lib.hid hz8
  clear hz8
  clear hn
  go_wp2_with fail
  refine (HU2.out _ _ _ HQ8.out).mono ?_
  rintro e wN ⟨b5, e5, b6, e6, rfl, hz5, hz6, hn⟩
  replace H3 := Lib.hid (H3.out.stay hn)
  replace HN := Lib.hid (HN.out.trans hn)
  have HP5 := Lib.hid hz5
  have HP6 := Lib.hid hz6
  clear hz5 hz6
  clear hn
  go_wp2_with fail
  refine (ints_ref _ _ _ _ _ _ _ _ _ HP5.out H3.out).mono ?_
  rintro e wN ⟨rfl, hn⟩
  replace HP6 := Lib.hid (HP6.out.stay hn)
  replace HN := Lib.hid (HN.out.trans hn)
  clear hn
  rw [beq_self_eq_true]
  go_wp2_with fail
  refine (HRW.out _).mono ?_
  rintro e wN ⟨vr, rfl, how, hn⟩
  replace HP6 := Lib.hid (HP6.out.stay hn)
  replace HN := Lib.hid (HN.out.trans hn)
  obtain ⟨_, _, rfl, hz9⟩ := ZRow.of_owns how (by omega) (in64_li _ (fun x hx => by omega))
  have HP9 := Lib.hid hz9
  clear hz9 how
  clear hn
  go_wp2_with fail
  refine (ints_ref _ _ _ _ _ _ _ _ _ HP6.out HP9.out).mono ?_
  rintro e wN ⟨rfl, hn⟩
  replace HN := Lib.hid (HN.out.trans hn)
  clear hn
  rw [beq_self_eq_true]
  go_wp2
  go_ret
  exact ⟨rfl, HN.out⟩
end Go.Proofs.Ytajjpllhihgkdaa
