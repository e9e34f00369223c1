/- gf2.Gcd. -/
import Derived.Test.YtppmpledcaonkaaGf2U
namespace Go.Bv
open Go Go.RowKit
set_option linter.unusedVariables false
theorem QRow.same {w : World} {a : Option Addr} {n c : Nat} {l m : List (BitVec 64)} (h : QRow w a n c l) (h2 : QRow w a n c m) : l = m := by
  apply G2.words_eq (n := n) h.len_eq h2.len_eq
  intro i hi
  obtain ⟨b, off, rfl, hc⟩ := h.addr (by omega)
  have e1 := hc i hi
  have e2 := h2.cell b off rfl i hi
  rw [e1] at e2
  injection e2 with e3
  injection e3 with e4 e5
  exact W64_inj.1 e5
open Classical in
/-- how many bits the number of a slice of words has -/
noncomputable def msW (v : Value) (w : World) : Nat := if h : ∃ l : List (BitVec 64), ∃ a n c, v = .slice a n c ∧ QRow w a n c l then G2.bl (G2.vW (Classical.choose h)) else 0
theorem msW_is {w : World} {a : Option Addr} {n c : Nat} {l : List (BitVec 64)} (h : QRow w a n c l) : msW (.slice a n c) w = G2.bl (G2.vW l) := by
  have hx : ∃ l : List (BitVec 64), ∃ a' n' c', (Value.slice a n c) = .slice a' n' c' ∧ QRow w a' n' c' l := ⟨l, a, n, c, rfl, h⟩
  unfold msW
  rw [dif_pos hx]
  obtain ⟨a', n', c', he, hr⟩ := Classical.choose_spec hx
  injection he with e1 e2 e3
  subst e1 e2 e3
  rw [hr.same h]
end Go.Bv
namespace Go.Proofs.Ytppmpledcaonkaa
open Go Go.RowKit Go.Bv Go.G2
set_option linter.unusedVariables false
theorem tW_le {X B : Nat} (h : bl X ≤ B) : (tW X).length ≤ B + 1 := by rw [tW_len]; omega
set_option maxRecDepth 100000 in
set_option maxHeartbeats 4000000 in
theorem gcd_q (a b : Option Addr) (n c m c2 : Nat) (l l2 : List (BitVec 64)) (w : World) (h : QRow w a n c l) (h2 : QRow w b m c2 l2) (hb1 : bl (vW l) ≤ 20000) (hb2 : bl (vW l2) ≤ 20000) :
    Calls Try.prog 31 #[.slice a n c, .slice b m c2] w fun e w' => ∃ G a' c', e = .returned (.slice a' (tW G).length c') ∧ QRow w' a' (tW G).length c' (tW G) ∧ (∀ d, (dvsG d (vW l) ∧ dvsG d (vW l2)) ↔ dvsG d G) ∧ bl G ≤ 20000 ∧ New w w' := by
  have HT1 := Lib.hid (trim_q a n c l w h)
  have HT2 := Lib.hid (fun w' (hn' : New w w') => trim_q b m c2 l2 w' (h2.stay hn'))
  obtain ⟨A, hAe⟩ : ∃ A, vW l = A := ⟨_, rfl⟩
  obtain ⟨B, hBe⟩ : ∃ B, vW l2 = B := ⟨_, rfl⟩
  rw [hAe] at HT1 hb1 ⊢
  rw [hBe] at HT2 hb2 ⊢
  have HB1 := Lib.hid hb1
  have HB2 := Lib.hid hb2
  clear h h2 hAe hBe hb1 hb2
  go_enter Try.func31, Try.ntmps31
  go_wp2_with fail
  go_step3
  go_wp2_with fail
  refine HT1.out.mono ?_
  rintro e w1 ⟨a1, c1, rfl, hq1, hn1⟩
  have HQ1 := Lib.hid hq1
  have HN := Lib.hid hn1
  replace HT2 := Lib.hid (HT2.out _ hn1)
  clear hq1 hn1 HT1
  go_wp2_with fail
  refine HT2.out.mono ?_
  rintro e w2 ⟨a3, c3, rfl, hq2, hn2⟩
  replace HQ1 := Lib.hid (HQ1.out.stay hn2)
  have HQ2 := Lib.hid hq2
  replace HN := Lib.hid (HN.out.trans hn2)
  clear hq2 hn2 HT2
  go_wp2_with fail
  go_step3
  go_wp2_with fail
  go_loopw [5, 6] (fun xv yv wr => ∃ (X Y c1 c3 : Nat) (a1 a3 : Option Addr), xv = .slice a1 (tW X).length c1 ∧ yv = .slice a3 (tW Y).length c3 ∧ Hid (QRow wr a1 (tW X).length c1 (tW X) ∧ QRow wr a3 (tW Y).length c3 (tW Y) ∧ (∀ d, (dvsG d A ∧ dvsG d B) ↔ (dvsG d X ∧ dvsG d Y)) ∧ bl X ≤ 20000 ∧ bl Y ≤ 20000) ∧ New w wr) (fun _ yv wr => msW yv wr)
  case atStart => exact ⟨A, B, _, _, _, _, rfl, rfl, Lib.hid ⟨HQ1.out, HQ2.out, fun d => Iff.rfl, HB1.out, HB2.out⟩, HN.out⟩
  case round =>
    clear HQ1 HQ2 HN
    obtain ⟨X, Y, c1, c3, a1, a3, rfl, rfl, HL, hnew⟩ := hrel
    obtain ⟨wq, hwq⟩ : ∃ z, z = wr := ⟨_, rfl⟩
    rw [← hwq] at HL hnew ⊢
    clear hwq
    obtain ⟨h1, h2, h3, h4, h5⟩ := HL.out
    have hms := msW_is h2
    rw [vW_tW] at hms
    have hlx := tW_le h4
    have hly := tW_le h5
    by_cases hY : Y = 0
    · have HM := Lib.hid (mod_z a1 a3 (tW X).length c1 (tW Y).length c3 _ wq h2 (by omega) (by rw [vW_tW]; exact hY))
      have HF : Hid (∀ d, (dvsG d A ∧ dvsG d B) ↔ dvsG d X) := Lib.hid (fun d => by
        rw [h3 d, hY]
        exact ⟨fun h => h.1, fun h => ⟨h, dvs_zero d⟩⟩)
      have HN := Lib.hid hnew
      clear h1 h2 h3 h4 h5 hms hnew hY hlx hly
      go_wp2_with fail
      refine HM.out.mono ?_
      rintro e w' ⟨rfl, hw⟩
      replace hw := hw.symm
      subst hw
      go_wp2
      first | rw [Exit.noGoto_ret] | skip
      go_ret
      exact ⟨X, _, _, rfl, HL.out.1, HF.out, HL.out.2.2.2.1, HN.out⟩
    · have HM := Lib.hid (mod_q a1 a3 (tW X).length c1 (tW Y).length c3 _ _ wq h1 h2 (by omega) (by omega) (by rw [vW_tW]; exact hY))
      rw [vW_tW, vW_tW] at HM
      have hr := rm_lt (a := X) hY
      have HF : Hid ((∀ d, (dvsG d A ∧ dvsG d B) ↔ (dvsG d Y ∧ dvsG d (rmG X Y))) ∧ bl (rmG X Y) ≤ 20000 ∧ bl (rmG X Y) < bl Y) := Lib.hid ⟨fun d => (h3 d).trans (gcd_step hY d), by omega, hr⟩
      have HN := Lib.hid hnew
      have HMS := Lib.hid hms
      obtain ⟨R, hR⟩ : ∃ R, rmG X Y = R := ⟨_, rfl⟩
      rw [hR] at HM HF
      clear h1 h2 h3 h4 h5 hms hnew hY hlx hly hr hR
      go_wp2_with fail
      refine HM.out.mono ?_
      rintro e w3 ⟨a5, c5, rfl, hq5, hn3⟩
      have HQ5 := Lib.hid hq5
      have HQ3 := Lib.hid (HL.out.2.1.stay hn3)
      have HM5 : Hid (msW (.slice a5 (tW R).length c5) w3 = bl R) := Lib.hid (by rw [msW_is hq5, vW_tW])
      replace HN := Lib.hid (HN.out.trans hn3)
      clear hq5 hn3 HM
      go_wp2
      refine ⟨⟨Y, R, _, _, _, _, rfl, rfl, Lib.hid ⟨HQ3.out, HQ5.out, HF.out.1, HL.out.2.2.2.2, HF.out.2.1⟩, HN.out⟩, ?_⟩
      show msW (.slice a5 (tW R).length c5) w3 < msW (.slice a3 (tW Y).length c3) wq
      rw [HM5.out, HMS.out]
      exact HF.out.2.2
end Go.Proofs.Ytppmpledcaonkaa
