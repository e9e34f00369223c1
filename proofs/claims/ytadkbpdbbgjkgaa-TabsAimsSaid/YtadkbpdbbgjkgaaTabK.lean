/- Layer 22: the document's Rows; Aim where something is wrong. -/
import Derived.Test.YtadkbpdbbgjkgaaTabJ
import Derived.Test.YtadkbpdbbgjkgaaTabH
import Derived.Test.YtadkbpdbbgjkgaaClass
namespace Go.Proofs.Ytadkbpdbbgjkgaa
open Go Go.RowKit Go.Bv Go.Tab
set_option linter.unusedVariables false
set_option maxRecDepth 100000
set_option maxHeartbeats 8000000 in
theorem rows_ref (a : Option Addr) (nw ca : Nat) (l : List (BitVec 64)) (ar : Option Addr) (n cg : Nat) (R : Nat → List Int) (nb : Nat) (w : World) (ha : QRow w a nw ca l) (h : RwX w ar n cg R) (hnb : nb ≤ 17592186044416) :
    Calls Try.prog 22 #[.slice a nw ca, .slice ar n cg, .int .i64 (nb : Int)] w fun e w' => e = .returned (.int .i64 (rowE l.length n nb R)) ∧ New w w' := by
  by_cases hbd : badH n nb R
  · have HE := Lib.hid (re_head (nw := l.length) hbd)
    have hmost := h.most
    have h3 : (n : Int) < 1 ∨ (¬ (n : Int) < 1 ∧ (3 : Int) < (n : Int)) ∨ (¬ (n : Int) < 1 ∧ ¬ (3 : Int) < (n : Int) ∧ ((n : Int) != (nb : Int)) = true) ∨ (¬ (n : Int) < 1 ∧ ¬ (3 : Int) < (n : Int) ∧ ((n : Int) != (nb : Int)) = false ∧ 0 < n ∧ (R 0).length = 0) := by
      unfold badH at hbd
      rw [bne_iff_ne, bne_eq_false_iff_eq]; omega
    clear hbd ha
    rcases h3 with h3 | ⟨h3, h4⟩ | ⟨h3, h4, h5⟩ | ⟨h3, h4, h5, h6, h7⟩
    · go_enter Try.func22, Try.ntmps22
      go_wp2
      go_ret
      rw [HE.out]
      exact ⟨rfl, New.refl _⟩
    · go_enter Try.func22, Try.ntmps22
      go_wp2
      go_ret
      rw [HE.out]
      exact ⟨rfl, New.refl _⟩
    · go_enter Try.func22, Try.ntmps22
      go_wp2
      go_ret
      rw [HE.out]
      exact ⟨rfl, New.refl _⟩
    · obtain ⟨g, gf, rfl, hr⟩ := h.row h6
      obtain ⟨x, c, f0, _⟩ := hr 0 h6
      rw [h7, Nat.add_zero] at f0
      have h8 : (0 : Int) < (n : Int) := by omega
      clear h hr h6 h7
      go_enter Try.func22, Try.ntmps22
      go_wp2
      go_ret
      rw [HE.out]
      exact ⟨rfl, New.refl _⟩
  · have HBD := Lib.hid hbd
    have hmost := h.most
    have hcg := h.le
    unfold badH at hbd
    have hn1 : 0 < n := by omega
    have hn3 : n ≤ 3 := by omega
    obtain rfl : nb = n := by omega
    obtain ⟨m, hm⟩ : ∃ m, (R 0).length = m := ⟨_, rfl⟩
    have hm0 : 0 < m := by omega
    obtain ⟨g, gf, rfl, hr⟩ := h.row hn1
    have HR := Lib.hid hr
    obtain ⟨x0, c0, f0, y0⟩ := hr 0 hn1
    rw [hm, Nat.add_zero] at f0
    rw [hm] at y0
    have hmm := y0.most
    have h1 : ¬ (nb : Int) < 1 := by omega
    have h2 : ¬ (3 : Int) < (nb : Int) := by omega
    have h3 : (0 : Int) < (nb : Int) := by omega
    have h4 : ¬ (m : Int) < 1 := by omega
    have HA := Lib.hid ha
    have HF0 := Lib.hid f0
    have HM := Lib.hid hm
    have HGET : Hid (∀ i, i < nb → ∃ x c, (∀ w', New w w' → w'.cell? ⟨g, gf + i, none⟩ = some (.slice x (R i).length c)) ∧ ZRow w x (R i).length c (R i)) := Lib.hid (fun i hi => by
      obtain ⟨x, c, e, hz⟩ := HR.out i hi
      exact ⟨x, c, fun w' hn => zcell e hn, hz⟩)
    clear ha h hbd hr y0 hm HR
    go_enter Try.func22, Try.ntmps22
    go_wp2
    go_loopw [37] (fun iv wr => ∃ k : Nat, k ≤ nb ∧ iv = .int .i64 (k : Int) ∧ Hid (New w wr) ∧ Hid (∀ j, j < k → (R j).length = (R 0).length)) (fun iv _ => nb - (intOf iv).toNat)
    case atStart => exact ⟨0, Nat.zero_le _, rfl, Lib.hid (New.refl _), Lib.hid (fun j hj => absurd hj (by omega))⟩
    case round =>
      obtain ⟨k, hk, rfl, HN, HL⟩ := hrel
      clear f0
      by_cases hlt : (k : Int) < (nb : Int)
      · have hk0 : (0 : Int) ≤ (k : Int) := by omega
        have hkn : k < nb := by omega
        obtain ⟨x1, c1, f1, y1⟩ := HGET.out k hkn
        replace f1 := f1 _ HN.out
        have f0 := zcell HF0.out HN.out
        have hmk := y1.most
        obtain ⟨mk, hmk2⟩ : ∃ mk, (R k).length = mk := ⟨_, rfl⟩
        rw [hmk2] at f1 hmk
        have HMK := Lib.hid hmk2
        clear y1 hmk2
        rcases hb : ((mk : Int) != (m : Int)) with _ | _
        · have HL2 : Hid (∀ j, j < k + 1 → (R j).length = (R 0).length) := Lib.hid (fun j hj => by
            by_cases e : j = k
            · subst e
              rw [bne_eq_false_iff_eq] at hb
              rw [HMK.out, HM.out]; omega
            · exact HL.out j (by omega))
          go_wp2
          exact ⟨⟨k + 1, by omega, by go_num, HN, HL2⟩, by simp [intOf]; omega⟩
        · have HE := Lib.hid (re_long (nw := l.length) HBD.out (i := k) hkn (by rw [HMK.out, HM.out]; rw [bne_iff_ne] at hb; omega))
          go_wp2
          go_ret
          rw [HE.out]
          exact ⟨rfl, HN.out⟩
      · obtain rfl : k = nb := by omega
        have HGT : Hid (∀ i, i < k → ∃ x c, (∀ w', New w w' → w'.cell? ⟨g, gf + i, none⟩ = some (.slice x m c)) ∧ ZRow w x m c (R i)) := Lib.hid (fun i hi => by
          obtain ⟨x, c, e, hz⟩ := HGET.out i hi
          rw [HL.out i hi, HM.out] at e hz
          exact ⟨x, c, e, hz⟩)
        clear HGET
        go_wp2
        go_loopw [51] (fun iv wr => ∃ i : Nat, i ≤ k ∧ iv = .int .i64 (i : Int) ∧ Hid (New w wr) ∧ Hid (∀ j, j < i → fitE l.length (R j) = 0)) (fun iv _ => k - (intOf iv).toNat)
        case atStart => exact ⟨0, Nat.zero_le _, rfl, HN, Lib.hid (fun j hj => absurd hj (by omega))⟩
        case round =>
          clear HN
          obtain ⟨i, hi, rfl, HN, HFI⟩ := hrel
          by_cases hlt2 : (i : Int) < (k : Int)
          · have hi0 : (0 : Int) ≤ (i : Int) := by omega
            have hin : i < k := by omega
            obtain ⟨x1, c1, f1, y1⟩ := HGT.out i hin
            replace f1 := f1 _ HN.out
            have HS := Lib.hid (fits_ref a x1 nw ca m c1 l (R i) _ (HA.out.stay HN.out) (y1.stay HN.out))
            by_cases hfe : fitE l.length (R i) = 0
            · rw [hfe] at HS
              have HF2 : Hid (∀ j, j < i + 1 → fitE l.length (R j) = 0) := Lib.hid (fun j hj => by
                by_cases e : j = i
                · subst e; exact hfe
                · exact HFI.out j (by omega))
              clear y1 hfe
              go_wp2_with fail
              refine HS.out.mono ?_
              rintro e w5 ⟨rfl, n5⟩
              have HN5 := Lib.hid (HN.out.trans n5)
              clear n5 HS f1
              go_wp2
              exact ⟨⟨i + 1, by omega, by go_num, HN5, HF2⟩, by simp [intOf]; omega⟩
            · have HE := Lib.hid (re_fit HBD.out (by intro j hj; exact HL.out j hj) hin HFI.out hfe)
              have hb : (fitE l.length (R i) != 0) = true := by rw [bne_iff_ne]; exact hfe
              clear y1 hfe
              generalize fitE l.length (R i) = E at HS HE hb
              go_wp2_with fail
              refine HS.out.mono ?_
              rintro e w5 ⟨rfl, n5⟩
              have HN5 := Lib.hid (HN.out.trans n5)
              clear n5 HS f1
              go_wp2
              go_ret
              rw [HE.out]
              exact ⟨rfl, HN5.out⟩
          · obtain rfl : i = k := by omega
            go_wp2
            go_loopw [64] (fun iv wr => ∃ i3 : Nat, i3 ≤ i ∧ iv = .int .i64 (i3 : Int) ∧ Hid (New w wr) ∧ Hid (∀ j, j < i3 → sameR R j = false)) (fun iv _ => i - (intOf iv).toNat)
            case atStart => exact ⟨0, Nat.zero_le _, rfl, HN, Lib.hid (fun j hj => absurd hj (by omega))⟩
            case round =>
              clear HN
              obtain ⟨i3, hi3, rfl, HN, HSR⟩ := hrel
              by_cases hlt3 : (i3 : Int) < (i : Int)
              · have hi0 : (0 : Int) ≤ (i3 : Int) := by omega
                have hi3n : i3 < i := by omega
                obtain ⟨a1, c1, f1, y1⟩ := HGT.out i3 hi3n
                have HFI1 := Lib.hid f1
                have HY1 := Lib.hid y1
                clear y1 f1
                go_wp2
                go_loopw [13] (fun iv wr => ∃ j : Nat, j ≤ i3 ∧ iv = .int .i64 (j : Int) ∧ Hid (New w wr) ∧ Hid (∀ q, q < j → R q ≠ R i3)) (fun iv _ => i3 - (intOf iv).toNat)
                case atStart => exact ⟨0, Nat.zero_le _, rfl, HN, Lib.hid (fun j hj => absurd hj (by omega))⟩
                case round =>
                  clear HN
                  obtain ⟨j, hj, rfl, HN, HD⟩ := hrel
                  by_cases hlt4 : (j : Int) < (i3 : Int)
                  · have hj0 : (0 : Int) ≤ (j : Int) := by omega
                    have hji : (j : Int) < (i : Int) := by omega
                    obtain ⟨a5, c5, f5, y5⟩ := HGT.out j (by omega)
                    have hc1 : ∀ w', New wr w' → w'.cell? ⟨g, gf + i3, none⟩ = some (.slice a1 m c1) := fun w' hn => HFI1.out _ (HN.out.trans hn)
                    have hc5 : ∀ w', New wr w' → w'.cell? ⟨g, gf + j, none⟩ = some (.slice a5 m c5) := fun w' hn => f5 _ (HN.out.trans hn)
                    have HSM := Lib.hid (fun w' (hn : New wr w') => same_ref22 a5 a1 m m c5 c1 (R j) (R i3) w' (y5.stay (HN.out.trans hn)) (HY1.out.stay (HN.out.trans hn)))
                    clear f5 y5
                    by_cases heq : R j = R i3
                    · have HEE := Lib.hid (re_same (nw := l.length) HBD.out (by intro q hq; exact HL.out q hq) (by intro q hq; exact HFI.out q hq) (i := i3) (k := j) hi3n (by omega) heq)
                      rw [heq, beq_self_eq_true] at HSM
                      clear heq
                      go_wp2_with fail
                      refine wp_region_class (fun w' => New wr w') (by kernel_rfl) (by kernel_rfl) (New.refl wr).drew ?_
                      intro I _ f9 hall hback
                      have HSTEP : Hid (∀ n w', New (f9 n) w' → ∃ m, w' = f9 m) := Lib.hid fun n w' hn => hback w' ((hall n).trans hn)
                      have s0 := fun n => hc1 _ (hall n)
                      have s1 := fun n => hc5 _ (hall n)
                      have HALL := Lib.hid hall
                      clear hall hback hc1 hc5
                      repeat (go_big_quiet_step (first
                        | (go_at_call 48; refine class_new HSTEP.out (HSM.out _ (HALL.out _)))))
                      refine wpQuiet_nil ?_
                      rintro w9 ⟨n1, hw1⟩
                      have hS := HALL.out n1
                      rw [← hw1] at hS
                      have HN9 := Lib.hid (HN.out.trans hS)
                      clear HALL HSTEP hw1 hS s0 s1
                      go_wp2
                      go_ret
                      rw [HEE.out]
                      exact ⟨rfl, HN9.out⟩
                    · rw [beq_eq_false_iff_ne.2 heq] at HSM
                      have HD2 : Hid (∀ q, q < j + 1 → R q ≠ R i3) := Lib.hid (fun q hq => by
                        by_cases e : q = j
                        · subst e; exact heq
                        · exact HD.out q (by omega))
                      clear heq
                      go_wp2_with fail
                      refine wp_region_class (fun w' => New wr w') (by kernel_rfl) (by kernel_rfl) (New.refl wr).drew ?_
                      intro I _ f9 hall hback
                      have HSTEP : Hid (∀ n w', New (f9 n) w' → ∃ m, w' = f9 m) := Lib.hid fun n w' hn => hback w' ((hall n).trans hn)
                      have s0 := fun n => hc1 _ (hall n)
                      have s1 := fun n => hc5 _ (hall n)
                      have HALL := Lib.hid hall
                      clear hall hback hc1 hc5
                      repeat (go_big_quiet_step (first
                        | (go_at_call 48; refine class_new HSTEP.out (HSM.out _ (HALL.out _)))))
                      refine wpQuiet_nil ?_
                      rintro w9 ⟨n1, hw1⟩
                      have hS := HALL.out n1
                      rw [← hw1] at hS
                      have HN9 := Lib.hid (HN.out.trans hS)
                      clear HALL HSTEP hw1 hS s0 s1
                      go_wp2
                      exact ⟨⟨j + 1, by omega, by go_num, HN9, HD2⟩, by simp [intOf]; omega⟩
                  · obtain rfl : j = i3 := by omega
                    have HS2 : Hid (∀ q, q < j + 1 → sameR R q = false) := Lib.hid (fun q hq => by
                      by_cases e : q = j
                      · subst e; exact sameR_no HD.out
                      · exact HSR.out q (by omega))
                    go_wp2
                    exact ⟨⟨j + 1, by omega, by go_num, HN, HS2⟩, by simp [intOf]; omega⟩
              · obtain rfl : i3 = i := by omega
                have HE := Lib.hid (re_ok (nw := l.length) HBD.out (by intro q hq; exact HL.out q hq) (by intro q hq; exact HFI.out q hq) HSR.out)
                go_wp2
                go_ret
                rw [HE.out]
                exact ⟨rfl, HN.out⟩
set_option maxHeartbeats 4000000 in
theorem aim_no (a : Option Addr) (nw ca : Nat) (l : List (BitVec 64)) (ar : Option Addr) (n cg : Nat) (R : Nat → List Int) (b : Option Addr) (nb cb : Nat) (w : World) (ha : QRow w a nw ca l) (h : RwX w ar n cg R) (hnb : nb ≤ 17592186044416) (hne : rowE l.length n nb R ≠ 0) :
    Calls Try.prog 21 #[.slice a nw ca, .slice ar n cg, .slice b nb cb] w fun e w' => e = .returned (.tuple #[.slice none 0 0, .int .i64 (rowE l.length n nb R)]) ∧ New w w' := by
  have HC := Lib.hid (check_rows_any a nw ca l ar n cg R b nb cb w ha h hnb)
  have hb : (rowE l.length n nb R != 0) = true := by rw [bne_iff_ne]; exact hne
  clear ha h hne
  generalize rowE l.length n nb R = E at HC hb ⊢
  go_enter Try.func21, Try.ntmps21
  go_wp2_with fail
  refine HC.out.mono ?_
  rintro e w1 ⟨rfl, n1⟩
  go_wp2
  go_ret2
  exact ⟨rfl, n1⟩
/-- Aim where nothing is wrong, for rows that came in -/
theorem aim_yes (a : Option Addr) (nw ca : Nat) (l : List (BitVec 64)) (ar : Option Addr) (n cg : Nat) (R : Nat → List Int) (b : Option Addr) (nb cb : Nat) (bl : List (BitVec 64)) (w : World) (ha : QRow w a nw ca l) (h : RwX w ar n cg R) (hb : QRow w b nb cb bl) (h0 : rowE l.length n nb R = 0) :
    Calls Try.prog 21 #[.slice a nw ca, .slice ar n cg, .slice b nb cb] w fun e w' => ∃ v, e = .returned (.tuple #[v, .int .i64 0]) ∧ w'.ownsRow w.heap.size 24 1 v nw ((aimL l n (R 0).length R bl).map fun x => .int .u64 (W64 x)) ∧ New w w' := by
  obtain ⟨e1, e2, e3, e4, e5, e6, e7⟩ := re_zero h0
  subst e3
  obtain ⟨g, gf, rfl, hr⟩ := h.row e1
  have hm : (R 0).length ≤ 17592186044416 := by
    obtain ⟨x, c, _, hz⟩ := hr 0 e1
    exact hz.most
  refine aim_ok a nw ca l g gf nb cg (R 0).length h.le e2 e1 e4 hm R e6 e5 e7 b cb bl w ha (fun i hi => ?_) hb
  obtain ⟨x, c, e, hz⟩ := hr i hi
  rw [e5 i hi] at e hz
  exact ⟨x, c, e, hz⟩
theorem rows_in {nw n nb : Nat} {R : Nat → List Int} (h0 : rowE nw n nb R = 0) : nw = 16 * (R 0).length ∧ (∀ i p, i < n → p < (R 0).length → 0 ≤ (R i).getD p 0 ∧ (R i).getD p 0 < 16) ∧ ∀ i j, i < n → j < n → i ≠ j → ∃ p, p < (R 0).length ∧ rn R i p ≠ rn R j p := by
  obtain ⟨e1, e2, e3, e4, e5, e6, e7⟩ := re_zero h0
  have hin : ∀ i p, i < n → p < (R 0).length → 0 ≤ (R i).getD p 0 ∧ (R i).getD p 0 < 16 := fun i p hi hp => (fitE_zero (e6 i hi)).2 p (by rw [e5 i hi]; exact hp)
  exact ⟨(fitE_zero (e6 0 e1)).1, hin, fun i j hi hj hij => rn_differ e5 (fun i p hi hp => (hin i p hi hp).1) hi hj (e7 i j hi hj hij)⟩
end Go.Proofs.Ytadkbpdbbgjkgaa
