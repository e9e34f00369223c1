/- subset.Pick where something is wrong; the law SubsetPicks. · The law SubsetPicks. -/
import Derived.Test.YtaajphopnmdmcaaSetA
import Derived.Test.YtaajphopnmdmcaaSubI
namespace Go.Proofs.Ytaajphopnmdmcaa
open Go Go.RowKit Go.Bv
set_option linter.unusedVariables false
theorem pick_size (n : Int) (a : Option Addr) (m c : Nat) (w : World) (h : szE n (m : Int) = 1) :
    Calls Try.prog 9 #[.int .i64 n, .slice a m c] w fun e w' => e = .returned (.tuple #[.slice none 0 0, .int .i64 1]) ∧ w' = w := by
  have HSZ := Lib.hid (sizes_41 n (m : Int) w)
  rw [h] at HSZ
  clear h
  go_enter Try.func9, Try.ntmps9
  go_wp2_with fail
  refine HSZ.out.mono ?_
  rintro e w' ⟨rfl, hw⟩
  replace hw := hw.symm
  subst hw
  go_wp2
  go_ret2
  exact ⟨rfl, rfl⟩
set_option maxRecDepth 100000 in
set_option maxHeartbeats 2000000 in
theorem pick_bad (n : Nat) (hn : n ≤ 256) (a : Option Addr) (m c : Nat) (l : List Int) (w : World) (h : ZRow w a m c l) (hm : m ≤ n) (hb : r2B n l m = false) :
    Calls Try.prog 9 #[.int .i64 (n : Int), .slice a m c] w fun e w' => e = .returned (.tuple #[.slice none 0 0, .int .i64 2]) ∧ w' = w := by
  have HSZ := Lib.hid (sizes_41 (n : Int) (m : Int) w)
  rw [show szE (n : Int) (m : Int) = 0 from if_neg (by omega)] at HSZ
  have HH := Lib.hid h
  have HB : Hid (¬ ∀ i, i < m → 0 ≤ l.getD i 0 ∧ l.getD i 0 ≤ (n : Int) - 1 - (i : Int)) := Lib.hid (fun h2 => by rw [r2B_iff.2 h2] at hb; cases hb)
  clear h hb
  go_enter Try.func9, Try.ntmps9
  go_wp2_with fail
  refine HSZ.out.mono ?_
  rintro e w' ⟨rfl, hw⟩
  replace hw := hw.symm
  subst hw
  go_wp2_with fail
  go_loop [21] (fun iv => ∃ k : Nat, k ≤ m ∧ iv = .int .i64 (k : Int) ∧ Hid (∀ i, i < k → 0 ≤ l.getD i 0 ∧ l.getD i 0 ≤ (n : Int) - 1 - (i : Int))) (fun iv => m - (intOf iv).toNat)
  case atStart => exact ⟨0, Nat.zero_le _, rfl, Lib.hid (fun i hi => by omega)⟩
  case round =>
    obtain ⟨k, hk, rfl, HO⟩ := hrel
    by_cases hlt : (k : Int) < (m : Int)
    · have hk0 : (0 : Int) ≤ (k : Int) := by omega
      obtain ⟨b, off, rfl, hc⟩ := HH.out.addr (by omega)
      have c1 := hc k (by omega)
      clear hc
      obtain ⟨x, hx⟩ : ∃ x, l.getD k 0 = x := ⟨_, rfl⟩
      rw [hx] at c1
      have HX := Lib.hid hx
      clear hx
      by_cases h1 : x < 0
      · go_wp2
        go_ret2
        exact ⟨rfl, rfl⟩
      by_cases h2 : (n : Int) - 1 - (k : Int) < x
      · go_wp2
        go_ret2
        exact ⟨rfl, rfl⟩
      have HO2 : Hid (∀ i, i < k + 1 → 0 ≤ l.getD i 0 ∧ l.getD i 0 ≤ (n : Int) - 1 - (i : Int)) := Lib.hid (fun i hi => by
        by_cases e : i = k
        · subst e; rw [HX.out]; omega
        · exact HO.out i (by omega))
      go_wp2
      exact ⟨⟨k + 1, by omega, by go_num, HO2.out⟩, by simp [intOf]; omega⟩
    · obtain rfl : k = m := by omega
      exact absurd HO.out HB.out
end Go.Proofs.Ytaajphopnmdmcaa
namespace Go.Proofs.Ytaajphopnmdmcaa
open Go Go.RowKit Go.Bv
set_option linter.unusedVariables false
theorem rp2_of {n : Nat} {l : List Int} {m : Nat} (hl : l.length = m) (hm : m ≤ n) (h : r2B n l m = true) : rp2 n l := ⟨by omega, fun i hi => r2B_iff.1 h i (by omega)⟩
theorem r2B_of {n : Nat} {l : List Int} {m : Nat} (hl : l.length = m) (h : rp2 n l) : r2B n l m = true := r2B_iff.2 (fun i hi => h.2 i (by omega))
set_option maxRecDepth 100000 in
set_option maxHeartbeats 8000000 in
theorem SubsetPicks_walk (W : World) (a0 : Int) (w0 : (Lit.int .i64 a0).wf = true) (a1 : Option Addr) (n1 m1 : Nat) (z1 : List Int) (w1 : IRow .i64 W a1 n1 m1 z1) (r1 : m1 * 8 ≤ 140737488351232) (a2 : Option Addr) (n2 m2 : Nat) (z2 : List Int) (w2 : IRow .i64 W a2 n2 m2 z2) (r2 : m2 * 8 ≤ 140737488351232) :
    Calls Try.prog 3 #[.int .i64 a0, .slice a1 n1 m1, .slice a2 n2 m2] W fun e w' => e = .returned (.bool true) ∧ Below W.heap.size W w' := by
  obtain ⟨c, hc⟩ := w1.ints r1
  obtain ⟨l, hl⟩ := w2.ints r2
  have H1 := Lib.hid hc
  have H2 := Lib.hid hl
  have HL1 := Lib.hid hc.len_eq
  have HL2 := Lib.hid hl.len_eq
  clear w1 w2 r1 r2 hc hl
  have hn0 := wfi64 w0
  clear w0
  have HA := Lib.hid awake41
  go_enter Try.func3, Try.ntmps3
  go_wp2_with fail
  refine (HA.out _).mono ?_
  rintro e wA ⟨rfl, hn⟩
  replace H1 := Lib.hid (H1.out.stay hn)
  replace H2 := Lib.hid (H2.out.stay hn)
  have HN := Lib.hid hn
  clear hn HA
  by_cases g0 : 60 < a0 ∧ a0 ≤ 256
  · obtain ⟨ga, gb⟩ := g0
    go_wp2
    go_ret
    exact ⟨rfl, HN.out⟩
  have e0 : ¬ 60 < a0 ∨ (60 < a0 ∧ ¬ a0 ≤ 256) := by omega
  by_cases g1 : (60 : Int) < (n1 : Int) ∧ (n1 : Int) ≤ 256
  · obtain ⟨ga, gb⟩ := g1
    rcases e0 with e0 | ⟨e0, e0'⟩
    all_goals (
      go_wp2
      go_ret
      exact ⟨rfl, HN.out⟩)
  have e1 : ¬ (60 : Int) < (n1 : Int) ∨ ((60 : Int) < (n1 : Int) ∧ ¬ (n1 : Int) ≤ 256) := by omega
  by_cases g2 : (60 : Int) < (n2 : Int) ∧ (n2 : Int) ≤ 256
  · obtain ⟨ga, gb⟩ := g2
    rcases e0 with e0 | ⟨e0, e0'⟩ <;> rcases e1 with e1 | ⟨e1, e1'⟩
    all_goals (
      go_wp2
      go_ret
      exact ⟨rfl, HN.out⟩)
  have e2 : ¬ (60 : Int) < (n2 : Int) ∨ ((60 : Int) < (n2 : Int) ∧ ¬ (n2 : Int) ≤ 256) := by omega
  have HC := Lib.hid (fun k w => count_41 a0 k w)
  rcases e0 with e0 | ⟨e0, e0'⟩
  case inr =>
    rcases e1 with e1 | ⟨e1, e1'⟩ <;> rcases e2 with e2 | ⟨e2, e2'⟩
    all_goals (
      have hE : szE a0 (n1 : Int) = 1 := if_pos (by omega)
      have HP := Lib.hid (pick_size a0 a1 n1 m1 wA hE)
      have HC1 := Lib.hid (HC.out (n1 : Int))
      rw [hE] at HC1
      clear hE
      go_wp2_with fail
      refine (HP.out).mono ?_
      rintro e w' ⟨rfl, hw⟩
      replace hw := hw.symm
      subst hw
      go_wp2_with fail
      refine (HC1.out _).mono ?_
      rintro e w' ⟨rfl, hw⟩
      replace hw := hw.symm
      subst hw
      have hE : szE a0 (n2 : Int) = 1 := if_pos (by omega)
      have HC2 := Lib.hid (HC.out (n2 : Int))
      rw [hE] at HC2
      clear hE
      go_wp2_with fail
      refine (chc41_size a0 a2 n2 m2 _ (if_pos (by omega))).mono ?_
      rintro e w' ⟨rfl, hw⟩
      replace hw := hw.symm
      subst hw
      go_wp2_with fail
      refine (HC2.out _).mono ?_
      rintro e w' ⟨rfl, hw⟩
      replace hw := hw.symm
      subst hw
      go_wp2
      go_ret
      exact ⟨rfl, HN.out⟩)
  rcases e1 with e1 | ⟨e1, e1'⟩
  case inr =>
    rcases e2 with e2 | ⟨e2, e2'⟩
    case inr =>
      have hE : szE a0 (n1 : Int) = 1 := if_pos (by omega)
      have HP := Lib.hid (pick_size a0 a1 n1 m1 wA hE)
      have HC1 := Lib.hid (HC.out (n1 : Int))
      rw [hE] at HC1
      clear hE
      go_wp2_with fail
      refine (HP.out).mono ?_
      rintro e w' ⟨rfl, hw⟩
      replace hw := hw.symm
      subst hw
      go_wp2_with fail
      refine (HC1.out _).mono ?_
      rintro e w' ⟨rfl, hw⟩
      replace hw := hw.symm
      subst hw
      have hE : szE a0 (n2 : Int) = 1 := if_pos (by omega)
      have HC2 := Lib.hid (HC.out (n2 : Int))
      rw [hE] at HC2
      clear hE
      go_wp2_with fail
      refine (chc41_size a0 a2 n2 m2 _ (if_pos (by omega))).mono ?_
      rintro e w' ⟨rfl, hw⟩
      replace hw := hw.symm
      subst hw
      go_wp2_with fail
      refine (HC2.out _).mono ?_
      rintro e w' ⟨rfl, hw⟩
      replace hw := hw.symm
      subst hw
      go_wp2
      go_ret
      exact ⟨rfl, HN.out⟩
    have hE : szE a0 (n1 : Int) = 1 := if_pos (by omega)
    have HP := Lib.hid (pick_size a0 a1 n1 m1 wA hE)
    have HC1 := Lib.hid (HC.out (n1 : Int))
    rw [hE] at HC1
    clear hE
    go_wp2_with fail
    refine (HP.out).mono ?_
    rintro e w' ⟨rfl, hw⟩
    replace hw := hw.symm
    subst hw
    go_wp2_with fail
    refine (HC1.out _).mono ?_
    rintro e w' ⟨rfl, hw⟩
    replace hw := hw.symm
    subst hw
    by_cases s2 : a0 < 0 ∨ 256 < a0 ∨ a0 < (n2 : Int)
    · have hE : szE a0 (n2 : Int) = 1 := if_pos s2
      have HC2 := Lib.hid (HC.out (n2 : Int))
      rw [hE] at HC2
      clear hE
      go_wp2_with fail
      refine (chc41_size a0 a2 n2 m2 _ (if_pos s2)).mono ?_
      rintro e w' ⟨rfl, hw⟩
      replace hw := hw.symm
      subst hw
      go_wp2_with fail
      refine (HC2.out _).mono ?_
      rintro e w' ⟨rfl, hw⟩
      replace hw := hw.symm
      subst hw
      go_wp2
      go_ret
      exact ⟨rfl, HN.out⟩
    · have HC2 := Lib.hid (HC.out (n2 : Int))
      rw [show szE a0 (n2 : Int) = 0 from if_neg s2] at HC2
      obtain ⟨n, rfl⟩ : ∃ n : Nat, a0 = (n : Int) := ⟨a0.toNat, by omega⟩
      have hn256 : n ≤ 256 := by omega
      have hKn : n2 ≤ n := by omega
      have HIS := Lib.hid (fun w (h : ZRow w a2 n2 m2 l) => isr_41 n (by omega) a2 n2 m2 l w h (by omega))
      by_cases hor : ipP n l
      case neg =>
        have HP2 := Lib.hid (chc41_bad n hn256 a2 n2 m2 l _ H2.out hKn hor)
        rw [ipB_no hor] at HIS
        clear hor
        go_wp2_with fail
        refine (HP2.out).mono ?_
        rintro e wN ⟨rfl, hn⟩
        replace H2 := Lib.hid (H2.out.stay hn)
        replace HN := Lib.hid (HN.out.trans hn)
        clear hn
        go_wp2_with fail
        refine (HC2.out _).mono ?_
        rintro e w' ⟨rfl, hw⟩
        replace hw := hw.symm
        subst hw
        go_wp2_with fail
        refine (HIS.out _ H2.out).mono ?_
        rintro e w' ⟨rfl, hw⟩
        replace hw := hw.symm
        subst hw
        go_wp2
        go_ret
        exact ⟨rfl, HN.out⟩
      case pos =>
        rw [ipB_iff.2 hor] at HIS
        have hdi : ∀ j k, j < k → k < l.length → l.getD j 0 ≠ l.getD k 0 := hor.2
        have HDI := Lib.hid hdi
        obtain ⟨cl, hcl, hrp, hpk⟩ := pk_all hor (by rw [HL2.out]; exact hKn)
        have hcn : cl.length = n2 := hcl.trans HL2.out
        have h2 := H2.out
        rw [← hpk] at h2
        have HP2 := Lib.hid (chc_41 n hn256 a2 n2 m2 cl _ h2 hrp hcn)
        have HRC := Lib.hid (fun w a k (h : ZRow w a n2 k cl) => right_41 (n : Int) (by omega) a n2 k cl w h (by omega))
        rw [r2B_of hcn hrp] at HRC
        have HPK := Lib.hid (fun w a k (h : ZRow w a n2 k cl) => pickr_41 n (by omega) a n2 k cl w h hrp)
        rw [hpk] at HPK
        clear hor hdi hcl hrp hpk hcn h2
        go_wp2_with fail
        refine (HP2.out).mono ?_
        rintro e wN ⟨a8, c8, rfl, hz8, hn⟩
        replace H2 := Lib.hid (H2.out.stay hn)
        replace HN := Lib.hid (HN.out.trans hn)
        have HQ := Lib.hid hz8
        clear hz8
        clear hn
        go_wp2_with fail
        refine (HC2.out _).mono ?_
        rintro e w' ⟨rfl, hw⟩
        replace hw := hw.symm
        subst hw
        go_wp2_with fail
        refine (HIS.out _ H2.out).mono ?_
        rintro e w' ⟨rfl, hw⟩
        replace hw := hw.symm
        subst hw
        have hll : ((n2 : Int) == (n2 : Int)) = true := by simp
        go_wp2_with fail
        refine (HRC.out _ _ _ HQ.out).mono ?_
        rintro e w' ⟨rfl, hw⟩
        replace hw := hw.symm
        subst hw
        go_wp2_with fail
        refine (HPK.out _ _ _ HQ.out).mono ?_
        rintro e wN ⟨a9, c9, rfl, hz9, hn⟩
        replace H2 := Lib.hid (H2.out.stay hn)
        replace HN := Lib.hid (HN.out.trans hn)
        have HQ9 := Lib.hid hz9
        clear hz9
        clear hn
        go_wp2_with fail
        refine (ints_ref _ _ _ _ _ _ _ _ _ HQ9.out H2.out).mono ?_
        rintro e wN ⟨rfl, hn⟩
        replace H2 := Lib.hid (H2.out.stay hn)
        replace HN := Lib.hid (HN.out.trans hn)
        clear hn
        rw [beq_self_eq_true]
        go_wp2_with fail
        refine (set_41 _ _ _ _ _ H2.out HDI.out).mono ?_
        rintro e wN ⟨a6, c6, rfl, hz6, hn⟩
        replace H2 := Lib.hid (H2.out.stay hn)
        replace HN := Lib.hid (HN.out.trans hn)
        have HQ6 := Lib.hid hz6
        clear hz6
        clear hn
        go_wp2_with fail
        refine (setr_41 _ _ _ _ _ H2.out HDI.out (by omega)).mono ?_
        rintro e wN ⟨a7, c7, rfl, hz7, hn⟩
        replace HQ6 := Lib.hid (HQ6.out.stay hn)
        replace HN := Lib.hid (HN.out.trans hn)
        have HQ7 := Lib.hid hz7
        clear hz7
        clear hn
        go_wp2_with fail
        refine (ints_ref _ _ _ _ _ _ _ _ _ HQ6.out HQ7.out).mono ?_
        rintro e wN ⟨rfl, hn⟩
        replace HN := Lib.hid (HN.out.trans hn)
        clear hn
        rw [beq_self_eq_true]
        go_wp2
        go_ret
        exact ⟨rfl, HN.out⟩
  rcases e2 with e2 | ⟨e2, e2'⟩
  case inr =>
    by_cases s1 : a0 < 0 ∨ 256 < a0 ∨ a0 < (n1 : Int)
    · have hE : szE a0 (n1 : Int) = 1 := if_pos (by omega)
      have HP := Lib.hid (pick_size a0 a1 n1 m1 wA hE)
      have HC1 := Lib.hid (HC.out (n1 : Int))
      rw [hE] at HC1
      clear hE
      go_wp2_with fail
      refine (HP.out).mono ?_
      rintro e w' ⟨rfl, hw⟩
      replace hw := hw.symm
      subst hw
      go_wp2_with fail
      refine (HC1.out _).mono ?_
      rintro e w' ⟨rfl, hw⟩
      replace hw := hw.symm
      subst hw
      have hE : szE a0 (n2 : Int) = 1 := if_pos (by omega)
      have HC2 := Lib.hid (HC.out (n2 : Int))
      rw [hE] at HC2
      clear hE
      go_wp2_with fail
      refine (chc41_size a0 a2 n2 m2 _ (if_pos (by omega))).mono ?_
      rintro e w' ⟨rfl, hw⟩
      replace hw := hw.symm
      subst hw
      go_wp2_with fail
      refine (HC2.out _).mono ?_
      rintro e w' ⟨rfl, hw⟩
      replace hw := hw.symm
      subst hw
      go_wp2
      go_ret
      exact ⟨rfl, HN.out⟩
    have HC1 := Lib.hid (HC.out (n1 : Int))
    rw [show szE a0 (n1 : Int) = 0 from if_neg s1] at HC1
    have hb0 : 0 ≤ a0 ∧ a0 ≤ 256 ∧ (n1 : Int) ≤ a0 := by omega
    obtain ⟨nn, hnn⟩ : ∃ n : Nat, a0 = (n : Int) := ⟨a0.toNat, by omega⟩
    have HRI := Lib.hid (fun w (h : ZRow w a1 n1 m1 c) => right_41 a0 (by omega) a1 n1 m1 c w h (by omega))
    rcases hr : r2B a0 c n1 with _ | _
    · have HP := Lib.hid (pick_bad nn (by omega) a1 n1 m1 c wA H1.out (by omega) (hnn ▸ hr))
      rw [← hnn] at HP
      rw [hr] at HRI
      clear hr s1 hnn
      go_wp2_with fail
      refine (HP.out).mono ?_
      rintro e w' ⟨rfl, hw⟩
      replace hw := hw.symm
      subst hw
      go_wp2_with fail
      refine (HC1.out _).mono ?_
      rintro e w' ⟨rfl, hw⟩
      replace hw := hw.symm
      subst hw
      go_wp2_with fail
      refine (HRI.out _ H1.out).mono ?_
      rintro e w' ⟨rfl, hw⟩
      replace hw := hw.symm
      subst hw
      have hE : szE a0 (n2 : Int) = 1 := if_pos (by omega)
      have HC2 := Lib.hid (HC.out (n2 : Int))
      rw [hE] at HC2
      clear hE
      go_wp2_with fail
      refine (chc41_size a0 a2 n2 m2 _ (if_pos (by omega))).mono ?_
      rintro e w' ⟨rfl, hw⟩
      replace hw := hw.symm
      subst hw
      go_wp2_with fail
      refine (HC2.out _).mono ?_
      rintro e w' ⟨rfl, hw⟩
      replace hw := hw.symm
      subst hw
      go_wp2
      go_ret
      exact ⟨rfl, HN.out⟩
    · have hrp := rp2_of HL1.out (by omega) (hnn ▸ hr)
      have HP := Lib.hid (pick_ok nn (by omega) a1 n1 m1 c wA H1.out hrp)
      have HPR := Lib.hid (fun w (h : ZRow w a1 n1 m1 c) => pickr_41 nn (by omega) a1 n1 m1 c w h hrp)
      rw [← hnn] at HP HPR
      rw [hr] at HRI
      clear hr s1 hnn hrp
      go_wp2_with fail
      refine (HP.out).mono ?_
      rintro e wN ⟨a4, c4, rfl, hz4, hn⟩
      replace H1 := Lib.hid (H1.out.stay hn)
      replace H2 := Lib.hid (H2.out.stay hn)
      replace HN := Lib.hid (HN.out.trans hn)
      have HQ4 := Lib.hid hz4
      clear hz4
      clear hn
      go_wp2_with fail
      refine (HC1.out _).mono ?_
      rintro e w' ⟨rfl, hw⟩
      replace hw := hw.symm
      subst hw
      go_wp2_with fail
      refine (HRI.out _ H1.out).mono ?_
      rintro e w' ⟨rfl, hw⟩
      replace hw := hw.symm
      subst hw
      go_wp2_with fail
      refine (HPR.out _ H1.out).mono ?_
      rintro e wN ⟨a5, c5, rfl, hz5, hn⟩
      replace H2 := Lib.hid (H2.out.stay hn)
      replace HQ4 := Lib.hid (HQ4.out.stay hn)
      replace HN := Lib.hid (HN.out.trans hn)
      have HQ5 := Lib.hid hz5
      clear hz5
      clear hn
      go_wp2_with fail
      refine (ints_ref _ _ _ _ _ _ _ _ _ HQ4.out HQ5.out).mono ?_
      rintro e wN ⟨rfl, hn⟩
      replace H2 := Lib.hid (H2.out.stay hn)
      replace HN := Lib.hid (HN.out.trans hn)
      clear hn
      rw [beq_self_eq_true]
      have hE : szE a0 (n2 : Int) = 1 := if_pos (by omega)
      have HC2 := Lib.hid (HC.out (n2 : Int))
      rw [hE] at HC2
      clear hE
      go_wp2_with fail
      refine (chc41_size a0 a2 n2 m2 _ (if_pos (by omega))).mono ?_
      rintro e w' ⟨rfl, hw⟩
      replace hw := hw.symm
      subst hw
      go_wp2_with fail
      refine (HC2.out _).mono ?_
      rintro e w' ⟨rfl, hw⟩
      replace hw := hw.symm
      subst hw
      go_wp2
      go_ret
      exact ⟨rfl, HN.out⟩
  by_cases s1 : a0 < 0 ∨ 256 < a0 ∨ a0 < (n1 : Int)
  · have hE : szE a0 (n1 : Int) = 1 := if_pos (by omega)
    have HP := Lib.hid (pick_size a0 a1 n1 m1 wA hE)
    have HC1 := Lib.hid (HC.out (n1 : Int))
    rw [hE] at HC1
    clear hE
    go_wp2_with fail
    refine (HP.out).mono ?_
    rintro e w' ⟨rfl, hw⟩
    replace hw := hw.symm
    subst hw
    go_wp2_with fail
    refine (HC1.out _).mono ?_
    rintro e w' ⟨rfl, hw⟩
    replace hw := hw.symm
    subst hw
    by_cases s2 : a0 < 0 ∨ 256 < a0 ∨ a0 < (n2 : Int)
    · have hE : szE a0 (n2 : Int) = 1 := if_pos s2
      have HC2 := Lib.hid (HC.out (n2 : Int))
      rw [hE] at HC2
      clear hE
      go_wp2_with fail
      refine (chc41_size a0 a2 n2 m2 _ (if_pos s2)).mono ?_
      rintro e w' ⟨rfl, hw⟩
      replace hw := hw.symm
      subst hw
      go_wp2_with fail
      refine (HC2.out _).mono ?_
      rintro e w' ⟨rfl, hw⟩
      replace hw := hw.symm
      subst hw
      go_wp2
      go_ret
      exact ⟨rfl, HN.out⟩
    · have HC2 := Lib.hid (HC.out (n2 : Int))
      rw [show szE a0 (n2 : Int) = 0 from if_neg s2] at HC2
      obtain ⟨n, rfl⟩ : ∃ n : Nat, a0 = (n : Int) := ⟨a0.toNat, by omega⟩
      have hn256 : n ≤ 256 := by omega
      have hKn : n2 ≤ n := by omega
      have HIS := Lib.hid (fun w (h : ZRow w a2 n2 m2 l) => isr_41 n (by omega) a2 n2 m2 l w h (by omega))
      by_cases hor : ipP n l
      case neg =>
        have HP2 := Lib.hid (chc41_bad n hn256 a2 n2 m2 l _ H2.out hKn hor)
        rw [ipB_no hor] at HIS
        clear hor
        go_wp2_with fail
        refine (HP2.out).mono ?_
        rintro e wN ⟨rfl, hn⟩
        replace H2 := Lib.hid (H2.out.stay hn)
        replace HN := Lib.hid (HN.out.trans hn)
        clear hn
        go_wp2_with fail
        refine (HC2.out _).mono ?_
        rintro e w' ⟨rfl, hw⟩
        replace hw := hw.symm
        subst hw
        go_wp2_with fail
        refine (HIS.out _ H2.out).mono ?_
        rintro e w' ⟨rfl, hw⟩
        replace hw := hw.symm
        subst hw
        go_wp2
        go_ret
        exact ⟨rfl, HN.out⟩
      case pos =>
        rw [ipB_iff.2 hor] at HIS
        have hdi : ∀ j k, j < k → k < l.length → l.getD j 0 ≠ l.getD k 0 := hor.2
        have HDI := Lib.hid hdi
        obtain ⟨cl, hcl, hrp, hpk⟩ := pk_all hor (by rw [HL2.out]; exact hKn)
        have hcn : cl.length = n2 := hcl.trans HL2.out
        have h2 := H2.out
        rw [← hpk] at h2
        have HP2 := Lib.hid (chc_41 n hn256 a2 n2 m2 cl _ h2 hrp hcn)
        have HRC := Lib.hid (fun w a k (h : ZRow w a n2 k cl) => right_41 (n : Int) (by omega) a n2 k cl w h (by omega))
        rw [r2B_of hcn hrp] at HRC
        have HPK := Lib.hid (fun w a k (h : ZRow w a n2 k cl) => pickr_41 n (by omega) a n2 k cl w h hrp)
        rw [hpk] at HPK
        clear hor hdi hcl hrp hpk hcn h2
        go_wp2_with fail
        refine (HP2.out).mono ?_
        rintro e wN ⟨a8, c8, rfl, hz8, hn⟩
        replace H2 := Lib.hid (H2.out.stay hn)
        replace HN := Lib.hid (HN.out.trans hn)
        have HQ := Lib.hid hz8
        clear hz8
        clear hn
        go_wp2_with fail
        refine (HC2.out _).mono ?_
        rintro e w' ⟨rfl, hw⟩
        replace hw := hw.symm
        subst hw
        go_wp2_with fail
        refine (HIS.out _ H2.out).mono ?_
        rintro e w' ⟨rfl, hw⟩
        replace hw := hw.symm
        subst hw
        have hll : ((n2 : Int) == (n2 : Int)) = true := by simp
        go_wp2_with fail
        refine (HRC.out _ _ _ HQ.out).mono ?_
        rintro e w' ⟨rfl, hw⟩
        replace hw := hw.symm
        subst hw
        go_wp2_with fail
        refine (HPK.out _ _ _ HQ.out).mono ?_
        rintro e wN ⟨a9, c9, rfl, hz9, hn⟩
        replace H2 := Lib.hid (H2.out.stay hn)
        replace HN := Lib.hid (HN.out.trans hn)
        have HQ9 := Lib.hid hz9
        clear hz9
        clear hn
        go_wp2_with fail
        refine (ints_ref _ _ _ _ _ _ _ _ _ HQ9.out H2.out).mono ?_
        rintro e wN ⟨rfl, hn⟩
        replace H2 := Lib.hid (H2.out.stay hn)
        replace HN := Lib.hid (HN.out.trans hn)
        clear hn
        rw [beq_self_eq_true]
        go_wp2_with fail
        refine (set_41 _ _ _ _ _ H2.out HDI.out).mono ?_
        rintro e wN ⟨a6, c6, rfl, hz6, hn⟩
        replace H2 := Lib.hid (H2.out.stay hn)
        replace HN := Lib.hid (HN.out.trans hn)
        have HQ6 := Lib.hid hz6
        clear hz6
        clear hn
        go_wp2_with fail
        refine (setr_41 _ _ _ _ _ H2.out HDI.out (by omega)).mono ?_
        rintro e wN ⟨a7, c7, rfl, hz7, hn⟩
        replace HQ6 := Lib.hid (HQ6.out.stay hn)
        replace HN := Lib.hid (HN.out.trans hn)
        have HQ7 := Lib.hid hz7
        clear hz7
        clear hn
        go_wp2_with fail
        refine (ints_ref _ _ _ _ _ _ _ _ _ HQ6.out HQ7.out).mono ?_
        rintro e wN ⟨rfl, hn⟩
        replace HN := Lib.hid (HN.out.trans hn)
        clear hn
        rw [beq_self_eq_true]
        go_wp2
        go_ret
        exact ⟨rfl, HN.out⟩
  have HC1 := Lib.hid (HC.out (n1 : Int))
  rw [show szE a0 (n1 : Int) = 0 from if_neg s1] at HC1
  have hb0 : 0 ≤ a0 ∧ a0 ≤ 256 ∧ (n1 : Int) ≤ a0 := by omega
  obtain ⟨nn, hnn⟩ : ∃ n : Nat, a0 = (n : Int) := ⟨a0.toNat, by omega⟩
  have HRI := Lib.hid (fun w (h : ZRow w a1 n1 m1 c) => right_41 a0 (by omega) a1 n1 m1 c w h (by omega))
  rcases hr : r2B a0 c n1 with _ | _
  · have HP := Lib.hid (pick_bad nn (by omega) a1 n1 m1 c wA H1.out (by omega) (hnn ▸ hr))
    rw [← hnn] at HP
    rw [hr] at HRI
    clear hr s1 hnn
    go_wp2_with fail
    refine (HP.out).mono ?_
    rintro e w' ⟨rfl, hw⟩
    replace hw := hw.symm
    subst hw
    go_wp2_with fail
    refine (HC1.out _).mono ?_
    rintro e w' ⟨rfl, hw⟩
    replace hw := hw.symm
    subst hw
    go_wp2_with fail
    refine (HRI.out _ H1.out).mono ?_
    rintro e w' ⟨rfl, hw⟩
    replace hw := hw.symm
    subst hw
    by_cases s2 : a0 < 0 ∨ 256 < a0 ∨ a0 < (n2 : Int)
    · have hE : szE a0 (n2 : Int) = 1 := if_pos s2
      have HC2 := Lib.hid (HC.out (n2 : Int))
      rw [hE] at HC2
      clear hE
      go_wp2_with fail
      refine (chc41_size a0 a2 n2 m2 _ (if_pos s2)).mono ?_
      rintro e w' ⟨rfl, hw⟩
      replace hw := hw.symm
      subst hw
      go_wp2_with fail
      refine (HC2.out _).mono ?_
      rintro e w' ⟨rfl, hw⟩
      replace hw := hw.symm
      subst hw
      go_wp2
      go_ret
      exact ⟨rfl, HN.out⟩
    · have HC2 := Lib.hid (HC.out (n2 : Int))
      rw [show szE a0 (n2 : Int) = 0 from if_neg s2] at HC2
      obtain ⟨n, rfl⟩ : ∃ n : Nat, a0 = (n : Int) := ⟨a0.toNat, by omega⟩
      have hn256 : n ≤ 256 := by omega
      have hKn : n2 ≤ n := by omega
      have HIS := Lib.hid (fun w (h : ZRow w a2 n2 m2 l) => isr_41 n (by omega) a2 n2 m2 l w h (by omega))
      by_cases hor : ipP n l
      case neg =>
        have HP2 := Lib.hid (chc41_bad n hn256 a2 n2 m2 l _ H2.out hKn hor)
        rw [ipB_no hor] at HIS
        clear hor
        go_wp2_with fail
        refine (HP2.out).mono ?_
        rintro e wN ⟨rfl, hn⟩
        replace H2 := Lib.hid (H2.out.stay hn)
        replace HN := Lib.hid (HN.out.trans hn)
        clear hn
        go_wp2_with fail
        refine (HC2.out _).mono ?_
        rintro e w' ⟨rfl, hw⟩
        replace hw := hw.symm
        subst hw
        go_wp2_with fail
        refine (HIS.out _ H2.out).mono ?_
        rintro e w' ⟨rfl, hw⟩
        replace hw := hw.symm
        subst hw
        go_wp2
        go_ret
        exact ⟨rfl, HN.out⟩
      case pos =>
        rw [ipB_iff.2 hor] at HIS
        have hdi : ∀ j k, j < k → k < l.length → l.getD j 0 ≠ l.getD k 0 := hor.2
        have HDI := Lib.hid hdi
        obtain ⟨cl, hcl, hrp, hpk⟩ := pk_all hor (by rw [HL2.out]; exact hKn)
        have hcn : cl.length = n2 := hcl.trans HL2.out
        have h2 := H2.out
        rw [← hpk] at h2
        have HP2 := Lib.hid (chc_41 n hn256 a2 n2 m2 cl _ h2 hrp hcn)
        have HRC := Lib.hid (fun w a k (h : ZRow w a n2 k cl) => right_41 (n : Int) (by omega) a n2 k cl w h (by omega))
        rw [r2B_of hcn hrp] at HRC
        have HPK := Lib.hid (fun w a k (h : ZRow w a n2 k cl) => pickr_41 n (by omega) a n2 k cl w h hrp)
        rw [hpk] at HPK
        clear hor hdi hcl hrp hpk hcn h2
        go_wp2_with fail
        refine (HP2.out).mono ?_
        rintro e wN ⟨a8, c8, rfl, hz8, hn⟩
        replace H2 := Lib.hid (H2.out.stay hn)
        replace HN := Lib.hid (HN.out.trans hn)
        have HQ := Lib.hid hz8
        clear hz8
        clear hn
        go_wp2_with fail
        refine (HC2.out _).mono ?_
        rintro e w' ⟨rfl, hw⟩
        replace hw := hw.symm
        subst hw
        go_wp2_with fail
        refine (HIS.out _ H2.out).mono ?_
        rintro e w' ⟨rfl, hw⟩
        replace hw := hw.symm
        subst hw
        have hll : ((n2 : Int) == (n2 : Int)) = true := by simp
        go_wp2_with fail
        refine (HRC.out _ _ _ HQ.out).mono ?_
        rintro e w' ⟨rfl, hw⟩
        replace hw := hw.symm
        subst hw
        go_wp2_with fail
        refine (HPK.out _ _ _ HQ.out).mono ?_
        rintro e wN ⟨a9, c9, rfl, hz9, hn⟩
        replace H2 := Lib.hid (H2.out.stay hn)
        replace HN := Lib.hid (HN.out.trans hn)
        have HQ9 := Lib.hid hz9
        clear hz9
        clear hn
        go_wp2_with fail
        refine (ints_ref _ _ _ _ _ _ _ _ _ HQ9.out H2.out).mono ?_
        rintro e wN ⟨rfl, hn⟩
        replace H2 := Lib.hid (H2.out.stay hn)
        replace HN := Lib.hid (HN.out.trans hn)
        clear hn
        rw [beq_self_eq_true]
        go_wp2_with fail
        refine (set_41 _ _ _ _ _ H2.out HDI.out).mono ?_
        rintro e wN ⟨a6, c6, rfl, hz6, hn⟩
        replace H2 := Lib.hid (H2.out.stay hn)
        replace HN := Lib.hid (HN.out.trans hn)
        have HQ6 := Lib.hid hz6
        clear hz6
        clear hn
        go_wp2_with fail
        refine (setr_41 _ _ _ _ _ H2.out HDI.out (by omega)).mono ?_
        rintro e wN ⟨a7, c7, rfl, hz7, hn⟩
        replace HQ6 := Lib.hid (HQ6.out.stay hn)
        replace HN := Lib.hid (HN.out.trans hn)
        have HQ7 := Lib.hid hz7
        clear hz7
        clear hn
        go_wp2_with fail
        refine (ints_ref _ _ _ _ _ _ _ _ _ HQ6.out HQ7.out).mono ?_
        rintro e wN ⟨rfl, hn⟩
        replace HN := Lib.hid (HN.out.trans hn)
        clear hn
        rw [beq_self_eq_true]
        go_wp2
        go_ret
        exact ⟨rfl, HN.out⟩
  · have hrp := rp2_of HL1.out (by omega) (hnn ▸ hr)
    have HP := Lib.hid (pick_ok nn (by omega) a1 n1 m1 c wA H1.out hrp)
    have HPR := Lib.hid (fun w (h : ZRow w a1 n1 m1 c) => pickr_41 nn (by omega) a1 n1 m1 c w h hrp)
    rw [← hnn] at HP HPR
    rw [hr] at HRI
    clear hr s1 hnn hrp
    go_wp2_with fail
    refine (HP.out).mono ?_
    rintro e wN ⟨a4, c4, rfl, hz4, hn⟩
    replace H1 := Lib.hid (H1.out.stay hn)
    replace H2 := Lib.hid (H2.out.stay hn)
    replace HN := Lib.hid (HN.out.trans hn)
    have HQ4 := Lib.hid hz4
    clear hz4
    clear hn
    go_wp2_with fail
    refine (HC1.out _).mono ?_
    rintro e w' ⟨rfl, hw⟩
    replace hw := hw.symm
    subst hw
    go_wp2_with fail
    refine (HRI.out _ H1.out).mono ?_
    rintro e w' ⟨rfl, hw⟩
    replace hw := hw.symm
    subst hw
    go_wp2_with fail
    refine (HPR.out _ H1.out).mono ?_
    rintro e wN ⟨a5, c5, rfl, hz5, hn⟩
    replace H2 := Lib.hid (H2.out.stay hn)
    replace HQ4 := Lib.hid (HQ4.out.stay hn)
    replace HN := Lib.hid (HN.out.trans hn)
    have HQ5 := Lib.hid hz5
    clear hz5
    clear hn
    go_wp2_with fail
    refine (ints_ref _ _ _ _ _ _ _ _ _ HQ4.out HQ5.out).mono ?_
    rintro e wN ⟨rfl, hn⟩
    replace H2 := Lib.hid (H2.out.stay hn)
    replace HN := Lib.hid (HN.out.trans hn)
    clear hn
    rw [beq_self_eq_true]
    by_cases s2 : a0 < 0 ∨ 256 < a0 ∨ a0 < (n2 : Int)
    · have hE : szE a0 (n2 : Int) = 1 := if_pos s2
      have HC2 := Lib.hid (HC.out (n2 : Int))
      rw [hE] at HC2
      clear hE
      go_wp2_with fail
      refine (chc41_size a0 a2 n2 m2 _ (if_pos s2)).mono ?_
      rintro e w' ⟨rfl, hw⟩
      replace hw := hw.symm
      subst hw
      go_wp2_with fail
      refine (HC2.out _).mono ?_
      rintro e w' ⟨rfl, hw⟩
      replace hw := hw.symm
      subst hw
      go_wp2
      go_ret
      exact ⟨rfl, HN.out⟩
    · have HC2 := Lib.hid (HC.out (n2 : Int))
      rw [show szE a0 (n2 : Int) = 0 from if_neg s2] at HC2
      obtain ⟨n, rfl⟩ : ∃ n : Nat, a0 = (n : Int) := ⟨a0.toNat, by omega⟩
      have hn256 : n ≤ 256 := by omega
      have hKn : n2 ≤ n := by omega
      have HIS := Lib.hid (fun w (h : ZRow w a2 n2 m2 l) => isr_41 n (by omega) a2 n2 m2 l w h (by omega))
      by_cases hor : ipP n l
      case neg =>
        have HP2 := Lib.hid (chc41_bad n hn256 a2 n2 m2 l _ H2.out hKn hor)
        rw [ipB_no hor] at HIS
        clear hor
        go_wp2_with fail
        refine (HP2.out).mono ?_
        rintro e wN ⟨rfl, hn⟩
        replace H2 := Lib.hid (H2.out.stay hn)
        replace HN := Lib.hid (HN.out.trans hn)
        clear hn
        go_wp2_with fail
        refine (HC2.out _).mono ?_
        rintro e w' ⟨rfl, hw⟩
        replace hw := hw.symm
        subst hw
        go_wp2_with fail
        refine (HIS.out _ H2.out).mono ?_
        rintro e w' ⟨rfl, hw⟩
        replace hw := hw.symm
        subst hw
        go_wp2
        go_ret
        exact ⟨rfl, HN.out⟩
      case pos =>
        rw [ipB_iff.2 hor] at HIS
        have hdi : ∀ j k, j < k → k < l.length → l.getD j 0 ≠ l.getD k 0 := hor.2
        have HDI := Lib.hid hdi
        obtain ⟨cl, hcl, hrp, hpk⟩ := pk_all hor (by rw [HL2.out]; exact hKn)
        have hcn : cl.length = n2 := hcl.trans HL2.out
        have h2 := H2.out
        rw [← hpk] at h2
        have HP2 := Lib.hid (chc_41 n hn256 a2 n2 m2 cl _ h2 hrp hcn)
        have HRC := Lib.hid (fun w a k (h : ZRow w a n2 k cl) => right_41 (n : Int) (by omega) a n2 k cl w h (by omega))
        rw [r2B_of hcn hrp] at HRC
        have HPK := Lib.hid (fun w a k (h : ZRow w a n2 k cl) => pickr_41 n (by omega) a n2 k cl w h hrp)
        rw [hpk] at HPK
        clear hor hdi hcl hrp hpk hcn h2
        go_wp2_with fail
        refine (HP2.out).mono ?_
        rintro e wN ⟨a8, c8, rfl, hz8, hn⟩
        replace H2 := Lib.hid (H2.out.stay hn)
        replace HN := Lib.hid (HN.out.trans hn)
        have HQ := Lib.hid hz8
        clear hz8
        clear hn
        go_wp2_with fail
        refine (HC2.out _).mono ?_
        rintro e w' ⟨rfl, hw⟩
        replace hw := hw.symm
        subst hw
        go_wp2_with fail
        refine (HIS.out _ H2.out).mono ?_
        rintro e w' ⟨rfl, hw⟩
        replace hw := hw.symm
        subst hw
        have hll : ((n2 : Int) == (n2 : Int)) = true := by simp
        go_wp2_with fail
        refine (HRC.out _ _ _ HQ.out).mono ?_
        rintro e w' ⟨rfl, hw⟩
        replace hw := hw.symm
        subst hw
        go_wp2_with fail
        refine (HPK.out _ _ _ HQ.out).mono ?_
        rintro e wN ⟨a9, c9, rfl, hz9, hn⟩
        replace H2 := Lib.hid (H2.out.stay hn)
        replace HN := Lib.hid (HN.out.trans hn)
        have HQ9 := Lib.hid hz9
        clear hz9
        clear hn
        go_wp2_with fail
        refine (ints_ref _ _ _ _ _ _ _ _ _ HQ9.out H2.out).mono ?_
        rintro e wN ⟨rfl, hn⟩
        replace H2 := Lib.hid (H2.out.stay hn)
        replace HN := Lib.hid (HN.out.trans hn)
        clear hn
        rw [beq_self_eq_true]
        go_wp2_with fail
        refine (set_41 _ _ _ _ _ H2.out HDI.out).mono ?_
        rintro e wN ⟨a6, c6, rfl, hz6, hn⟩
        replace H2 := Lib.hid (H2.out.stay hn)
        replace HN := Lib.hid (HN.out.trans hn)
        have HQ6 := Lib.hid hz6
        clear hz6
        clear hn
        go_wp2_with fail
        refine (setr_41 _ _ _ _ _ H2.out HDI.out (by omega)).mono ?_
        rintro e wN ⟨a7, c7, rfl, hz7, hn⟩
        replace HQ6 := Lib.hid (HQ6.out.stay hn)
        replace HN := Lib.hid (HN.out.trans hn)
        have HQ7 := Lib.hid hz7
        clear hz7
        clear hn
        go_wp2_with fail
        refine (ints_ref _ _ _ _ _ _ _ _ _ HQ6.out HQ7.out).mono ?_
        rintro e wN ⟨rfl, hn⟩
        replace HN := Lib.hid (HN.out.trans hn)
        clear hn
        rw [beq_self_eq_true]
        go_wp2
        go_ret
        exact ⟨rfl, HN.out⟩
end Go.Proofs.Ytaajphopnmdmcaa
