/- The example of mers (awake); the walks of the statements MersReckons, MersPowers and MersInverts: for all numbers. -/
import Derived.Test.YtadaaihbeapibaaMerB
import Derived.Test.YtadaaihbeapibaaFer
namespace Go.Bv
open Go Go.RowKit
set_option linter.unusedVariables false
/-- the field of a prime: its powers reach all but 0 -/
theorem pM_gen (k : Int) (h : ¬ pM k = 0#64) : ∃ g l, Fer.Gen (pM k).toNat g l ∧ 2 < (pM k).toNat := by
  by_cases h1 : k = 31
  · subst h1; exact ⟨7, _, by rw [pM31]; exact Fer.gen31, by rw [pM31]; decide +kernel⟩
  · by_cases h2 : k = 61
    · subst h2; exact ⟨37, _, by rw [pM61]; exact Fer.gen61, by rw [pM61]; decide +kernel⟩
    · exact absurd (pM_no h1 h2) h
theorem mod_ne {a p : BitVec 64} (ha : (a % p == 0#64) = false) : a.toNat % p.toNat ≠ 0 := by
  intro h
  exact (ne_of_beq_false ha) (BitVec.eq_of_toNat_eq (by rw [BitVec.toNat_umod, h]; rfl))
theorem fermat_pM (k : Int) (hp : ¬ pM k = 0#64) (a : BitVec 64) (ha : (a % pM k == 0#64) = false) : md (a.toNat ^ (pM k - 1#64).toNat) (pM k) = 1#64 := by
  obtain ⟨g, l, hg, h2⟩ := pM_gen k hp
  have := hg.fermat a.toNat (mod_ne ha)
  symm
  apply md_eq hp
  rw [sub_nat (by rw [show (1#64).toNat = 1 from rfl]; omega), show (1#64).toNat = 1 from rfl, this]
theorem inv_pM (k : Int) (hp : ¬ pM k = 0#64) (a : BitVec 64) (ha : (a % pM k == 0#64) = false) : md (a.toNat * (md (a.toNat ^ (pM k - 2#64).toNat) (pM k)).toNat) (pM k) = 1#64 := by
  obtain ⟨g, l, hg, h2⟩ := pM_gen k hp
  have := hg.inv h2 a.toNat (mod_ne ha)
  symm
  apply md_eq hp
  rw [sub_nat (by rw [show (2#64).toNat = 2 from rfl]; omega), show (2#64).toNat = 2 from rfl, md_nat hp, this]; rfl
theorem mul_pM (k : Int) (hp : ¬ pM k = 0#64) (a b : BitVec 64) (ha : (a % pM k == 0#64) = false) (hb : (b % pM k == 0#64) = false) : (md (a.toNat * b.toNat) (pM k) != 0#64) = true := by
  obtain ⟨g, l, hg, h2⟩ := pM_gen k hp
  have := hg.mul_ne a.toNat b.toNat (mod_ne ha) (mod_ne hb)
  rw [bne_iff_ne]
  intro h
  have e := md_nat (N := a.toNat * b.toNat) hp
  rw [h] at e
  exact this e.symm
theorem two_inv61 : md ((2#64).toNat ^ (pM 61 - 2#64).toNat) (pM 61) = 1152921504606846976#64 := by
  have h := Fer.powm_eq (pM 61).toNat 61 (2#64).toNat (pM 61 - 2#64).toNat (by rw [pM61]; decide +kernel)
  symm
  apply md_eq (by rw [pM61]; decide +kernel)
  rw [← h, pM61]; decide +kernel
end Go.Bv
namespace Go.Proofs.Ytadaaihbeapibaa
open Go.RowKit Go.Bv
set_option linter.unusedVariables false
set_option maxHeartbeats 1000000 in
theorem awake04 (w : World) :
    Calls Try.prog 24 #[] w fun e w' => e = .returned (.bool true) ∧ New w w' := by
  have h1 : ∀ w, Calls Try.prog 34 #[.int .i64 61, .int .u64 2] w fun e w' => e = .returned (.tuple #[.int .u64 1152921504606846976, .bool true]) ∧ New w w' := by
    intro w
    have h := merinv_any 61 2#64 w
    rw [two_inv61, show md (2#64).toNat (pM 61) = 2#64 from by rw [pM61]; decide +kernel, if_neg (by decide), show W64 2#64 = 2 from W64_lit 2 (by omega), show W64 1152921504606846976#64 = 1152921504606846976 from W64_lit 1152921504606846976 (by omega)] at h
    exact h
  have h2 : ∀ w, Calls Try.prog 31 #[.int .i64 31, .agg #[.int .u64 0, .int .u64 2147483648]] w fun e w' => e = .returned (.int .u64 1) ∧ New w w' := by
    intro w
    have h := fold_lo 2147483648#64 31 w
    rw [show md (2147483648#64).toNat (pM 31) = 1#64 from by rw [pM31]; decide +kernel, show W64 2147483648#64 = 2147483648 from W64_lit 2147483648 (by omega), show W64 1#64 = 1 from W64_lit 1 (by omega)] at h
    exact h
  have h3 : ∀ w, Calls Try.prog 26 #[.int .i64 7] w fun e w' => e = .returned (.int .u64 0) ∧ w' = w := by
    intro w
    have h := mp_any 7 w
    rw [pM_no (by omega) (by omega), lo_zero] at h
    exact h
  have H1 := Lib.hid h1
  have H2 := Lib.hid h2
  have H3 := Lib.hid h3
  clear h1 h2 h3
  go_enter Try.func24, Try.ntmps24
  go_wp2_with fail
  refine (H1.out _).mono ?_
  rintro e w1 ⟨rfl, hn1⟩
  go_wp2_with fail
  refine (H2.out _).mono ?_
  rintro e w2 ⟨rfl, hn2⟩
  go_wp2_with fail
  refine (H3.out _).mono ?_
  rintro e w3 ⟨rfl, rfl⟩
  go_wp2
  go_ret
  exact ⟨rfl, hn1.trans hn2⟩
set_option maxHeartbeats 2000000 in
theorem MersReckons_walk (W : World) (a0 : Int) (w0 : (Lit.int .i64 a0).wf = true) (a1 : Int) (w1 : (Lit.int .u64 a1).wf = true) (a2 : Int) (w2 : (Lit.int .u64 a2).wf = true) :
    Calls Try.prog 6 #[.int .i64 a0, .int .u64 a1, .int .u64 a2] W fun e w' => e = .returned (.bool true) ∧ Below W.heap.size W w' := by
  obtain ⟨a, rfl⟩ := wf64 w1
  obtain ⟨b, rfl⟩ := wf64 w2
  have HP := Lib.hid (fun w => mp_any a0 w)
  have HRP := Lib.hid (fun w => rp_any a0 w)
  have HA := Lib.hid (fun w => meradd_any a0 a b w)
  have HM := Lib.hid (fun w => mermul_any a0 a b w)
  have HI := Lib.hid (fun w => meris_any a0 a w)
  have HS := Lib.hid (fun w => mersub_any a0 a b w)
  generalize pM a0 = n at *
  have hcase : (n = 0#64 ∧ md (a.toNat + (n - md b.toNat n).toNat) n = 0#64) ∨ ((n == 0#64) = false ∧ ¬ W64 n = 0 ∧ (decide (W64 (md (a.toNat + (n - md b.toNat n).toNat) n) < W64 n) = true) ∧ md ((md (a.toNat + (n - md b.toNat n).toNat) n).toNat + b.toNat) n = a % n) := by
    by_cases h : n = 0#64
    · exact Or.inl ⟨h, by rw [h, md_zero]⟩
    · have hp := pos_of_ne h
      refine Or.inr ⟨by rw [beq_eq_false_iff_ne]; exact h, by unfold W64; omega, nat_lt (md_lt h), ?_⟩
      symm
      apply md_eq h
      have h2 := Nat.mod_lt b.toNat hp
      rw [BitVec.toNat_umod, md_nat h, Nat.mod_add_mod, sub_nat (by rw [md_nat h]; omega), md_nat h]
      have h1 := Nat.div_add_mod b.toNat n.toNat
      have e : a.toNat + (n.toNat - b.toNat % n.toNat) + b.toNat = a.toNat + n.toNat * (b.toNat / n.toNat + 1) := by
        rw [Nat.mul_add, Nat.mul_one]; omega
      rw [e, Nat.add_mul_mod_self_left]
  have HC := Lib.hid hcase
  clear hcase
  generalize md (a.toNat + (n - md b.toNat n).toNat) n = d at HC HS
  go_enter Try.func6, Try.ntmps6
  go_wp2_with fail
  refine (awake04 _).mono ?_
  rintro e w ⟨rfl, hg⟩
  go_wp2_with fail
  refine (HRP.out _).mono ?_
  rintro e w' ⟨rfl, rfl⟩
  go_wp2_with fail
  refine (HP.out _).mono ?_
  rintro e w' ⟨rfl, rfl⟩
  go_wp2_with fail
  refine (HA.out _).mono ?_
  rintro e w1 ⟨rfl, hn1⟩
  go_wp2_with fail
  refine (radd_any _ _ _ _).mono ?_
  rintro e w' ⟨rfl, rfl⟩
  go_wp2_with fail
  refine (HM.out _).mono ?_
  rintro e w2 ⟨rfl, hn2⟩
  go_wp2_with fail
  refine (rmul_any _ _ _ _).mono ?_
  rintro e w' ⟨rfl, rfl⟩
  go_wp2_with fail
  refine (HI.out _).mono ?_
  rintro e w3 ⟨rfl, hn3⟩
  go_wp2_with fail
  refine (HS.out _).mono ?_
  rintro e w4 ⟨rfl, hn4⟩
  have hN : New W w4 := (((hg.trans hn1).trans hn2).trans hn3).trans hn4
  clear hg hn1 hn2 hn3 hn4
  rcases HC.out with ⟨rfl, hd⟩ | ⟨hb, hnz, hlt, hmd⟩
  · subst hd
    clear HC HS
    go_wp2
    go_ret
    exact ⟨rfl, hN⟩
  · have HR : Hid (∀ w, Calls Try.prog 15 #[.int .u64 (W64 d), .int .u64 (W64 b), .int .u64 (W64 n)] w fun e w' => e = .returned (.int .u64 (W64 (a % n))) ∧ w' = w) := Lib.hid (by
      rw [← hmd]; exact radd_any d b n)
    clear HC HS hmd
    go_wp2
    go_quiet (first | (go_at_call 15; refine Calls.quiet_of_same (HR.out _)))
    go_wp2
    go_ret
    exact ⟨rfl, hN.drewN nq⟩
set_option maxHeartbeats 2000000 in
theorem MersPowers_walk (W : World) (a0 : Int) (w0 : (Lit.int .i64 a0).wf = true) (a1 : Int) (w1 : (Lit.int .u64 a1).wf = true) (a2 : Int) (w2 : (Lit.int .u64 a2).wf = true) :
    Calls Try.prog 8 #[.int .i64 a0, .int .u64 a1, .int .u64 a2] W fun e w' => e = .returned (.bool true) ∧ Below W.heap.size W w' := by
  obtain ⟨a, rfl⟩ := wf64 w1
  obtain ⟨b, rfl⟩ := wf64 w2
  have HRP := Lib.hid (fun w => rp_any a0 w)
  have HW := Lib.hid (fun w => merpow_any a0 a b w)
  have HF := Lib.hid (fermat_pM a0)
  have HX := Lib.hid (fun w => merpow_any a0 a (pM a0 - 1#64) w)
  generalize pM a0 = n at *
  go_enter Try.func8, Try.ntmps8
  go_wp2_with fail
  refine (awake04 _).mono ?_
  rintro e w ⟨rfl, hg⟩
  go_wp2_with fail
  refine (HRP.out _).mono ?_
  rintro e w' ⟨rfl, rfl⟩
  go_wp2_with fail
  refine (HW.out _).mono ?_
  rintro e w1 ⟨rfl, hn1⟩
  go_wp2_with fail
  refine (rpow_any _ _ _ _).mono ?_
  rintro e w' ⟨rfl, rfl⟩
  have HN := Lib.hid (hg.trans hn1)
  clear hg hn1
  by_cases h : n = 0#64
  · subst h
    go_wp2
    go_ret
    exact ⟨rfl, HN.out⟩
  · have hb : (n == 0#64) = false := by rw [beq_eq_false_iff_ne]; exact h
    have hnz : ¬ W64 n = 0 := by have hp := pos_of_ne h; unfold W64; omega
    rcases ha : (a % n == 0#64)
    · have HG := Lib.hid (HF.out h a ha)
      rw [HG.out] at HX
      clear h HF HG
      go_wp2_with fail
      refine (HX.out _).mono ?_
      rintro e w2 ⟨rfl, hn2⟩
      go_wp2
      go_ret
      exact ⟨rfl, HN.out.trans hn2⟩
    · clear h HF
      go_wp2
      go_ret
      exact ⟨rfl, HN.out⟩
set_option maxHeartbeats 2000000 in
theorem MersInverts_walk (W : World) (a0 : Int) (w0 : (Lit.int .i64 a0).wf = true) (a1 : Int) (w1 : (Lit.int .u64 a1).wf = true) (a2 : Int) (w2 : (Lit.int .u64 a2).wf = true) :
    Calls Try.prog 9 #[.int .i64 a0, .int .u64 a1, .int .u64 a2] W fun e w' => e = .returned (.bool true) ∧ Below W.heap.size W w' := by
  obtain ⟨a, rfl⟩ := wf64 w1
  obtain ⟨b, rfl⟩ := wf64 w2
  have HRP := Lib.hid (fun w => rp_any a0 w)
  have hi := fun w => merinv_any a0 a w
  have hr := fun w => rinv_any a0 a w
  have HM := Lib.hid (fun w => mermul_any a0 a b w)
  have HINV := Lib.hid (inv_pM a0)
  have HMUL := Lib.hid (mul_pM a0)
  have hz := md_zero_test a (pM a0)
  generalize pM a0 = n at *
  by_cases h : n = 0#64
  · rw [if_pos h] at hz
    simp only [hz, if_true] at hi hr
    rw [show (0#64 != 0#64) = false from rfl, lo_zero] at hi hr
    have HI := Lib.hid hi
    have HR := Lib.hid hr
    clear hz hi hr HM HINV HMUL
    subst h
    go_enter Try.func9, Try.ntmps9
    go_wp2_with fail
    refine (awake04 _).mono ?_
    rintro e w ⟨rfl, hg⟩
    go_wp2_with fail
    refine (HRP.out _).mono ?_
    rintro e w' ⟨rfl, rfl⟩
    go_wp2_with fail
    refine (HI.out _).mono ?_
    rintro e w1 ⟨rfl, hn1⟩
    go_wp2_with fail
    refine (HR.out _).mono ?_
    rintro e w' ⟨rfl, rfl⟩
    have HN := Lib.hid (hg.trans hn1)
    clear hg hn1
    go_wp2
    go_ret
    exact ⟨rfl, HN.out⟩
  · have hb : (n == 0#64) = false := by rw [beq_eq_false_iff_ne]; exact h
    have hnz : ¬ W64 n = 0 := by have hp := pos_of_ne h; unfold W64; omega
    rw [if_neg h] at hz
    rcases ha : (a % n == 0#64)
    · have hne : ¬ md a.toNat n = 0#64 := by rw [hz]; exact ne_of_beq_false ha
      simp only [if_neg hne] at hi hr
      rw [show (md a.toNat n != 0#64) = true from by rw [bne_iff_ne]; exact hne] at hi hr
      have HI := Lib.hid hi
      have HR := Lib.hid hr
      have HG := Lib.hid (HINV.out h a ha)
      have hlt : decide (W64 (md (a.toNat ^ (n - 2#64).toNat) n) < W64 n) = true := nat_lt (md_lt h)
      have HMB := Lib.hid (fun hb => HMUL.out h a b ha hb)
      clear hz hi hr hne h HINV HMUL
      generalize md (a.toNat ^ (n - 2#64).toNat) n = r at *
      have HRM : Hid (∀ w, Calls Try.prog 17 #[.int .u64 (W64 a), .int .u64 (W64 r), .int .u64 (W64 n)] w fun e w' => e = .returned (.int .u64 (W64 1#64)) ∧ w' = w) := Lib.hid (by
        rw [← HG.out]; exact rmul_any a r n)
      go_enter Try.func9, Try.ntmps9
      go_wp2_with fail
      refine (awake04 _).mono ?_
      rintro e w ⟨rfl, hg⟩
      go_wp2_with fail
      refine (HRP.out _).mono ?_
      rintro e w' ⟨rfl, rfl⟩
      go_wp2_with fail
      refine (HI.out _).mono ?_
      rintro e w1 ⟨rfl, hn1⟩
      go_wp2_with fail
      refine (HR.out _).mono ?_
      rintro e w' ⟨rfl, rfl⟩
      have HN := Lib.hid (hg.trans hn1)
      clear hg hn1
      go_wp2_with fail
      refine (HRM.out _).mono ?_
      rintro e w' ⟨rfl, rfl⟩
      rcases hbb : (b % n == 0#64)
      · have HQ := Lib.hid (HMB.out hbb)
        have hq := HQ.out
        go_wp2_with fail
        refine (HM.out _).mono ?_
        rintro e w5 ⟨rfl, hn5⟩
        go_wp2
        go_ret
        exact ⟨rfl, HN.out.trans hn5⟩
      · go_wp2
        go_ret
        exact ⟨rfl, HN.out⟩
    · have he : md a.toNat n = 0#64 := by rw [hz]; exact eq_of_beq ha
      simp only [if_pos he] at hi hr
      rw [show (md a.toNat n != 0#64) = false from by rw [he]; rfl, lo_zero] at hi hr
      have HI := Lib.hid hi
      have HR := Lib.hid hr
      clear hz hi hr he h HINV HMUL HM
      go_enter Try.func9, Try.ntmps9
      go_wp2_with fail
      refine (awake04 _).mono ?_
      rintro e w ⟨rfl, hg⟩
      go_wp2_with fail
      refine (HRP.out _).mono ?_
      rintro e w' ⟨rfl, rfl⟩
      go_wp2_with fail
      refine (HI.out _).mono ?_
      rintro e w1 ⟨rfl, hn1⟩
      go_wp2_with fail
      refine (HR.out _).mono ?_
      rintro e w' ⟨rfl, rfl⟩
      have HN := Lib.hid (hg.trans hn1)
      clear hg hn1
      go_wp2
      go_ret
      exact ⟨rfl, HN.out⟩
end Go.Proofs.Ytadaaihbeapibaa
