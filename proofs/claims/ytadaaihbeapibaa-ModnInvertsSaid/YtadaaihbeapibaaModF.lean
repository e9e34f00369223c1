/- The example of modn (awake); the walks of the statements ModnReckons and ModnOnly: for all words. -/
import Derived.Test.YtadaaihbeapibaaModE
import Derived.Deep.RegionWith
namespace Go.Proofs.Ytadaaihbeapibaa
open Go.RowKit Go.Bv
set_option linter.unusedVariables false
set_option maxHeartbeats 1000000 in
theorem awake03 (w : World) :
    Calls Try.prog 13 #[] w fun e w' => e = .returned (.bool true) ∧ New w w' := by
  have h1 : ∀ w, Calls Try.prog 23 #[.int .u64 3, .int .u64 10] w fun e w' => e = .returned (.tuple #[.int .u64 7, .bool true]) ∧ New w w' := by
    intro w
    have h := inv_any 3#64 10#64 (by decide) w
    rw [show W64 3#64 = 3 from W64_lit 3 (by omega), show W64 10#64 = 10 from W64_lit 10 (by omega)] at h
    refine h.mono ?_
    rintro e w' ⟨v, ok, rfl, hn, ⟨rfl, h1, h2, h3⟩ | ⟨rfl, h1, h2⟩⟩
    · have hv : v = 7#64 := BitVec.eq_of_toNat_eq (by
        rw [show (3#64).toNat = 3 from rfl, show (10#64).toNat = 10 from rfl] at *
        rw [show (7#64).toNat = 7 from rfl]
        omega)
      rw [hv, show W64 7#64 = 7 from W64_lit 7 (by omega)]
      exact ⟨rfl, hn⟩
    · exact absurd (by decide) h2
  have h2 : ∀ w, Calls Try.prog 23 #[.int .u64 2, .int .u64 10] w fun e w' => e = .returned (.tuple #[.int .u64 0, .bool false]) ∧ New w w' := by
    intro w
    have h := inv_any 2#64 10#64 (by decide) w
    rw [show W64 2#64 = 2 from W64_lit 2 (by omega), show W64 10#64 = 10 from W64_lit 10 (by omega)] at h
    refine h.mono ?_
    rintro e w' ⟨v, ok, rfl, hn, ⟨rfl, h1, h2, h3⟩ | ⟨rfl, h1, h2⟩⟩
    · exact absurd h1 (by decide)
    · rw [h1, lo_zero]
      exact ⟨rfl, hn⟩
  have h3 : ∀ w, Calls Try.prog 53 #[.int .u64 3] w fun e w' => e = .returned (.tuple #[.int .u64 12297829382473034411, .bool true]) ∧ w' = w := by
    intro w
    have h := odd_any 3#64 (by decide) w
    rw [show inv5 3#64 5 = 12297829382473034411#64 by decide +kernel, show W64 3#64 = 3 from W64_lit 3 (by omega), show W64 12297829382473034411#64 = 12297829382473034411 from W64_lit 12297829382473034411 (by omega)] at h
    exact h
  have H1 := Lib.hid h1
  have H2 := Lib.hid h2
  have H3 := Lib.hid h3
  clear h1 h2 h3
  go_enter Try.func13, Try.ntmps13
  go_wp2_with fail
  refine (H1.out _).mono ?_
  rintro e w1 ⟨rfl, hn1⟩
  go_wp2_with fail
  refine (H2.out _).mono ?_
  rintro e w2 ⟨rfl, hn2⟩
  go_wp2_with fail
  refine (H3.out _).mono ?_
  rintro e w3 ⟨rfl, rfl⟩
  go_wp2
  go_ret
  exact ⟨rfl, hn1.trans hn2⟩
set_option maxHeartbeats 2000000 in
theorem ModnReckons_walk (W : World) (a0 : Int) (w0 : (Lit.int .u64 a0).wf = true) (a1 : Int) (w1 : (Lit.int .u64 a1).wf = true) (a2 : Int) (w2 : (Lit.int .u64 a2).wf = true) :
    Calls Try.prog 3 #[.int .u64 a0, .int .u64 a1, .int .u64 a2] W fun e w' => e = .returned (.bool true) ∧ Below W.heap.size W w' := by
  obtain ⟨a, rfl⟩ := wf64 w0
  obtain ⟨b, rfl⟩ := wf64 w1
  obtain ⟨n, rfl⟩ := wf64 w2
  have hcase : (n = 0#64 ∧ md (a.toNat + (n.toNat - b.toNat % n.toNat)) n = 0#64) ∨ ((n == 0#64) = false ∧ ¬ W64 n = 0 ∧ (decide (W64 (md (a.toNat + (n.toNat - b.toNat % n.toNat)) n) < W64 n) = true) ∧ md ((md (a.toNat + (n.toNat - b.toNat % n.toNat)) n).toNat + b.toNat) n = a % n) := by
    by_cases h : n = 0#64
    · exact Or.inl ⟨h, by rw [h, md_zero]⟩
    · have hp := pos_of_ne h
      refine Or.inr ⟨by rw [beq_eq_false_iff_ne]; exact h, by unfold W64; omega, nat_lt (md_lt h), ?_⟩
      symm
      apply md_eq h
      rw [BitVec.toNat_umod, md_nat h, Nat.mod_add_mod]
      have h1 := Nat.div_add_mod b.toNat n.toNat
      have h2 := Nat.mod_lt b.toNat hp
      have e : a.toNat + (n.toNat - b.toNat % n.toNat) + b.toNat = a.toNat + n.toNat * (b.toNat / n.toNat + 1) := by
        rw [Nat.mul_add, Nat.mul_one]; omega
      rw [e, Nat.add_mul_mod_self_left]
  have HC := Lib.hid hcase
  have HSUB := Lib.hid (msub_any a b n)
  clear hcase
  generalize md (a.toNat + (n.toNat - b.toNat % n.toNat)) n = d at HC HSUB
  go_enter Try.func3, Try.ntmps3
  go_wp2_with fail
  refine (awake03 _).mono ?_
  rintro e w ⟨rfl, hg⟩
  go_wp2_with fail
  refine (madd_any _ _ _ _).mono ?_
  rintro e w1 ⟨rfl, hn1⟩
  go_wp2_with fail
  refine (radd_any _ _ _ _).mono ?_
  rintro e w' ⟨rfl, rfl⟩
  go_wp2_with fail
  refine (mmul_any _ _ _ _).mono ?_
  rintro e w2 ⟨rfl, hn2⟩
  go_wp2_with fail
  refine (rmul_any _ _ _ _).mono ?_
  rintro e w' ⟨rfl, rfl⟩
  go_wp2_with fail
  refine (mpow_any _ _ _ _).mono ?_
  rintro e w3 ⟨rfl, hn3⟩
  go_wp2_with fail
  refine (rpow_any _ _ _ _).mono ?_
  rintro e w' ⟨rfl, rfl⟩
  go_wp2_with fail
  refine (HSUB.out _).mono ?_
  rintro e w4 ⟨rfl, hn4⟩
  have hN : New W w4 := (((hg.trans hn1).trans hn2).trans hn3).trans hn4
  clear hg hn1 hn2 hn3 hn4
  rcases HC.out with ⟨rfl, hd⟩ | ⟨hb, hnz, hlt, hmd⟩
  · subst hd
    clear HC HSUB
    go_wp2
    go_ret
    exact ⟨rfl, hN⟩
  · have HR : Hid (∀ w, Calls Try.prog 15 #[.int .u64 (W64 d), .int .u64 (W64 b), .int .u64 (W64 n)] w fun e w' => e = .returned (.int .u64 (W64 (a % n))) ∧ w' = w) := Lib.hid (by
      rw [← hmd]; exact radd_any d b n)
    clear HC HSUB hmd
    go_wp2
    go_quiet (first | (go_at_call 15; refine Calls.quiet_of_same (HR.out _)))
    go_wp2
    go_ret
    exact ⟨rfl, hN.drewN nq⟩
theorem gcd_one_of_mul {a b n : Nat} (h : a * b % n = 1 % n) : Nat.gcd a n = 1 := by
  have h1 : Nat.gcd a n ∣ a * b := Nat.dvd_trans (Nat.gcd_dvd_left a n) (Nat.dvd_mul_right a b)
  have h2 : Nat.gcd a n ∣ n := Nat.gcd_dvd_right a n
  have h3 : Nat.gcd a n ∣ 1 % n := by rw [← h]; exact (Nat.dvd_mod_iff h2).2 h1
  have h4 : Nat.gcd a n ∣ 1 := (Nat.dvd_mod_iff h2).1 h3
  exact Nat.dvd_one.1 h4
theorem inv_unique {a v b n : Nat} (hv : v < n) (hb : b < n) (h1 : a * v % n = 1 % n) (h2 : a * b % n = 1 % n) : v = b := by
  have e1 : v * (a * b) % n = v % n := by rw [Nat.mul_mod, h2, ← Nat.mul_mod, Nat.mul_one]
  have e2 : v * (a * b) % n = b % n := by
    rw [show v * (a * b) = b * (a * v) by grind, Nat.mul_mod, h1, ← Nat.mul_mod, Nat.mul_one]
  rw [e1, Nat.mod_eq_of_lt hv, Nat.mod_eq_of_lt hb] at e2
  exact e2
set_option maxHeartbeats 2000000 in
theorem ModnOnly_walk (W : World) (a0 : Int) (w0 : (Lit.int .u64 a0).wf = true) (a1 : Int) (w1 : (Lit.int .u64 a1).wf = true) (a2 : Int) (w2 : (Lit.int .u64 a2).wf = true) :
    Calls Try.prog 5 #[.int .u64 a0, .int .u64 a1, .int .u64 a2] W fun e w' => e = .returned (.bool true) ∧ Below W.heap.size W w' := by
  obtain ⟨a, rfl⟩ := wf64 w0
  obtain ⟨n, rfl⟩ := wf64 w1
  obtain ⟨b, rfl⟩ := wf64 w2
  by_cases hbn : b.toNat < n.toNat
  · have hg0 : decide (W64 n ≤ W64 b) = false := decide_eq_false (by unfold W64; omega)
    have hn0 : ¬ n = 0#64 := by intro e; rw [e] at hbn; simp at hbn
    have hnz : ¬ W64 n = 0 := by unfold W64; omega
    have hmx : max (W64 n) 1 = W64 n := by unfold W64; omega
    have h1 : (1 : Int) % (W64 n) = W64 (1#64 % n) := by
      rw [← Int.tmod_eq_emod_of_nonneg (by omega)]
      have := rem_any 1#64 n
      rw [show W64 1#64 = 1 from W64_lit 1 (by omega)] at this
      exact this
    by_cases hm : md (a.toNat * b.toNat) n = 1#64 % n
    · have hne : (md (a.toNat * b.toNat) n != 1#64 % n) = false := by rw [bne_eq_false_iff_eq]; exact hm
      have hmn : a.toNat * b.toNat % n.toNat = 1 % n.toNat := by
        have := congrArg BitVec.toNat hm
        rw [md_nat hn0, BitVec.toNat_umod] at this
        exact this
      have HINV : Hid (∀ w, Calls Try.prog 23 #[.int .u64 (W64 a), .int .u64 (W64 n)] w fun e w' => e = .returned (.tuple #[.int .u64 (W64 b), .bool true]) ∧ New w w') := Lib.hid (by
        intro w
        refine (inv_any a n hn0 w).mono ?_
        rintro e w' ⟨v, ok, rfl, hn, ⟨rfl, h1, h2, h3⟩ | ⟨rfl, h1, h2⟩⟩
        · rw [BitVec.eq_of_toNat_eq (inv_unique h2 hbn h3 hmn)]
          exact ⟨rfl, hn⟩
        · exact absurd (gcd_one_of_mul hmn) h2)
      have HMUL := Lib.hid (rmul_any a b n)
      clear hm hmn hn0 hbn w0 w1 w2
      generalize md (a.toNat * b.toNat) n = m at *
      generalize 1#64 % n = o at *
      go_enter Try.func5, Try.ntmps5
      go_wp2_with fail
      refine (awake03 _).mono ?_
      rintro e w ⟨rfl, hg⟩
      go_wp2
      go_quiet (first | (go_at_call 17; refine Calls.quiet_of_same (HMUL.out _)))
      have hgN := hg.drewN nq
      generalize w.drewN nq = w5 at hgN ⊢
      clear hg
      go_wp2_with fail
      refine (HINV.out _).mono ?_
      rintro e w6 ⟨rfl, hn6⟩
      go_wp2
      go_ret
      exact ⟨rfl, hgN.trans hn6⟩
    · have hne : (md (a.toNat * b.toNat) n != 1#64 % n) = true := by rw [bne_iff_ne]; exact hm
      have HMUL := Lib.hid (rmul_any a b n)
      clear hm hn0 hbn w0 w1 w2
      generalize md (a.toNat * b.toNat) n = m at *
      generalize 1#64 % n = o at *
      go_enter Try.func5, Try.ntmps5
      go_wp2_with fail
      refine (awake03 _).mono ?_
      rintro e w ⟨rfl, hg⟩
      go_wp2
      go_quiet (first | (go_at_call 17; refine Calls.quiet_of_same (HMUL.out _)))
      go_wp2
      go_ret
      exact ⟨rfl, hg.drewN nq⟩
  · have hg0 : decide (W64 n ≤ W64 b) = true := decide_eq_true (by unfold W64; omega)
    clear hbn w0 w1 w2
    go_enter Try.func5, Try.ntmps5
    go_wp2_with fail
    refine (awake03 _).mono ?_
    rintro e w ⟨rfl, hg⟩
    go_wp2
    go_quiet (fail)
    go_wp2
    go_ret
    exact ⟨rfl, hg.drewN nq⟩
end Go.Proofs.Ytadaaihbeapibaa
