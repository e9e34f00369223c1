/- The laws LemireWords, LemireEven, walked. -/
import Derived.Test.YtipfkegpiimefaaLemG
namespace Go.Proofs.Ytipfkegpiimefaa
open Go.RowKit Go.Bv
set_option linter.unusedVariables false
theorem rank_zero_l (x : BitVec 64) (w : World) : Calls Try.prog 24 #[.int .u64 (W64 x), .int .u64 0] w fun e w' => e = .returned (.tuple #[.int .u64 0, .int .u64 0, .int .i64 8]) ∧ New w w' := by
  go_enter Try.func24, Try.ntmps24
  go_wp2
  go_returns
  exact ⟨rfl, New.refl _⟩
set_option maxHeartbeats 1000000 in
theorem rank_no_l (x n : BitVec 64) (hn0 : ¬ n = 0#64) (ht : takN x n = false) (w : World) : Calls Try.prog 24 #[.int .u64 (W64 x), .int .u64 (W64 n)] w fun e w' => e = .returned (.tuple #[.int .u64 0, .int .u64 0, .int .i64 2]) ∧ New w w' := by
  have HTK := Lib.hid (takes_l x n hn0)
  rw [ht] at HTK
  have HN := Lib.hid (New.refl w)
  have hz2 : (W64 n == 0) = false := by
    have := pos_of_ne hn0
    rw [beq_eq_false_iff_ne]; unfold W64; omega
  have hz3 : (n == 0#64) = false := beq_false_of_ne hn0
  clear ht hn0
  go_enter Try.func24, Try.ntmps24
  go_wp2_with fail
  refine (HTK.out _).mono ?_
  rintro e w9 ⟨rfl, hn⟩
  replace HN := Lib.hid (HN.out.trans hn)
  clear hn
  go_wp2
  go_returns
  exact ⟨rfl, HN.out⟩
set_option maxHeartbeats 2000000 in
theorem LemireWords_walk (W : World) (a0 : Int) (w0 : (Lit.int .u64 a0).wf = true) (a1 : Int) (w1 : (Lit.int .u64 a1).wf = true) :
    Calls Try.prog 4 #[.int .u64 a0, .int .u64 a1] W fun e w' => e = .returned (.bool true) ∧ Below W.heap.size W w' := by
  obtain ⟨x, rfl⟩ := ex64 a0 (by simp [Lit.wf, IntKind.min, IntKind.max, IntKind.signed, IntKind.bits] at w0; omega)
  obtain ⟨n, rfl⟩ := ex64 a1 (by simp [Lit.wf, IntKind.min, IntKind.max, IntKind.signed, IntKind.bits] at w1; omega)
  clear w0 w1
  have heq := equ128
  have HN := Lib.hid (New.refl W)
  have HA := Lib.hid awake_38
  by_cases h0 : n = 0#64
  · subst h0
    have h1 := loss_l 0#64
    have h2 := rloss_l 0#64
    have h3 := each_l 0#64
    have h4 := reach_l 0#64
    rw [show lossN 0#64 = 0#64 from md_zero _, show W64 0#64 = 0 by decide] at h1 h2
    rw [eachN_zero.1, eachN_zero.2, show W64 0#64 = 0 by decide] at h3 h4
    have heq0 := fun w => heq w 0#64 0#64 0#64 0#64
    rw [show W64 0#64 = 0 by decide] at heq0
    have H1 := Lib.hid h1
    have H2 := Lib.hid h2
    have H3 := Lib.hid h3
    have H4 := Lib.hid h4
    clear h1 h2 h3 h4 heq
    rw [show W64 0#64 = 0 by decide]
    go_enter Try.func4, Try.ntmps4
    go_wp2_with fail
    refine (HA.out _).mono ?_
    rintro e w9 ⟨rfl, hn⟩
    replace HN := Lib.hid (HN.out.trans hn)
    clear hn
    go_wp2_with fail
    refine (H1.out _).mono ?_
    rintro e w9 ⟨rfl, hn⟩
    replace HN := Lib.hid (HN.out.trans hn)
    clear hn
    go_wp2_with fail
    refine (H2.out _).mono ?_
    rintro e w9 ⟨rfl, hn⟩
    replace HN := Lib.hid (HN.out.trans hn)
    clear hn
    go_wp2_with fail
    refine (H3.out _).mono ?_
    rintro e w9 ⟨rfl, hn⟩
    replace HN := Lib.hid (HN.out.trans hn)
    clear hn
    go_wp2_with fail
    refine (H4.out _).mono ?_
    rintro e w9 ⟨rfl, hn⟩
    replace HN := Lib.hid (HN.out.trans hn)
    clear hn
    go_wp2_with fail
    refine (takes_zero_l x _).mono ?_
    rintro e w9 ⟨rfl, hn⟩
    replace HN := Lib.hid (HN.out.trans hn)
    clear hn
    go_wp2_with fail
    refine (rtakes_zero_l x _).mono ?_
    rintro e w9 ⟨rfl, hn⟩
    replace HN := Lib.hid (HN.out.trans hn)
    clear hn
    go_wp2_with fail
    refine (rank_zero_l x _).mono ?_
    rintro e w9 ⟨rfl, hn⟩
    replace HN := Lib.hid (HN.out.trans hn)
    clear hn
    go_wp2
    go_ret
    exact ⟨rfl, HN.out⟩
  · have z1 : (W64 n == 0) = false := by
      have := pos_of_ne h0
      rw [beq_eq_false_iff_ne]; unfold W64; omega
    have z2 : (n == 0#64) = false := beq_false_of_ne h0
    have H1 := Lib.hid (loss_l n)
    have H2 := Lib.hid (rloss_l n)
    have H3 := Lib.hid (each_l n)
    have H4 := Lib.hid (reach_l n)
    have H5 := Lib.hid (takes_l x n h0)
    have H6 := Lib.hid (rtakes_l x n h0)
    have H7 := Lib.hid (rrank_l x n h0)
    have H8 := Lib.hid (rank_l x n h0)
    have H9 := Lib.hid (rank_no_l x n h0)
    have HC := Lib.hid (fun ht => cmpN_yes (rnkN x n) n (rnk_ltN x n h0 ht))
    have hl : decide (W64 (telN x n) < W64 n) = true := by rw [decide_eq_true_eq]; have := tel_lt x n h0; unfold W64; omega
    obtain ⟨t, ht⟩ : ∃ t, takN x n = t := ⟨_, rfl⟩
    rw [ht] at H5 H6 H7 H8 H9 HC
    clear h0 ht
    generalize lossN n = s at *
    generalize eachNHi n = y1 at *
    generalize eachNLo n = y0 at *
    generalize rnkN x n = r at *
    generalize telN x n = v at *
    cases t
    · clear HC H7 H8 hl
      go_enter Try.func4, Try.ntmps4
      go_wp2_with fail
      refine (HA.out _).mono ?_
      rintro e w9 ⟨rfl, hn⟩
      replace HN := Lib.hid (HN.out.trans hn)
      clear hn
      go_wp2_with fail
      refine (H1.out _).mono ?_
      rintro e w9 ⟨rfl, hn⟩
      replace HN := Lib.hid (HN.out.trans hn)
      clear hn
      go_wp2_with fail
      refine (H2.out _).mono ?_
      rintro e w9 ⟨rfl, hn⟩
      replace HN := Lib.hid (HN.out.trans hn)
      clear hn
      go_wp2_with fail
      refine (H3.out _).mono ?_
      rintro e w9 ⟨rfl, hn⟩
      replace HN := Lib.hid (HN.out.trans hn)
      clear hn
      go_wp2_with fail
      refine (H4.out _).mono ?_
      rintro e w9 ⟨rfl, hn⟩
      replace HN := Lib.hid (HN.out.trans hn)
      clear hn
      go_wp2_with fail
      refine (H5.out _).mono ?_
      rintro e w9 ⟨rfl, hn⟩
      replace HN := Lib.hid (HN.out.trans hn)
      clear hn
      go_wp2_with fail
      refine (H6.out _).mono ?_
      rintro e w9 ⟨rfl, hn⟩
      replace HN := Lib.hid (HN.out.trans hn)
      clear hn
      go_wp2_with fail
      refine (H9.out trivial _).mono ?_
      rintro e w9 ⟨rfl, hn⟩
      replace HN := Lib.hid (HN.out.trans hn)
      clear hn
      go_wp2_with fail
      refine (H6.out _).mono ?_
      rintro e w9 ⟨rfl, hn⟩
      replace HN := Lib.hid (HN.out.trans hn)
      clear hn
      go_wp2
      go_ret
      exact ⟨rfl, HN.out⟩
    · clear H9
      go_enter Try.func4, Try.ntmps4
      go_wp2_with fail
      refine (HA.out _).mono ?_
      rintro e w9 ⟨rfl, hn⟩
      replace HN := Lib.hid (HN.out.trans hn)
      clear hn
      go_wp2_with fail
      refine (H1.out _).mono ?_
      rintro e w9 ⟨rfl, hn⟩
      replace HN := Lib.hid (HN.out.trans hn)
      clear hn
      go_wp2_with fail
      refine (H2.out _).mono ?_
      rintro e w9 ⟨rfl, hn⟩
      replace HN := Lib.hid (HN.out.trans hn)
      clear hn
      go_wp2_with fail
      refine (H3.out _).mono ?_
      rintro e w9 ⟨rfl, hn⟩
      replace HN := Lib.hid (HN.out.trans hn)
      clear hn
      go_wp2_with fail
      refine (H4.out _).mono ?_
      rintro e w9 ⟨rfl, hn⟩
      replace HN := Lib.hid (HN.out.trans hn)
      clear hn
      go_wp2_with fail
      refine (H5.out _).mono ?_
      rintro e w9 ⟨rfl, hn⟩
      replace HN := Lib.hid (HN.out.trans hn)
      clear hn
      go_wp2_with fail
      refine (H6.out _).mono ?_
      rintro e w9 ⟨rfl, hn⟩
      replace HN := Lib.hid (HN.out.trans hn)
      clear hn
      go_wp2_with fail
      refine (H8.out trivial _).mono ?_
      rintro e w9 ⟨rfl, hn⟩
      replace HN := Lib.hid (HN.out.trans hn)
      clear hn
      go_wp2_with fail
      refine (H6.out _).mono ?_
      rintro e w9 ⟨rfl, hn⟩
      replace HN := Lib.hid (HN.out.trans hn)
      clear hn
      go_wp2_with fail
      refine (H7.out trivial _).mono ?_
      rintro e w9 ⟨rfl, hn⟩
      replace HN := Lib.hid (HN.out.trans hn)
      clear hn
      go_wp2_with fail
      refine (H4.out _).mono ?_
      rintro e w9 ⟨rfl, hn⟩
      replace HN := Lib.hid (HN.out.trans hn)
      clear hn
      go_wp2_with fail
      refine (HC.out trivial _).mono ?_
      rintro e w9 ⟨rfl, hn⟩
      replace HN := Lib.hid (HN.out.trans hn)
      clear hn
      go_wp2
      go_ret
      exact ⟨rfl, HN.out⟩
set_option maxHeartbeats 2000000 in
theorem LemireEven_walk (W : World) (a0 : Int) (w0 : (Lit.int .u64 a0).wf = true) (a1 : Int) (w1 : (Lit.int .u64 a1).wf = true) (a2 : Int) (w2 : (Lit.int .u64 a2).wf = true) (a3 : Int) (w3 : (Lit.int .u64 a3).wf = true) :
    Calls Try.prog 5 #[.int .u64 a0, .int .u64 a1, .int .u64 a2, .int .u64 a3] W fun e w' => e = .returned (.bool true) ∧ Below W.heap.size W w' := by
  obtain ⟨x, rfl⟩ := ex64 a0 (by simp [Lit.wf, IntKind.min, IntKind.max, IntKind.signed, IntKind.bits] at w0; omega)
  obtain ⟨n, rfl⟩ := ex64 a1 (by simp [Lit.wf, IntKind.min, IntKind.max, IntKind.signed, IntKind.bits] at w1; omega)
  obtain ⟨v, rfl⟩ := ex64 a2 (by simp [Lit.wf, IntKind.min, IntKind.max, IntKind.signed, IntKind.bits] at w2; omega)
  obtain ⟨r, rfl⟩ := ex64 a3 (by simp [Lit.wf, IntKind.min, IntKind.max, IntKind.signed, IntKind.bits] at w3; omega)
  clear w0 w1 w2 w3
  have HN := Lib.hid (New.refl W)
  have HA := Lib.hid awake_38
  by_cases h0 : n = 0#64
  · subst h0
    rw [show W64 0#64 = 0 by decide]
    go_enter Try.func5, Try.ntmps5
    go_wp2_with fail
    refine (HA.out _).mono ?_
    rintro e w9 ⟨rfl, hn⟩
    replace HN := Lib.hid (HN.out.trans hn)
    clear hn
    go_wp2_with fail
    refine (rtakes_zero_l x _).mono ?_
    rintro e w9 ⟨rfl, hn⟩
    replace HN := Lib.hid (HN.out.trans hn)
    clear hn
    go_wp2_with fail
    refine (wordN_zero v r _).mono ?_
    rintro e w9 ⟨rfl, hn⟩
    replace HN := Lib.hid (HN.out.trans hn)
    clear hn
    go_wp2
    go_ret
    exact ⟨rfl, HN.out⟩
  · have z1 : (W64 n == 0) = false := by
      have := pos_of_ne h0
      rw [beq_eq_false_iff_ne]; unfold W64; omega
    have z2 : (n == 0#64) = false := beq_false_of_ne h0
    have H4 := Lib.hid (reach_l n)
    have H6 := Lib.hid (rtakes_l x n h0)
    have H8 := Lib.hid (rank_l x n h0)
    have HB := Lib.hid (fun ht : takN x n = true => show ∀ w, Calls Try.prog 27 #[.int .u64 (W64 (telN x n)), .int .u64 (W64 (rnkN x n)), .int .u64 (W64 n)] w fun e w' => e = .returned (.tuple #[.int .u64 (W64 x), .int .i64 0]) ∧ New w w' from fun w => by
      have h := word_l (telN x n) (rnkN x n) n h0 (tel_lt x n h0) (rnk_ltN x n h0 ht) w
      rw [wrdN_back x n h0 ht] at h
      exact h)
    obtain ⟨t, ht⟩ : ∃ t, takN x n = t := ⟨_, rfl⟩
    rw [ht] at H6 H8 HB
    clear ht
    generalize telN x n = u at *
    generalize rnkN x n = k at *
    by_cases hv : v.toNat < n.toNat
    · have z3 : decide (W64 n ≤ W64 v) = false := by rw [decide_eq_false_iff_not]; unfold W64; omega
      by_cases hr : r.toNat < eachN n
      · have HC := Lib.hid (cmpN_yes r n hr)
        have HW := Lib.hid (word_l v r n h0 hv hr)
        obtain ⟨f1, f2, f3⟩ := wrdN_all v r n h0 hv hr
        have HT2 := Lib.hid (rrank_l (wrdN v r n) n h0 f1)
        have HT3 := Lib.hid (rtakes_l (wrdN v r n) n h0)
        rw [f2, f3] at HT2
        rw [f1] at HT3
        clear f1 f2 f3 hv hr h0
        generalize eachNHi n = y1 at *
        generalize eachNLo n = y0 at *
        generalize wrdN v r n = y at *
        cases t
        · clear HB H8
          go_enter Try.func5, Try.ntmps5
          go_wp2_with fail
          refine (HA.out _).mono ?_
          rintro e w9 ⟨rfl, hn⟩
          replace HN := Lib.hid (HN.out.trans hn)
          clear hn
          go_wp2_with fail
          refine (H6.out _).mono ?_
          rintro e w9 ⟨rfl, hn⟩
          replace HN := Lib.hid (HN.out.trans hn)
          clear hn
          go_wp2_with fail
          refine (HW.out _).mono ?_
          rintro e w9 ⟨rfl, hn⟩
          replace HN := Lib.hid (HN.out.trans hn)
          clear hn
          go_wp2_with fail
          refine (H4.out _).mono ?_
          rintro e w9 ⟨rfl, hn⟩
          replace HN := Lib.hid (HN.out.trans hn)
          clear hn
          go_wp2_with fail
          refine (HC.out _).mono ?_
          rintro e w9 ⟨rfl, hn⟩
          replace HN := Lib.hid (HN.out.trans hn)
          clear hn
          go_wp2_with fail
          refine (HT2.out _).mono ?_
          rintro e w9 ⟨rfl, hn⟩
          replace HN := Lib.hid (HN.out.trans hn)
          clear hn
          go_wp2_with fail
          refine (HT3.out _).mono ?_
          rintro e w9 ⟨rfl, hn⟩
          replace HN := Lib.hid (HN.out.trans hn)
          clear hn
          go_wp2
          go_ret
          exact ⟨rfl, HN.out⟩
        · skip
          go_enter Try.func5, Try.ntmps5
          go_wp2_with fail
          refine (HA.out _).mono ?_
          rintro e w9 ⟨rfl, hn⟩
          replace HN := Lib.hid (HN.out.trans hn)
          clear hn
          go_wp2_with fail
          refine (H6.out _).mono ?_
          rintro e w9 ⟨rfl, hn⟩
          replace HN := Lib.hid (HN.out.trans hn)
          clear hn
          go_wp2_with fail
          refine (H8.out trivial _).mono ?_
          rintro e w9 ⟨rfl, hn⟩
          replace HN := Lib.hid (HN.out.trans hn)
          clear hn
          go_wp2_with fail
          refine (HB.out trivial _).mono ?_
          rintro e w9 ⟨rfl, hn⟩
          replace HN := Lib.hid (HN.out.trans hn)
          clear hn
          go_wp2_with fail
          refine (HW.out _).mono ?_
          rintro e w9 ⟨rfl, hn⟩
          replace HN := Lib.hid (HN.out.trans hn)
          clear hn
          go_wp2_with fail
          refine (H4.out _).mono ?_
          rintro e w9 ⟨rfl, hn⟩
          replace HN := Lib.hid (HN.out.trans hn)
          clear hn
          go_wp2_with fail
          refine (HC.out _).mono ?_
          rintro e w9 ⟨rfl, hn⟩
          replace HN := Lib.hid (HN.out.trans hn)
          clear hn
          go_wp2_with fail
          refine (HT2.out _).mono ?_
          rintro e w9 ⟨rfl, hn⟩
          replace HN := Lib.hid (HN.out.trans hn)
          clear hn
          go_wp2_with fail
          refine (HT3.out _).mono ?_
          rintro e w9 ⟨rfl, hn⟩
          replace HN := Lib.hid (HN.out.trans hn)
          clear hn
          go_wp2
          go_ret
          exact ⟨rfl, HN.out⟩
      · have HW := Lib.hid (wordN_over v r n h0 hv hr)
        obtain ⟨c, hc1, hc⟩ := cmpN_not r n hr
        have HC := Lib.hid hc
        generalize eachNHi n = y1 at *
        generalize eachNLo n = y0 at *
        clear hc hv hr h0
        cases t
        · clear HB H8
          go_enter Try.func5, Try.ntmps5
          go_wp2_with fail
          refine (HA.out _).mono ?_
          rintro e w9 ⟨rfl, hn⟩
          replace HN := Lib.hid (HN.out.trans hn)
          clear hn
          go_wp2_with fail
          refine (H6.out _).mono ?_
          rintro e w9 ⟨rfl, hn⟩
          replace HN := Lib.hid (HN.out.trans hn)
          clear hn
          go_wp2_with fail
          refine (HW.out _).mono ?_
          rintro e w9 ⟨rfl, hn⟩
          replace HN := Lib.hid (HN.out.trans hn)
          clear hn
          go_wp2_with fail
          refine (H4.out _).mono ?_
          rintro e w9 ⟨rfl, hn⟩
          replace HN := Lib.hid (HN.out.trans hn)
          clear hn
          go_wp2_with fail
          refine (HC.out _).mono ?_
          rintro e w9 ⟨rfl, hn⟩
          replace HN := Lib.hid (HN.out.trans hn)
          clear hn
          go_wp2
          go_ret
          exact ⟨rfl, HN.out⟩
        · skip
          go_enter Try.func5, Try.ntmps5
          go_wp2_with fail
          refine (HA.out _).mono ?_
          rintro e w9 ⟨rfl, hn⟩
          replace HN := Lib.hid (HN.out.trans hn)
          clear hn
          go_wp2_with fail
          refine (H6.out _).mono ?_
          rintro e w9 ⟨rfl, hn⟩
          replace HN := Lib.hid (HN.out.trans hn)
          clear hn
          go_wp2_with fail
          refine (H8.out trivial _).mono ?_
          rintro e w9 ⟨rfl, hn⟩
          replace HN := Lib.hid (HN.out.trans hn)
          clear hn
          go_wp2_with fail
          refine (HB.out trivial _).mono ?_
          rintro e w9 ⟨rfl, hn⟩
          replace HN := Lib.hid (HN.out.trans hn)
          clear hn
          go_wp2_with fail
          refine (HW.out _).mono ?_
          rintro e w9 ⟨rfl, hn⟩
          replace HN := Lib.hid (HN.out.trans hn)
          clear hn
          go_wp2_with fail
          refine (H4.out _).mono ?_
          rintro e w9 ⟨rfl, hn⟩
          replace HN := Lib.hid (HN.out.trans hn)
          clear hn
          go_wp2_with fail
          refine (HC.out _).mono ?_
          rintro e w9 ⟨rfl, hn⟩
          replace HN := Lib.hid (HN.out.trans hn)
          clear hn
          go_wp2
          go_ret
          exact ⟨rfl, HN.out⟩
    · have z3 : decide (W64 n ≤ W64 v) = true := by rw [decide_eq_true_eq]; unfold W64; omega
      have HW := Lib.hid (wordN_no v r n h0 hv)
      clear hv h0 H4
      cases t
      · clear HB H8
        go_enter Try.func5, Try.ntmps5
        go_wp2_with fail
        refine (HA.out _).mono ?_
        rintro e w9 ⟨rfl, hn⟩
        replace HN := Lib.hid (HN.out.trans hn)
        clear hn
        go_wp2_with fail
        refine (H6.out _).mono ?_
        rintro e w9 ⟨rfl, hn⟩
        replace HN := Lib.hid (HN.out.trans hn)
        clear hn
        go_wp2_with fail
        refine (HW.out _).mono ?_
        rintro e w9 ⟨rfl, hn⟩
        replace HN := Lib.hid (HN.out.trans hn)
        clear hn
        go_wp2
        go_ret
        exact ⟨rfl, HN.out⟩
      · skip
        go_enter Try.func5, Try.ntmps5
        go_wp2_with fail
        refine (HA.out _).mono ?_
        rintro e w9 ⟨rfl, hn⟩
        replace HN := Lib.hid (HN.out.trans hn)
        clear hn
        go_wp2_with fail
        refine (H6.out _).mono ?_
        rintro e w9 ⟨rfl, hn⟩
        replace HN := Lib.hid (HN.out.trans hn)
        clear hn
        go_wp2_with fail
        refine (H8.out trivial _).mono ?_
        rintro e w9 ⟨rfl, hn⟩
        replace HN := Lib.hid (HN.out.trans hn)
        clear hn
        go_wp2_with fail
        refine (HB.out trivial _).mono ?_
        rintro e w9 ⟨rfl, hn⟩
        replace HN := Lib.hid (HN.out.trans hn)
        clear hn
        go_wp2_with fail
        refine (HW.out _).mono ?_
        rintro e w9 ⟨rfl, hn⟩
        replace HN := Lib.hid (HN.out.trans hn)
        clear hn
        go_wp2
        go_ret
        exact ⟨rfl, HN.out⟩
end Go.Proofs.Ytipfkegpiimefaa
