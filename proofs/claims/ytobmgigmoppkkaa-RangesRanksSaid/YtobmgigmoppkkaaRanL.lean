/- The laws RangesReduces, RangesRanks, walked. -/
import Derived.Test.YtobmgigmoppkkaaRanD
namespace Go.Bv
open Go Go.RowKit
theorem chk_good {k : Int} {m : BitVec 64} (h : chkR k m = 0) : ∃ j : Nat, k = (j : Int) ∧ j ≤ 64 ∧ ¬ m = 0#64 := by
  unfold chkR at h
  by_cases h1 : k < 1 ∨ 64 < k
  · rw [if_pos h1] at h; omega
  · rw [if_neg h1] at h
    refine ⟨k.toNat, by omega, by omega, fun e => ?_⟩
    rw [if_pos e] at h
    omega
end Go.Bv
namespace Go.Proofs.Ytobmgigmoppkkaa
open Go.RowKit Go.Bv
set_option linter.unusedVariables false
set_option maxHeartbeats 1000000 in
theorem awake_26 (w : World) : Calls Try.prog 20 #[] w fun e w' => e = .returned (.bool true) ∧ New w w' := by
  have h1 := reduce_r 7#64 3#64 3 (by omega) (by decide +kernel) (by decide +kernel)
  have h2 := count_ok 0#64 3#64 3 (by omega) (by decide +kernel) (by decide +kernel) (by decide +kernel)
  rw [show W64 (redR 7#64 3#64 3) = 2 by decide +kernel, show W64 7#64 = 7 by decide, show W64 3#64 = 3 by decide] at h1
  rw [show cntR 0#64 3#64 3 = 3 by decide +kernel, show W64 (hiN 3) = 0 by decide +kernel, show W64 (loN 3) = 3 by decide +kernel, show W64 0#64 = 0 by decide, show W64 3#64 = 3 by decide] at h2
  have heq := fun w => equ128 w 0#64 3#64 0#64 3#64
  rw [show W64 3#64 = 3 by decide, show W64 0#64 = 0 by decide] at heq
  have H1 := Lib.hid h1
  have H2 := Lib.hid h2
  have HN := Lib.hid (New.refl w)
  clear h1 h2
  go_enter Try.func20, Try.ntmps20
  go_wp2_with fail
  refine (H1.out _).mono ?_
  rintro e w9 ⟨rfl, hn⟩
  replace HN := Lib.hid (HN.out.trans hn)
  clear hn
  go_wp2_with fail
  refine (H2.out _).mono ?_
  rintro e w9 ⟨rfl, hn⟩
  replace HN := Lib.hid (HN.out.trans hn)
  clear hn
  have hx := heap_alloc_new w9 (.cells #[.int .u64 0, .int .u64 3] 24)
  have hn2 := (New.refl w9).alloc (.cells #[.int .u64 0, .int .u64 3] 24)
  obtain ⟨wb1, hw2⟩ : ∃ w2, w9.alloc (.cells #[.int .u64 0, .int .u64 3] 24) = w2 := ⟨_, rfl⟩
  rw [hw2] at hx hn2
  obtain ⟨q1, hq⟩ : ∃ q, w9.heap.size = q := ⟨_, rfl⟩
  rw [hq] at hx
  have HX1 := Lib.hid hx
  replace HN := Lib.hid (HN.out.trans hn2)
  have HM1 := Lib.hid hn2
  have HE1 := Lib.hid (show w9.alloc (.cells #[.int .u64 0, .int .u64 3] 24) = wb1 ∧ w9.heap.size = q1 from ⟨hw2, hq⟩)
  clear hx hn2 hw2 hq
  have x0 := cell_of_row _ _ 0 _ _ _ HX1.out
  have x1 := cell_of_row _ _ 1 _ _ _ HX1.out
  go_wp2_with (rw [HE1.out.1, HE1.out.2])
  go_ret
  exact ⟨rfl, HN.out⟩
set_option maxHeartbeats 2000000 in
theorem RangesReduces_walk (W : World) (a0 : Int) (w0 : (Lit.int .u64 a0).wf = true) (a1 : Int) (w1 : (Lit.int .i64 a1).wf = true) (a2 : Int) (w2 : (Lit.int .u64 a2).wf = true) (a3 : Int) (w3 : (Lit.int .u64 a3).wf = true) :
    Calls Try.prog 6 #[.int .u64 a0, .int .i64 a1, .int .u64 a2, .int .u64 a3] W fun e w' => e = .returned (.bool true) ∧ Below W.heap.size W w' := by
  obtain ⟨x, rfl⟩ := ex64 a0 (by simp [Lit.wf, IntKind.min, IntKind.max, IntKind.signed, IntKind.bits] at w0; omega)
  obtain ⟨m, rfl⟩ := ex64 a2 (by simp [Lit.wf, IntKind.min, IntKind.max, IntKind.signed, IntKind.bits] at w2; omega)
  obtain ⟨y, rfl⟩ := ex64 a3 (by simp [Lit.wf, IntKind.min, IntKind.max, IntKind.signed, IntKind.bits] at w3; omega)
  clear w0 w1 w2 w3
  have HA := Lib.hid awake_26
  have HN := Lib.hid (New.refl W)
  have H1 := Lib.hid (check_r a1 m)
  have H2 := Lib.hid (rcheck_r a1 m)
  by_cases hc : chkR a1 m = 0
  · obtain ⟨k, rfl, hk, hm⟩ := chk_good hc
    have HH := Lib.hid (has_r x k hk)
    have HRF := Lib.hid (rreduce_r x m k hk)
    rw [hc] at H1 H2
    by_cases hx : x.toNat < 2 ^ k
    · have HR := Lib.hid (reduce_r x m k hk hc hx)
      obtain ⟨q1, q2⟩ := red_quo x m k hx hm
      have z1 : decide (W64 (redR x m k) < W64 m) = true := by rw [decide_eq_true_eq]; unfold W64; omega
      rw [decide_eq_true hx] at HH
      by_cases hy : y.toNat < 2 ^ k
      · have HY := Lib.hid (reduce_r y m k hk hc hy)
        by_cases hxy : y.toNat < x.toNat
        · have z2 : decide (W64 y < W64 x) = true := by rw [decide_eq_true_eq]; unfold W64; omega
          clear hxy hy hx hc hm hk q1 q2
          generalize redR x m k = v at *
          generalize redR y m k = u at *
          go_enter Try.func6, Try.ntmps6
          go_wp2_with fail
          refine (HA.out _).mono ?_
          rintro e w9 ⟨rfl, hn⟩
          replace HN := Lib.hid (HN.out.trans hn)
          clear hn
          go_wp2_with fail
          refine (HR.out _).mono ?_
          rintro e w9 ⟨rfl, hn⟩
          replace HN := Lib.hid (HN.out.trans hn)
          clear hn
          go_wp2_with fail
          refine (H2.out _).mono ?_
          rintro e w9 ⟨rfl, hn⟩
          replace HN := Lib.hid (HN.out.trans hn)
          clear hn
          go_wp2_with fail
          refine (H1.out _).mono ?_
          rintro e w9 ⟨rfl, hn⟩
          replace HN := Lib.hid (HN.out.trans hn)
          clear hn
          go_wp2_with fail
          refine (HH.out _).mono ?_
          rintro e w9 ⟨rfl, hn⟩
          replace HN := Lib.hid (HN.out.trans hn)
          clear hn
          go_wp2_with fail
          refine (HY.out _).mono ?_
          rintro e w9 ⟨rfl, hn⟩
          replace HN := Lib.hid (HN.out.trans hn)
          clear hn
          go_wp2_with fail
          refine (HRF.out _).mono ?_
          rintro e w9 ⟨rfl, hn⟩
          replace HN := Lib.hid (HN.out.trans hn)
          clear hn
          go_wp2
          go_ret
          exact ⟨rfl, HN.out⟩
        · have z2 : decide (W64 y < W64 x) = false := by rw [decide_eq_false_iff_not]; unfold W64; omega
          have z3 : decide (W64 (redR x m k) ≤ W64 (redR y m k)) = true := by
            have h1 := (red_quo y m k hy hm).1
            have h2 : x.toNat * m.toNat / 2 ^ k ≤ y.toNat * m.toNat / 2 ^ k := Nat.div_le_div_right (Nat.mul_le_mul_right _ (by omega))
            rw [decide_eq_true_eq]; unfold W64; omega
          clear hxy hy hx hc hm hk q1 q2
          generalize redR x m k = v at *
          generalize redR y m k = u at *
          go_enter Try.func6, Try.ntmps6
          go_wp2_with fail
          refine (HA.out _).mono ?_
          rintro e w9 ⟨rfl, hn⟩
          replace HN := Lib.hid (HN.out.trans hn)
          clear hn
          go_wp2_with fail
          refine (HR.out _).mono ?_
          rintro e w9 ⟨rfl, hn⟩
          replace HN := Lib.hid (HN.out.trans hn)
          clear hn
          go_wp2_with fail
          refine (H2.out _).mono ?_
          rintro e w9 ⟨rfl, hn⟩
          replace HN := Lib.hid (HN.out.trans hn)
          clear hn
          go_wp2_with fail
          refine (H1.out _).mono ?_
          rintro e w9 ⟨rfl, hn⟩
          replace HN := Lib.hid (HN.out.trans hn)
          clear hn
          go_wp2_with fail
          refine (HH.out _).mono ?_
          rintro e w9 ⟨rfl, hn⟩
          replace HN := Lib.hid (HN.out.trans hn)
          clear hn
          go_wp2_with fail
          refine (HY.out _).mono ?_
          rintro e w9 ⟨rfl, hn⟩
          replace HN := Lib.hid (HN.out.trans hn)
          clear hn
          go_wp2_with fail
          refine (HRF.out _).mono ?_
          rintro e w9 ⟨rfl, hn⟩
          replace HN := Lib.hid (HN.out.trans hn)
          clear hn
          go_wp2
          go_ret
          exact ⟨rfl, HN.out⟩
      · have HY := Lib.hid (reduce_no y m k hc hy)
        clear hy hx hc hm hk q1 q2
        generalize redR x m k = v at *
        go_enter Try.func6, Try.ntmps6
        go_wp2_with fail
        refine (HA.out _).mono ?_
        rintro e w9 ⟨rfl, hn⟩
        replace HN := Lib.hid (HN.out.trans hn)
        clear hn
        go_wp2_with fail
        refine (HR.out _).mono ?_
        rintro e w9 ⟨rfl, hn⟩
        replace HN := Lib.hid (HN.out.trans hn)
        clear hn
        go_wp2_with fail
        refine (H2.out _).mono ?_
        rintro e w9 ⟨rfl, hn⟩
        replace HN := Lib.hid (HN.out.trans hn)
        clear hn
        go_wp2_with fail
        refine (H1.out _).mono ?_
        rintro e w9 ⟨rfl, hn⟩
        replace HN := Lib.hid (HN.out.trans hn)
        clear hn
        go_wp2_with fail
        refine (HH.out _).mono ?_
        rintro e w9 ⟨rfl, hn⟩
        replace HN := Lib.hid (HN.out.trans hn)
        clear hn
        go_wp2_with fail
        refine (HY.out _).mono ?_
        rintro e w9 ⟨rfl, hn⟩
        replace HN := Lib.hid (HN.out.trans hn)
        clear hn
        go_wp2_with fail
        refine (HRF.out _).mono ?_
        rintro e w9 ⟨rfl, hn⟩
        replace HN := Lib.hid (HN.out.trans hn)
        clear hn
        go_wp2
        go_ret
        exact ⟨rfl, HN.out⟩
    · have HR := Lib.hid (reduce_no x m k hc hx)
      rw [decide_eq_false hx] at HH
      clear hx hc hm hk
      go_enter Try.func6, Try.ntmps6
      go_wp2_with fail
      refine (HA.out _).mono ?_
      rintro e w9 ⟨rfl, hn⟩
      replace HN := Lib.hid (HN.out.trans hn)
      clear hn
      go_wp2_with fail
      refine (HR.out _).mono ?_
      rintro e w9 ⟨rfl, hn⟩
      replace HN := Lib.hid (HN.out.trans hn)
      clear hn
      go_wp2_with fail
      refine (H2.out _).mono ?_
      rintro e w9 ⟨rfl, hn⟩
      replace HN := Lib.hid (HN.out.trans hn)
      clear hn
      go_wp2_with fail
      refine (H1.out _).mono ?_
      rintro e w9 ⟨rfl, hn⟩
      replace HN := Lib.hid (HN.out.trans hn)
      clear hn
      go_wp2_with fail
      refine (HH.out _).mono ?_
      rintro e w9 ⟨rfl, hn⟩
      replace HN := Lib.hid (HN.out.trans hn)
      clear hn
      go_wp2
      go_ret
      exact ⟨rfl, HN.out⟩
  · have z1 : (chkR a1 m == 0) = false := beq_false_of_ne hc
    have HR := Lib.hid (reduce_bad x m a1 z1)
    generalize chkR a1 m = c at *
    clear hc
    go_enter Try.func6, Try.ntmps6
    go_wp2_with fail
    refine (HA.out _).mono ?_
    rintro e w9 ⟨rfl, hn⟩
    replace HN := Lib.hid (HN.out.trans hn)
    clear hn
    go_wp2_with fail
    refine (HR.out _).mono ?_
    rintro e w9 ⟨rfl, hn⟩
    replace HN := Lib.hid (HN.out.trans hn)
    clear hn
    go_wp2_with fail
    refine (H2.out _).mono ?_
    rintro e w9 ⟨rfl, hn⟩
    replace HN := Lib.hid (HN.out.trans hn)
    clear hn
    go_wp2_with fail
    refine (H1.out _).mono ?_
    rintro e w9 ⟨rfl, hn⟩
    replace HN := Lib.hid (HN.out.trans hn)
    clear hn
    go_wp2
    go_ret
    exact ⟨rfl, HN.out⟩
set_option maxHeartbeats 4000000 in
theorem RangesRanks_walk (W : World) (a0 : Int) (w0 : (Lit.int .u64 a0).wf = true) (a1 : Int) (w1 : (Lit.int .i64 a1).wf = true) (a2 : Int) (w2 : (Lit.int .u64 a2).wf = true) (a3 : Int) (w3 : (Lit.int .u64 a3).wf = true) (a4 : Int) (w4 : (Lit.int .u64 a4).wf = true) :
    Calls Try.prog 8 #[.int .u64 a0, .int .i64 a1, .int .u64 a2, .int .u64 a3, .int .u64 a4] W fun e w' => e = .returned (.bool true) ∧ Below W.heap.size W w' := by
  obtain ⟨x, rfl⟩ := ex64 a0 (by simp [Lit.wf, IntKind.min, IntKind.max, IntKind.signed, IntKind.bits] at w0; omega)
  obtain ⟨m, rfl⟩ := ex64 a2 (by simp [Lit.wf, IntKind.min, IntKind.max, IntKind.signed, IntKind.bits] at w2; omega)
  obtain ⟨v, rfl⟩ := ex64 a3 (by simp [Lit.wf, IntKind.min, IntKind.max, IntKind.signed, IntKind.bits] at w3; omega)
  obtain ⟨r, rfl⟩ := ex64 a4 (by simp [Lit.wf, IntKind.min, IntKind.max, IntKind.signed, IntKind.bits] at w4; omega)
  clear w0 w1 w2 w3 w4
  have HA := Lib.hid awake_26
  have HN := Lib.hid (New.refl W)
  have H2 := Lib.hid (rcheck_r a1 m)
  by_cases hc : chkR a1 m = 0
  · obtain ⟨k, rfl, hk, hm⟩ := chk_good hc
    have HH := Lib.hid (has_r x k hk)
    have HRF := Lib.hid (rreduce_r x m k hk)
    rw [hc] at H2
    by_cases hx : x.toNat < 2 ^ k
    · have HR := Lib.hid (rank_ok x m k hk hm hc hx)
      obtain ⟨q1, q2⟩ := red_quo x m k hx hm
      obtain ⟨_, n1, n2⟩ := num_back x m k hk hx hm
      have hb := unrank_ok (redR x m k) (rnkR x m k) m k hk hm hc (by omega) n1
      rw [n2] at hb
      have HB := Lib.hid hb
      rw [decide_eq_true hx] at HH
      clear q1 q2 n1 n2 hb hx
      generalize redR x m k = u at *
      generalize rnkR x m k = rk at *
      by_cases hv : v.toNat < m.toNat
      · have z3 : decide (W64 m ≤ W64 v) = false := by rw [decide_eq_false_iff_not]; unfold W64; omega
        have HCN := Lib.hid (rcount_r v m k hk hm hv)
        obtain ⟨c, hc1, _, hcc⟩ := cmpR r (cntR v m k) (cnt_lt v m k hk hm)
        have HC := Lib.hid hcc
        clear hcc
        by_cases hr : r.toNat < cntR v m k
        · rw [decide_eq_true hr] at hc1
          replace hc1 : decide (0 ≤ c) = false := hc1
          obtain ⟨_, b2, b3, b4⟩ := num_all v r m k hk hm hv hr
          have HU := Lib.hid (unrank_ok v r m k hk hm hc hv hr)
          have hrn := rank_ok (numR v r m k) m k hk hm hc b2
          have hh2 := has_r (numR v r m k) k hk
          rw [b3, b4] at hrn
          rw [decide_eq_true b2] at hh2
          have HRN := Lib.hid hrn
          have HH2 := Lib.hid hh2
          clear hr hv b2 b3 b4 hrn hh2 hc hm hk
          generalize numR v r m k = y at *
          generalize hiN (cntR v m k) = d1 at *
          generalize loN (cntR v m k) = d0 at *
          go_enter Try.func8, Try.ntmps8
          go_wp2_with fail
          refine (HA.out _).mono ?_
          rintro e w9 ⟨rfl, hn⟩
          replace HN := Lib.hid (HN.out.trans hn)
          clear hn
          go_wp2_with fail
          refine (HR.out _).mono ?_
          rintro e w9 ⟨rfl, hn⟩
          replace HN := Lib.hid (HN.out.trans hn)
          clear hn
          go_wp2_with fail
          refine (H2.out _).mono ?_
          rintro e w9 ⟨rfl, hn⟩
          replace HN := Lib.hid (HN.out.trans hn)
          clear hn
          go_wp2_with fail
          refine (HU.out _).mono ?_
          rintro e w9 ⟨rfl, hn⟩
          replace HN := Lib.hid (HN.out.trans hn)
          clear hn
          go_wp2_with fail
          refine (HH.out _).mono ?_
          rintro e w9 ⟨rfl, hn⟩
          replace HN := Lib.hid (HN.out.trans hn)
          clear hn
          go_wp2_with fail
          refine (HB.out _).mono ?_
          rintro e w9 ⟨rfl, hn⟩
          replace HN := Lib.hid (HN.out.trans hn)
          clear hn
          go_wp2_with fail
          refine (HRF.out _).mono ?_
          rintro e w9 ⟨rfl, hn⟩
          replace HN := Lib.hid (HN.out.trans hn)
          clear hn
          go_wp2_with fail
          refine (HCN.out _).mono ?_
          rintro e w9 ⟨rfl, hn⟩
          replace HN := Lib.hid (HN.out.trans hn)
          clear hn
          go_wp2_with fail
          refine (HC.out _).mono ?_
          rintro e w9 ⟨rfl, hn⟩
          replace HN := Lib.hid (HN.out.trans hn)
          clear hn
          go_wp2_with fail
          refine (HRN.out _).mono ?_
          rintro e w9 ⟨rfl, hn⟩
          replace HN := Lib.hid (HN.out.trans hn)
          clear hn
          go_wp2_with fail
          refine (HH2.out _).mono ?_
          rintro e w9 ⟨rfl, hn⟩
          replace HN := Lib.hid (HN.out.trans hn)
          clear hn
          go_wp2
          go_ret
          exact ⟨rfl, HN.out⟩
        · rw [decide_eq_false hr] at hc1
          replace hc1 : decide (0 ≤ c) = true := hc1
          have HU := Lib.hid (unrank_no v r m k hk hm hc hv hr)
          clear hr hv hc hm hk
          generalize hiN (cntR v m k) = d1 at *
          generalize loN (cntR v m k) = d0 at *
          go_enter Try.func8, Try.ntmps8
          go_wp2_with fail
          refine (HA.out _).mono ?_
          rintro e w9 ⟨rfl, hn⟩
          replace HN := Lib.hid (HN.out.trans hn)
          clear hn
          go_wp2_with fail
          refine (HR.out _).mono ?_
          rintro e w9 ⟨rfl, hn⟩
          replace HN := Lib.hid (HN.out.trans hn)
          clear hn
          go_wp2_with fail
          refine (H2.out _).mono ?_
          rintro e w9 ⟨rfl, hn⟩
          replace HN := Lib.hid (HN.out.trans hn)
          clear hn
          go_wp2_with fail
          refine (HU.out _).mono ?_
          rintro e w9 ⟨rfl, hn⟩
          replace HN := Lib.hid (HN.out.trans hn)
          clear hn
          go_wp2_with fail
          refine (HH.out _).mono ?_
          rintro e w9 ⟨rfl, hn⟩
          replace HN := Lib.hid (HN.out.trans hn)
          clear hn
          go_wp2_with fail
          refine (HB.out _).mono ?_
          rintro e w9 ⟨rfl, hn⟩
          replace HN := Lib.hid (HN.out.trans hn)
          clear hn
          go_wp2_with fail
          refine (HRF.out _).mono ?_
          rintro e w9 ⟨rfl, hn⟩
          replace HN := Lib.hid (HN.out.trans hn)
          clear hn
          go_wp2_with fail
          refine (HCN.out _).mono ?_
          rintro e w9 ⟨rfl, hn⟩
          replace HN := Lib.hid (HN.out.trans hn)
          clear hn
          go_wp2_with fail
          refine (HC.out _).mono ?_
          rintro e w9 ⟨rfl, hn⟩
          replace HN := Lib.hid (HN.out.trans hn)
          clear hn
          go_wp2
          go_ret
          exact ⟨rfl, HN.out⟩
      · have z3 : decide (W64 m ≤ W64 v) = true := by rw [decide_eq_true_eq]; unfold W64; omega
        have HU := Lib.hid (unrank_bad v r m k 2 rfl (count_no v m k hc (by omega)))
        clear hv hc hm hk
        go_enter Try.func8, Try.ntmps8
        go_wp2_with fail
        refine (HA.out _).mono ?_
        rintro e w9 ⟨rfl, hn⟩
        replace HN := Lib.hid (HN.out.trans hn)
        clear hn
        go_wp2_with fail
        refine (HR.out _).mono ?_
        rintro e w9 ⟨rfl, hn⟩
        replace HN := Lib.hid (HN.out.trans hn)
        clear hn
        go_wp2_with fail
        refine (H2.out _).mono ?_
        rintro e w9 ⟨rfl, hn⟩
        replace HN := Lib.hid (HN.out.trans hn)
        clear hn
        go_wp2_with fail
        refine (HU.out _).mono ?_
        rintro e w9 ⟨rfl, hn⟩
        replace HN := Lib.hid (HN.out.trans hn)
        clear hn
        go_wp2_with fail
        refine (HH.out _).mono ?_
        rintro e w9 ⟨rfl, hn⟩
        replace HN := Lib.hid (HN.out.trans hn)
        clear hn
        go_wp2_with fail
        refine (HB.out _).mono ?_
        rintro e w9 ⟨rfl, hn⟩
        replace HN := Lib.hid (HN.out.trans hn)
        clear hn
        go_wp2_with fail
        refine (HRF.out _).mono ?_
        rintro e w9 ⟨rfl, hn⟩
        replace HN := Lib.hid (HN.out.trans hn)
        clear hn
        go_wp2
        go_ret
        exact ⟨rfl, HN.out⟩
    · have HR := Lib.hid (rank_bad x m k 2 rfl (reduce_no x m k hc hx))
      rw [decide_eq_false hx] at HH
      clear hx HRF
      by_cases hv : v.toNat < m.toNat
      · have z3 : decide (W64 m ≤ W64 v) = false := by rw [decide_eq_false_iff_not]; unfold W64; omega
        have HCN := Lib.hid (rcount_r v m k hk hm hv)
        obtain ⟨c, hc1, _, hcc⟩ := cmpR r (cntR v m k) (cnt_lt v m k hk hm)
        have HC := Lib.hid hcc
        clear hcc
        by_cases hr : r.toNat < cntR v m k
        · rw [decide_eq_true hr] at hc1
          replace hc1 : decide (0 ≤ c) = false := hc1
          obtain ⟨_, b2, b3, b4⟩ := num_all v r m k hk hm hv hr
          have HU := Lib.hid (unrank_ok v r m k hk hm hc hv hr)
          have hrn := rank_ok (numR v r m k) m k hk hm hc b2
          have hh2 := has_r (numR v r m k) k hk
          rw [b3, b4] at hrn
          rw [decide_eq_true b2] at hh2
          have HRN := Lib.hid hrn
          have HH2 := Lib.hid hh2
          clear hr hv b2 b3 b4 hrn hh2 hc hm hk
          generalize numR v r m k = y at *
          generalize hiN (cntR v m k) = d1 at *
          generalize loN (cntR v m k) = d0 at *
          go_enter Try.func8, Try.ntmps8
          go_wp2_with fail
          refine (HA.out _).mono ?_
          rintro e w9 ⟨rfl, hn⟩
          replace HN := Lib.hid (HN.out.trans hn)
          clear hn
          go_wp2_with fail
          refine (HR.out _).mono ?_
          rintro e w9 ⟨rfl, hn⟩
          replace HN := Lib.hid (HN.out.trans hn)
          clear hn
          go_wp2_with fail
          refine (H2.out _).mono ?_
          rintro e w9 ⟨rfl, hn⟩
          replace HN := Lib.hid (HN.out.trans hn)
          clear hn
          go_wp2_with fail
          refine (HU.out _).mono ?_
          rintro e w9 ⟨rfl, hn⟩
          replace HN := Lib.hid (HN.out.trans hn)
          clear hn
          go_wp2_with fail
          refine (HH.out _).mono ?_
          rintro e w9 ⟨rfl, hn⟩
          replace HN := Lib.hid (HN.out.trans hn)
          clear hn
          go_wp2_with fail
          refine (HCN.out _).mono ?_
          rintro e w9 ⟨rfl, hn⟩
          replace HN := Lib.hid (HN.out.trans hn)
          clear hn
          go_wp2_with fail
          refine (HC.out _).mono ?_
          rintro e w9 ⟨rfl, hn⟩
          replace HN := Lib.hid (HN.out.trans hn)
          clear hn
          go_wp2_with fail
          refine (HRN.out _).mono ?_
          rintro e w9 ⟨rfl, hn⟩
          replace HN := Lib.hid (HN.out.trans hn)
          clear hn
          go_wp2_with fail
          refine (HH2.out _).mono ?_
          rintro e w9 ⟨rfl, hn⟩
          replace HN := Lib.hid (HN.out.trans hn)
          clear hn
          go_wp2
          go_ret
          exact ⟨rfl, HN.out⟩
        · rw [decide_eq_false hr] at hc1
          replace hc1 : decide (0 ≤ c) = true := hc1
          have HU := Lib.hid (unrank_no v r m k hk hm hc hv hr)
          clear hr hv hc hm hk
          generalize hiN (cntR v m k) = d1 at *
          generalize loN (cntR v m k) = d0 at *
          go_enter Try.func8, Try.ntmps8
          go_wp2_with fail
          refine (HA.out _).mono ?_
          rintro e w9 ⟨rfl, hn⟩
          replace HN := Lib.hid (HN.out.trans hn)
          clear hn
          go_wp2_with fail
          refine (HR.out _).mono ?_
          rintro e w9 ⟨rfl, hn⟩
          replace HN := Lib.hid (HN.out.trans hn)
          clear hn
          go_wp2_with fail
          refine (H2.out _).mono ?_
          rintro e w9 ⟨rfl, hn⟩
          replace HN := Lib.hid (HN.out.trans hn)
          clear hn
          go_wp2_with fail
          refine (HU.out _).mono ?_
          rintro e w9 ⟨rfl, hn⟩
          replace HN := Lib.hid (HN.out.trans hn)
          clear hn
          go_wp2_with fail
          refine (HH.out _).mono ?_
          rintro e w9 ⟨rfl, hn⟩
          replace HN := Lib.hid (HN.out.trans hn)
          clear hn
          go_wp2_with fail
          refine (HCN.out _).mono ?_
          rintro e w9 ⟨rfl, hn⟩
          replace HN := Lib.hid (HN.out.trans hn)
          clear hn
          go_wp2_with fail
          refine (HC.out _).mono ?_
          rintro e w9 ⟨rfl, hn⟩
          replace HN := Lib.hid (HN.out.trans hn)
          clear hn
          go_wp2
          go_ret
          exact ⟨rfl, HN.out⟩
      · have z3 : decide (W64 m ≤ W64 v) = true := by rw [decide_eq_true_eq]; unfold W64; omega
        have HU := Lib.hid (unrank_bad v r m k 2 rfl (count_no v m k hc (by omega)))
        clear hv hc hm hk
        go_enter Try.func8, Try.ntmps8
        go_wp2_with fail
        refine (HA.out _).mono ?_
        rintro e w9 ⟨rfl, hn⟩
        replace HN := Lib.hid (HN.out.trans hn)
        clear hn
        go_wp2_with fail
        refine (HR.out _).mono ?_
        rintro e w9 ⟨rfl, hn⟩
        replace HN := Lib.hid (HN.out.trans hn)
        clear hn
        go_wp2_with fail
        refine (H2.out _).mono ?_
        rintro e w9 ⟨rfl, hn⟩
        replace HN := Lib.hid (HN.out.trans hn)
        clear hn
        go_wp2_with fail
        refine (HU.out _).mono ?_
        rintro e w9 ⟨rfl, hn⟩
        replace HN := Lib.hid (HN.out.trans hn)
        clear hn
        go_wp2_with fail
        refine (HH.out _).mono ?_
        rintro e w9 ⟨rfl, hn⟩
        replace HN := Lib.hid (HN.out.trans hn)
        clear hn
        go_wp2
        go_ret
        exact ⟨rfl, HN.out⟩
  · have z1 : (chkR a1 m == 0) = false := beq_false_of_ne hc
    have HR := Lib.hid (rank_bad x m a1 _ z1 (reduce_bad x m a1 z1))
    have HU := Lib.hid (unrank_bad v r m a1 _ z1 (count_bad v m a1 z1))
    generalize chkR a1 m = c at *
    clear hc
    go_enter Try.func8, Try.ntmps8
    go_wp2_with fail
    refine (HA.out _).mono ?_
    rintro e w9 ⟨rfl, hn⟩
    replace HN := Lib.hid (HN.out.trans hn)
    clear hn
    go_wp2_with fail
    refine (HR.out _).mono ?_
    rintro e w9 ⟨rfl, hn⟩
    replace HN := Lib.hid (HN.out.trans hn)
    clear hn
    go_wp2_with fail
    refine (H2.out _).mono ?_
    rintro e w9 ⟨rfl, hn⟩
    replace HN := Lib.hid (HN.out.trans hn)
    clear hn
    go_wp2_with fail
    refine (HU.out _).mono ?_
    rintro e w9 ⟨rfl, hn⟩
    replace HN := Lib.hid (HN.out.trans hn)
    clear hn
    go_wp2
    go_ret
    exact ⟨rfl, HN.out⟩
end Go.Proofs.Ytobmgigmoppkkaa
