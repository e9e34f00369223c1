/- Contract of layer 39: Word; the law MaskEven, walked. -/
import Derived.Test.YtipfkegpiimefaaMskW
namespace Go.Bv
open Go Go.RowKit
/-- the word of a number and a rank -/
def wrdM (v r n : BitVec 64) : BitVec 64 := r <<< bitsM n ||| v
theorem le_bits (n : BitVec 64) (h : ¬ n = 0#64) : n.toNat ≤ 2 ^ bitsM n := by
  unfold bitsM
  rw [if_neg h]
  have hp := pos_of_ne h
  have hx := (n - 1#64).isLt
  have e : (n - 1#64).toNat = n.toNat - 1 := by
    rw [BitVec.toNat_sub_of_le (by rw [BitVec.le_def]; show 1 ≤ n.toNat; omega)]; rfl
  obtain ⟨_, b, c⟩ := bitLen_up (n - 1#64).toNat hx
  by_cases h0 : (n - 1#64).toNat = 0
  · have := Nat.two_pow_pos (Lib.bitLen (n - 1#64).toNat); omega
  · have := (b h0).2.2; omega
theorem each_room (r n : BitVec 64) (h : ¬ n = 0#64) (hr : r.toNat < eachM n) : r.toNat * 2 ^ bitsM n + (2 ^ bitsM n - 1) < 2 ^ 64 := by
  have hb := bitsM_le n
  unfold eachM at hr
  rw [if_neg h, Nat.one_mul] at hr
  have h1 : (r.toNat + 1) * 2 ^ bitsM n ≤ 2 ^ (64 - bitsM n) * 2 ^ bitsM n := Nat.mul_le_mul_right _ hr
  rw [← Nat.pow_add, show 64 - bitsM n + bitsM n = 64 by omega, Nat.add_mul, Nat.one_mul] at h1
  have := Nat.two_pow_pos (bitsM n)
  omega
theorem wrd_nat (v r n : BitVec 64) (h : ¬ n = 0#64) (hv : v.toNat < n.toNat) (hr : r.toNat < eachM n) : (wrdM v r n).toNat = r.toNat * 2 ^ bitsM n + v.toNat := by
  have h1 := le_bits n h
  have h2 := each_room r n h hr
  unfold wrdM
  rw [BitVec.toNat_or, BitVec.toNat_shiftLeft, Nat.shiftLeft_eq, Nat.mod_eq_of_lt (by omega), Nat.mul_comm, ← Nat.two_pow_add_eq_or_of_lt (by omega)]
theorem wrd_rnk (v r n : BitVec 64) (h : ¬ n = 0#64) (hv : v.toNat < n.toNat) (hr : r.toNat < eachM n) : wrdM v r n >>> bitsM n = r := by
  have h1 := le_bits n h
  apply BitVec.eq_of_toNat_eq
  rw [BitVec.toNat_ushiftRight, Nat.shiftRight_eq_div_pow, wrd_nat v r n h hv hr, Nat.add_comm, Nat.add_mul_div_right _ _ (Nat.two_pow_pos _), Nat.div_eq_of_lt (by omega), Nat.zero_add]
theorem wrd_back (x n : BitVec 64) : wrdM (telM x n) (x >>> bitsM n) n = x := by
  apply BitVec.eq_of_getLsbD_eq
  intro i hi
  have hb := bitsM_le n
  unfold wrdM telM
  have e : (1#64 <<< bitsM n - 1#64).toNat = 2 ^ bitsM n - 1 := by
    rcases Nat.lt_or_ge (bitsM n) 64 with h | h
    · have h2 : 2 ^ bitsM n < 2 ^ 64 := (Nat.pow_lt_pow_iff_right (by omega)).2 h
      have h3 : (1#64 <<< bitsM n).toNat = 2 ^ bitsM n := by
        rw [BitVec.toNat_shiftLeft, Nat.shiftLeft_eq]
        show 1 * 2 ^ bitsM n % 2 ^ 64 = 2 ^ bitsM n
        rw [Nat.one_mul, Nat.mod_eq_of_lt h2]
      have h4 := Nat.two_pow_pos (bitsM n)
      rw [BitVec.toNat_sub_of_le (by rw [BitVec.le_def, h3]; show 1 ≤ 2 ^ bitsM n; omega), h3]; rfl
    · have h5 : bitsM n = 64 := by omega
      rw [h5]; rfl
  have e2 : (1#64 <<< bitsM n - 1#64).getLsbD i = decide (i < bitsM n) := by
    rw [BitVec.getLsbD, e, Nat.testBit_two_pow_sub_one]
  rw [BitVec.getLsbD_or, BitVec.getLsbD_shiftLeft, BitVec.getLsbD_and, e2, BitVec.getLsbD_ushiftRight]
  by_cases h1 : i < bitsM n
  · simp [h1]
  · have : bitsM n + (i - bitsM n) = i := by omega
    simp [h1, this, hi]
end Go.Bv
namespace Go.Proofs.Ytipfkegpiimefaa
open Go.RowKit Go.Bv
set_option linter.unusedVariables false
theorem wrd_tel (v r n : BitVec 64) (h : ¬ n = 0#64) (hv : v.toNat < n.toNat) (hr : r.toNat < eachM n) : telM (wrdM v r n) n = v := by
  have h1 := le_bits n h
  rw [tel_low, wrd_nat v r n h hv hr, Nat.add_comm, Nat.add_mul_mod_self_right, Nat.mod_eq_of_lt (by omega)]
  exact BitVec.eq_of_toNat_eq (by rw [BitVec.toNat_ofNat, Nat.mod_eq_of_lt v.isLt])
set_option maxHeartbeats 1000000 in
theorem word_m (v r n : BitVec 64) (hn0 : ¬ n = 0#64) (hv : v.toNat < n.toNat) (hr : r.toNat < eachM n) (w : World) : Calls Try.prog 42 #[.int .u64 (W64 v), .int .u64 (W64 r), .int .u64 (W64 n)] w fun e w' => e = .returned (.tuple #[.int .u64 (W64 (wrdM v r n)), .int .i64 0]) ∧ New w w' := by
  have z1 : (W64 n == 0) = false := by
    have := pos_of_ne hn0
    rw [beq_eq_false_iff_ne]; unfold W64; omega
  have z2 : (n == 0#64) = false := beq_false_of_ne hn0
  have z3 : decide (W64 n ≤ W64 v) = false := by rw [decide_eq_false_iff_not]; unfold W64; omega
  have hc := fun w => wcmp_two 0#64 r (eachHi n) (eachLo n) w
  rw [two_each, two_low, if_pos hr, show W64 0#64 = 0 by decide] at hc
  have HC := Lib.hid hc
  have H1 := Lib.hid (calls_new (bits_m n))
  have H3 := Lib.hid (each_m n)
  have HN := Lib.hid (New.refl w)
  unfold wrdM
  generalize bitsM n = s at *
  generalize eachHi n = y1 at *
  generalize eachLo n = y0 at *
  clear hc hn0 hv hr
  go_enter Try.func42, Try.ntmps42
  go_wp2_with fail
  refine (H3.out _).mono ?_
  rintro e w9 ⟨rfl, hn⟩
  replace HN := Lib.hid (HN.out.trans hn)
  clear hn
  go_wp2_with fail
  refine (HC.out _).mono ?_
  rintro e w9 ⟨rfl, hn⟩
  replace HN := Lib.hid (HN.out.trans hn)
  clear hn
  go_wp2_with fail
  refine (H1.out _).mono ?_
  rintro e w9 ⟨rfl, hn⟩
  replace HN := Lib.hid (HN.out.trans hn)
  clear hn
  go_wp2
  go_returns
  exact ⟨rfl, HN.out⟩
theorem word_zero (v r : BitVec 64) (w : World) : Calls Try.prog 42 #[.int .u64 (W64 v), .int .u64 (W64 r), .int .u64 0] w fun e w' => e = .returned (.tuple #[.int .u64 0, .int .i64 8]) ∧ New w w' := by
  go_enter Try.func42, Try.ntmps42
  go_wp2
  go_returns
  exact ⟨rfl, New.refl _⟩
theorem word_no (v r n : BitVec 64) (hn0 : ¬ n = 0#64) (hv : ¬ v.toNat < n.toNat) (w : World) : Calls Try.prog 42 #[.int .u64 (W64 v), .int .u64 (W64 r), .int .u64 (W64 n)] w fun e w' => e = .returned (.tuple #[.int .u64 0, .int .i64 2]) ∧ New w w' := by
  have z1 : (W64 n == 0) = false := by
    have := pos_of_ne hn0
    rw [beq_eq_false_iff_ne]; unfold W64; omega
  have z2 : (n == 0#64) = false := beq_false_of_ne hn0
  have z3 : decide (W64 n ≤ W64 v) = true := by rw [decide_eq_true_eq]; unfold W64; omega
  clear hn0 hv
  go_enter Try.func42, Try.ntmps42
  go_wp2
  go_returns
  exact ⟨rfl, New.refl _⟩
theorem cmp_not (r n : BitVec 64) (hr : ¬ r.toNat < eachM n) : ∃ c : Int, decide (0 ≤ c) = true ∧ ∀ w : World, Calls Try.prog 26 #[.agg #[.int .u64 0, .int .u64 (W64 r)], .agg #[.int .u64 (W64 (eachHi n)), .int .u64 (W64 (eachLo n))]] w fun e w' => e = .returned (.int .i64 c) ∧ New w w' := by
  refine ⟨if eachM n < r.toNat then 1 else 0, by split <;> rfl, fun w => ?_⟩
  have hc := wcmp_two 0#64 r (eachHi n) (eachLo n) w
  rw [two_each, two_low, if_neg hr, show W64 0#64 = 0 by decide] at hc
  exact hc
set_option maxHeartbeats 1000000 in
theorem word_over (v r n : BitVec 64) (hn0 : ¬ n = 0#64) (hv : v.toNat < n.toNat) (hr : ¬ r.toNat < eachM n) (w : World) : Calls Try.prog 42 #[.int .u64 (W64 v), .int .u64 (W64 r), .int .u64 (W64 n)] w fun e w' => e = .returned (.tuple #[.int .u64 0, .int .i64 2]) ∧ New w w' := by
  have z1 : (W64 n == 0) = false := by
    have := pos_of_ne hn0
    rw [beq_eq_false_iff_ne]; unfold W64; omega
  have z2 : (n == 0#64) = false := beq_false_of_ne hn0
  have z3 : decide (W64 n ≤ W64 v) = false := by rw [decide_eq_false_iff_not]; unfold W64; omega
  obtain ⟨c, hc1, hc⟩ := cmp_not r n hr
  have HC := Lib.hid hc
  have H3 := Lib.hid (each_m n)
  have HN := Lib.hid (New.refl w)
  generalize eachHi n = y1 at *
  generalize eachLo n = y0 at *
  clear hc hn0 hv hr
  go_enter Try.func42, Try.ntmps42
  go_wp2_with fail
  refine (H3.out _).mono ?_
  rintro e w9 ⟨rfl, hn⟩
  replace HN := Lib.hid (HN.out.trans hn)
  clear hn
  go_wp2_with fail
  refine (HC.out _).mono ?_
  rintro e w9 ⟨rfl, hn⟩
  replace HN := Lib.hid (HN.out.trans hn)
  clear hn
  go_wp2
  go_returns
  exact ⟨rfl, HN.out⟩
set_option maxHeartbeats 2000000 in
theorem MaskEven_walk (W : World) (a0 : Int) (w0 : (Lit.int .u64 a0).wf = true) (a1 : Int) (w1 : (Lit.int .u64 a1).wf = true) (a2 : Int) (w2 : (Lit.int .u64 a2).wf = true) (a3 : Int) (w3 : (Lit.int .u64 a3).wf = true) :
    Calls Try.prog 10 #[.int .u64 a0, .int .u64 a1, .int .u64 a2, .int .u64 a3] W fun e w' => e = .returned (.bool true) ∧ Below W.heap.size W w' := by
  obtain ⟨x, rfl⟩ := ex64 a0 (by simp [Lit.wf, IntKind.min, IntKind.max, IntKind.signed, IntKind.bits] at w0; omega)
  obtain ⟨n, rfl⟩ := ex64 a1 (by simp [Lit.wf, IntKind.min, IntKind.max, IntKind.signed, IntKind.bits] at w1; omega)
  obtain ⟨v, rfl⟩ := ex64 a2 (by simp [Lit.wf, IntKind.min, IntKind.max, IntKind.signed, IntKind.bits] at w2; omega)
  obtain ⟨r, rfl⟩ := ex64 a3 (by simp [Lit.wf, IntKind.min, IntKind.max, IntKind.signed, IntKind.bits] at w3; omega)
  clear w0 w1 w2 w3
  have HN := Lib.hid (New.refl W)
  have HA := Lib.hid awake_39
  by_cases h0 : n = 0#64
  · subst h0
    rw [show W64 0#64 = 0 by decide]
    go_enter Try.func10, Try.ntmps10
    go_wp2_with fail
    refine (HA.out _).mono ?_
    rintro e w9 ⟨rfl, hn⟩
    replace HN := Lib.hid (HN.out.trans hn)
    clear hn
    go_wp2_with fail
    refine (rtakes_zero x _).mono ?_
    rintro e w9 ⟨rfl, hn⟩
    replace HN := Lib.hid (HN.out.trans hn)
    clear hn
    go_wp2_with fail
    refine (word_zero v r _).mono ?_
    rintro e w9 ⟨rfl, hn⟩
    replace HN := Lib.hid (HN.out.trans hn)
    clear hn
    go_wp2
    go_ret
    exact ⟨rfl, HN.out⟩
  · have z1 : (W64 n == 0) = false := by
      have := pos_of_ne h0
      rw [beq_eq_false_iff_ne]; unfold W64; omega
    have z2 : (n == 0#64) = false := beq_false_of_ne h0
    have H4 := Lib.hid (reach_m n)
    have H6 := Lib.hid (rtakes_m x n h0)
    have H8 := Lib.hid (mrank_m x n h0)
    obtain ⟨t, ht⟩ : ∃ t, takM x n = t := ⟨_, rfl⟩
    rw [ht] at H6 H8
    have hback : takM x n = true → Hid (∀ w, Calls Try.prog 42 #[.int .u64 (W64 (telM x n)), .int .u64 (W64 (rnkM x n)), .int .u64 (W64 n)] w fun e w' => e = .returned (.tuple #[.int .u64 (W64 x), .int .i64 0]) ∧ New w w') := fun ht => Lib.hid fun w => by
      have h1 : W64 (telM x n) < W64 n := of_decide_eq_true ht
      have h := word_m (telM x n) (rnkM x n) n h0 (by unfold W64 at h1; omega) (rnk_lt x n h0) w
      rw [show wrdM (telM x n) (rnkM x n) n = x from wrd_back x n] at h
      exact h
    by_cases hv : v.toNat < n.toNat
    · have z3 : decide (W64 n ≤ W64 v) = false := by rw [decide_eq_false_iff_not]; unfold W64; omega
      by_cases hr : r.toNat < eachM n
      · have hc := fun w => wcmp_two 0#64 r (eachHi n) (eachLo n) w
        rw [two_each, two_low, if_pos hr, show W64 0#64 = 0 by decide] at hc
        have HC := Lib.hid hc
        have HW := Lib.hid (word_m v r n h0 hv hr)
        have ht2 := tells_m (wrdM v r n) n
        rw [wrd_tel v r n h0 hv hr, show rnkM (wrdM v r n) n = r from wrd_rnk v r n h0 hv hr] at ht2
        have HT2 := Lib.hid ht2
        generalize eachHi n = y1 at *
        generalize eachLo n = y0 at *
        generalize wrdM v r n = y at *
        clear hc ht2 hv hr h0
        cases t
        · clear hback H8
          go_enter Try.func10, Try.ntmps10
          go_wp2_with fail
          refine (HA.out _).mono ?_
          rintro e w9 ⟨rfl, hn⟩
          replace HN := Lib.hid (HN.out.trans hn)
          clear hn
          go_wp2_with fail
          refine (H6.out _).mono ?_
          rintro e w9 ⟨rfl, hn⟩
          replace HN := Lib.hid (HN.out.trans hn)
          clear hn
          go_wp2_with fail
          refine (HW.out _).mono ?_
          rintro e w9 ⟨rfl, hn⟩
          replace HN := Lib.hid (HN.out.trans hn)
          clear hn
          go_wp2_with fail
          refine (H4.out _).mono ?_
          rintro e w9 ⟨rfl, hn⟩
          replace HN := Lib.hid (HN.out.trans hn)
          clear hn
          go_wp2_with fail
          refine (HC.out _).mono ?_
          rintro e w9 ⟨rfl, hn⟩
          replace HN := Lib.hid (HN.out.trans hn)
          clear hn
          go_wp2_with fail
          refine (HT2.out _).mono ?_
          rintro e w9 ⟨rfl, hn⟩
          replace HN := Lib.hid (HN.out.trans hn)
          clear hn
          go_wp2
          go_ret
          exact ⟨rfl, HN.out⟩
        · have HB := hback ht
          clear hback
          generalize telM x n = u at *
          generalize rnkM x n = k at *
          go_enter Try.func10, Try.ntmps10
          go_wp2_with fail
          refine (HA.out _).mono ?_
          rintro e w9 ⟨rfl, hn⟩
          replace HN := Lib.hid (HN.out.trans hn)
          clear hn
          go_wp2_with fail
          refine (H6.out _).mono ?_
          rintro e w9 ⟨rfl, hn⟩
          replace HN := Lib.hid (HN.out.trans hn)
          clear hn
          go_wp2_with fail
          refine (H8.out trivial _).mono ?_
          rintro e w9 ⟨rfl, hn⟩
          replace HN := Lib.hid (HN.out.trans hn)
          clear hn
          go_wp2_with fail
          refine (HB.out _).mono ?_
          rintro e w9 ⟨rfl, hn⟩
          replace HN := Lib.hid (HN.out.trans hn)
          clear hn
          go_wp2_with fail
          refine (HW.out _).mono ?_
          rintro e w9 ⟨rfl, hn⟩
          replace HN := Lib.hid (HN.out.trans hn)
          clear hn
          go_wp2_with fail
          refine (H4.out _).mono ?_
          rintro e w9 ⟨rfl, hn⟩
          replace HN := Lib.hid (HN.out.trans hn)
          clear hn
          go_wp2_with fail
          refine (HC.out _).mono ?_
          rintro e w9 ⟨rfl, hn⟩
          replace HN := Lib.hid (HN.out.trans hn)
          clear hn
          go_wp2_with fail
          refine (HT2.out _).mono ?_
          rintro e w9 ⟨rfl, hn⟩
          replace HN := Lib.hid (HN.out.trans hn)
          clear hn
          go_wp2
          go_ret
          exact ⟨rfl, HN.out⟩
      · have HW := Lib.hid (word_over v r n h0 hv hr)
        obtain ⟨c, hc1, hc⟩ := cmp_not r n hr
        have HC := Lib.hid hc
        generalize eachHi n = y1 at *
        generalize eachLo n = y0 at *
        clear hc hv hr h0
        cases t
        · clear hback H8
          go_enter Try.func10, Try.ntmps10
          go_wp2_with fail
          refine (HA.out _).mono ?_
          rintro e w9 ⟨rfl, hn⟩
          replace HN := Lib.hid (HN.out.trans hn)
          clear hn
          go_wp2_with fail
          refine (H6.out _).mono ?_
          rintro e w9 ⟨rfl, hn⟩
          replace HN := Lib.hid (HN.out.trans hn)
          clear hn
          go_wp2_with fail
          refine (HW.out _).mono ?_
          rintro e w9 ⟨rfl, hn⟩
          replace HN := Lib.hid (HN.out.trans hn)
          clear hn
          go_wp2_with fail
          refine (H4.out _).mono ?_
          rintro e w9 ⟨rfl, hn⟩
          replace HN := Lib.hid (HN.out.trans hn)
          clear hn
          go_wp2_with fail
          refine (HC.out _).mono ?_
          rintro e w9 ⟨rfl, hn⟩
          replace HN := Lib.hid (HN.out.trans hn)
          clear hn
          go_wp2
          go_ret
          exact ⟨rfl, HN.out⟩
        · have HB := hback ht
          clear hback
          generalize telM x n = u at *
          generalize rnkM x n = k at *
          go_enter Try.func10, Try.ntmps10
          go_wp2_with fail
          refine (HA.out _).mono ?_
          rintro e w9 ⟨rfl, hn⟩
          replace HN := Lib.hid (HN.out.trans hn)
          clear hn
          go_wp2_with fail
          refine (H6.out _).mono ?_
          rintro e w9 ⟨rfl, hn⟩
          replace HN := Lib.hid (HN.out.trans hn)
          clear hn
          go_wp2_with fail
          refine (H8.out trivial _).mono ?_
          rintro e w9 ⟨rfl, hn⟩
          replace HN := Lib.hid (HN.out.trans hn)
          clear hn
          go_wp2_with fail
          refine (HB.out _).mono ?_
          rintro e w9 ⟨rfl, hn⟩
          replace HN := Lib.hid (HN.out.trans hn)
          clear hn
          go_wp2_with fail
          refine (HW.out _).mono ?_
          rintro e w9 ⟨rfl, hn⟩
          replace HN := Lib.hid (HN.out.trans hn)
          clear hn
          go_wp2_with fail
          refine (H4.out _).mono ?_
          rintro e w9 ⟨rfl, hn⟩
          replace HN := Lib.hid (HN.out.trans hn)
          clear hn
          go_wp2_with fail
          refine (HC.out _).mono ?_
          rintro e w9 ⟨rfl, hn⟩
          replace HN := Lib.hid (HN.out.trans hn)
          clear hn
          go_wp2
          go_ret
          exact ⟨rfl, HN.out⟩
    · have z3 : decide (W64 n ≤ W64 v) = true := by rw [decide_eq_true_eq]; unfold W64; omega
      have HW := Lib.hid (word_no v r n h0 hv)
      clear hv h0 H4
      cases t
      · clear hback H8
        go_enter Try.func10, Try.ntmps10
        go_wp2_with fail
        refine (HA.out _).mono ?_
        rintro e w9 ⟨rfl, hn⟩
        replace HN := Lib.hid (HN.out.trans hn)
        clear hn
        go_wp2_with fail
        refine (H6.out _).mono ?_
        rintro e w9 ⟨rfl, hn⟩
        replace HN := Lib.hid (HN.out.trans hn)
        clear hn
        go_wp2_with fail
        refine (HW.out _).mono ?_
        rintro e w9 ⟨rfl, hn⟩
        replace HN := Lib.hid (HN.out.trans hn)
        clear hn
        go_wp2
        go_ret
        exact ⟨rfl, HN.out⟩
      · have HB := hback ht
        clear hback
        generalize telM x n = u at *
        generalize rnkM x n = k at *
        go_enter Try.func10, Try.ntmps10
        go_wp2_with fail
        refine (HA.out _).mono ?_
        rintro e w9 ⟨rfl, hn⟩
        replace HN := Lib.hid (HN.out.trans hn)
        clear hn
        go_wp2_with fail
        refine (H6.out _).mono ?_
        rintro e w9 ⟨rfl, hn⟩
        replace HN := Lib.hid (HN.out.trans hn)
        clear hn
        go_wp2_with fail
        refine (H8.out trivial _).mono ?_
        rintro e w9 ⟨rfl, hn⟩
        replace HN := Lib.hid (HN.out.trans hn)
        clear hn
        go_wp2_with fail
        refine (HB.out _).mono ?_
        rintro e w9 ⟨rfl, hn⟩
        replace HN := Lib.hid (HN.out.trans hn)
        clear hn
        go_wp2_with fail
        refine (HW.out _).mono ?_
        rintro e w9 ⟨rfl, hn⟩
        replace HN := Lib.hid (HN.out.trans hn)
        clear hn
        go_wp2
        go_ret
        exact ⟨rfl, HN.out⟩
end Go.Proofs.Ytipfkegpiimefaa
