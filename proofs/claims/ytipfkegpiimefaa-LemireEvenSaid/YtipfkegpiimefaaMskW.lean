/- The law MaskWords, walked. -/
import Derived.Test.YtipfkegpiimefaaMskG
import Derived.Test.YtipfkegpiimefaaMskF
import Derived.Test.YtipfkegpiimefaaMskE
import Derived.Test.YtipfkegpiimefaaClass
namespace Go.Bv
open Go Go.RowKit
theorem two_low (r : BitVec 64) : two 0#64 r = r.toNat := by unfold two; simp
theorem tak_zero (x : BitVec 64) : takM x 0#64 = false := by
  unfold takM
  rw [decide_eq_false_iff_not, show W64 0#64 = 0 by decide]
  unfold W64
  omega
/-- a contract that changes nothing, as one that makes memory -/
theorem calls_new {P : Program} {F : FuncId} {args : Array Value} {v : Value} (h : ∀ w, Calls P F args w fun e w' => e = .returned v ∧ w' = w) (w : World) : Calls P F args w fun e w' => e = .returned v ∧ New w w' :=
  (h w).mono fun _ _ ⟨a, b⟩ => ⟨a, b ▸ New.refl w⟩
end Go.Bv
namespace Go.Proofs.Ytipfkegpiimefaa
open Go.RowKit Go.Bv
set_option linter.unusedVariables false
theorem rnk_lt (x n : BitVec 64) (h : ¬ n = 0#64) : (rnkM x n).toNat < eachM n := by
  have hb := bitsM_le n
  have hx := x.isLt
  unfold rnkM eachM
  rw [if_neg h, Nat.one_mul, BitVec.toNat_ushiftRight, Nat.shiftRight_eq_div_pow, Nat.div_lt_iff_lt_mul (Nat.two_pow_pos _), ← Nat.pow_add, show 64 - bitsM n + bitsM n = 64 by omega]
  exact hx
set_option maxHeartbeats 1000000 in
theorem rtakes_zero (x : BitVec 64) (w : World) : Calls Try.prog 39 #[.int .u64 (W64 x), .int .u64 0] w fun e w' => e = .returned (.bool false) ∧ New w w' := by
  have h := tells_m x 0#64
  rw [show W64 0#64 = 0 by decide] at h
  have HT := Lib.hid h
  clear h
  go_enter Try.func39, Try.ntmps39
  go_wp2_with fail
  refine (HT.out _).mono ?_
  rintro e w1 ⟨rfl, hn⟩
  have HN := Lib.hid hn
  clear hn
  go_wp2
  go_ret
  exact ⟨rfl, HN.out⟩
set_option maxHeartbeats 2000000 in
theorem MaskWords_walk (W : World) (a0 : Int) (w0 : (Lit.int .u64 a0).wf = true) (a1 : Int) (w1 : (Lit.int .u64 a1).wf = true) :
    Calls Try.prog 9 #[.int .u64 a0, .int .u64 a1] W fun e w' => e = .returned (.bool true) ∧ Below W.heap.size W w' := by
  obtain ⟨x, rfl⟩ := ex64 a0 (by simp [Lit.wf, IntKind.min, IntKind.max, IntKind.signed, IntKind.bits] at w0; omega)
  obtain ⟨n, rfl⟩ := ex64 a1 (by simp [Lit.wf, IntKind.min, IntKind.max, IntKind.signed, IntKind.bits] at w1; omega)
  clear w0 w1
  have heq := equ128
  have HN := Lib.hid (New.refl W)
  have HA := Lib.hid awake_39
  by_cases h0 : n = 0#64
  · subst h0
    have h1 := calls_new (bits_m 0#64)
    have h2 := rbits_m 0#64
    have h3 := each_m 0#64
    have h4 := reach_m 0#64
    have h5 := mtakes_m x 0#64
    rw [show bitsM 0#64 = 0 from rfl, show W64 0#64 = 0 by decide] at h1 h2
    rw [each_zero.1, each_zero.2, show W64 0#64 = 0 by decide] at h3 h4
    rw [tak_zero, show W64 0#64 = 0 by decide] at h5
    have heq0 := fun w => heq w 0#64 0#64 0#64 0#64
    rw [show W64 0#64 = 0 by decide] at heq0
    have H1 := Lib.hid h1
    have H2 := Lib.hid h2
    have H3 := Lib.hid h3
    have H4 := Lib.hid h4
    have H5 := Lib.hid h5
    clear h1 h2 h3 h4 h5 heq
    rw [show W64 0#64 = 0 by decide]
    go_enter Try.func9, Try.ntmps9
    go_wp2_with fail
    refine (HA.out _).mono ?_
    rintro e w9 ⟨rfl, hn⟩
    replace HN := Lib.hid (HN.out.trans hn)
    clear hn
    go_wp2_with fail
    refine (H1.out _).mono ?_
    rintro e w9 ⟨rfl, hn⟩
    replace HN := Lib.hid (HN.out.trans hn)
    clear hn
    go_wp2_with fail
    refine (H2.out _).mono ?_
    rintro e w9 ⟨rfl, hn⟩
    replace HN := Lib.hid (HN.out.trans hn)
    clear hn
    go_wp2_with fail
    refine (H3.out _).mono ?_
    rintro e w9 ⟨rfl, hn⟩
    replace HN := Lib.hid (HN.out.trans hn)
    clear hn
    go_wp2_with fail
    refine (H4.out _).mono ?_
    rintro e w9 ⟨rfl, hn⟩
    replace HN := Lib.hid (HN.out.trans hn)
    clear hn
    go_wp2_with fail
    refine (H5.out _).mono ?_
    rintro e w9 ⟨rfl, hn⟩
    replace HN := Lib.hid (HN.out.trans hn)
    clear hn
    go_wp2_with fail
    refine (rtakes_zero x _).mono ?_
    rintro e w9 ⟨rfl, hn⟩
    replace HN := Lib.hid (HN.out.trans hn)
    clear hn
    go_wp2_with fail
    refine (mrank_zero x _).mono ?_
    rintro e w9 ⟨rfl, hn⟩
    replace HN := Lib.hid (HN.out.trans hn)
    clear hn
    go_wp2
    go_ret
    exact ⟨rfl, HN.out⟩
  · have z1 : (W64 n == 0) = false := by
      have := pos_of_ne h0
      rw [beq_eq_false_iff_ne]; unfold W64; omega
    have z2 : (n == 0#64) = false := beq_false_of_ne h0
    have hr := rnk_lt x n h0
    have hc := fun w => wcmp_two 0#64 (rnkM x n) (eachHi n) (eachLo n) w
    rw [two_each, two_low, if_pos hr, show W64 0#64 = 0 by decide] at hc
    have HC := Lib.hid hc
    have H1 := Lib.hid (calls_new (bits_m n))
    have H2 := Lib.hid (rbits_m n)
    have H3 := Lib.hid (each_m n)
    have H4 := Lib.hid (reach_m n)
    have H5 := Lib.hid (mtakes_m x n)
    have H6 := Lib.hid (rtakes_m x n h0)
    have H7 := Lib.hid (tells_m x n)
    have H8 := Lib.hid (mrank_m x n h0)
    have H9 := Lib.hid (mrank_no x n h0)
    obtain ⟨t, ht⟩ : ∃ t, takM x n = t := ⟨_, rfl⟩
    rw [ht] at H5 H6 H8 H9
    have HT := Lib.hid ht
    clear hr hc h0 ht
    generalize bitsM n = s at *
    generalize eachHi n = y1 at *
    generalize eachLo n = y0 at *
    generalize rnkM x n = r at *
    cases t
    · clear HC H7 H8
      go_enter Try.func9, Try.ntmps9
      go_wp2_with fail
      refine (HA.out _).mono ?_
      rintro e w9 ⟨rfl, hn⟩
      replace HN := Lib.hid (HN.out.trans hn)
      clear hn
      go_wp2_with fail
      refine (H1.out _).mono ?_
      rintro e w9 ⟨rfl, hn⟩
      replace HN := Lib.hid (HN.out.trans hn)
      clear hn
      go_wp2_with fail
      refine (H2.out _).mono ?_
      rintro e w9 ⟨rfl, hn⟩
      replace HN := Lib.hid (HN.out.trans hn)
      clear hn
      go_wp2_with fail
      refine (H3.out _).mono ?_
      rintro e w9 ⟨rfl, hn⟩
      replace HN := Lib.hid (HN.out.trans hn)
      clear hn
      go_wp2_with fail
      refine (H4.out _).mono ?_
      rintro e w9 ⟨rfl, hn⟩
      replace HN := Lib.hid (HN.out.trans hn)
      clear hn
      go_wp2_with fail
      refine (H5.out _).mono ?_
      rintro e w9 ⟨rfl, hn⟩
      replace HN := Lib.hid (HN.out.trans hn)
      clear hn
      go_wp2_with fail
      refine (H6.out _).mono ?_
      rintro e w9 ⟨rfl, hn⟩
      replace HN := Lib.hid (HN.out.trans hn)
      clear hn
      go_wp2_with fail
      refine (H9.out trivial _).mono ?_
      rintro e w9 ⟨rfl, hn⟩
      replace HN := Lib.hid (HN.out.trans hn)
      clear hn
      go_wp2_with fail
      refine (H6.out _).mono ?_
      rintro e w9 ⟨rfl, hn⟩
      replace HN := Lib.hid (HN.out.trans hn)
      clear hn
      go_wp2
      go_ret
      exact ⟨rfl, HN.out⟩
    · have hl : decide (W64 (telM x n) < W64 n) = true := HT.out
      generalize telM x n = v at *
      clear H9 HT
      go_enter Try.func9, Try.ntmps9
      go_wp2_with fail
      refine (HA.out _).mono ?_
      rintro e w9 ⟨rfl, hn⟩
      replace HN := Lib.hid (HN.out.trans hn)
      clear hn
      go_wp2_with fail
      refine (H1.out _).mono ?_
      rintro e w9 ⟨rfl, hn⟩
      replace HN := Lib.hid (HN.out.trans hn)
      clear hn
      go_wp2_with fail
      refine (H2.out _).mono ?_
      rintro e w9 ⟨rfl, hn⟩
      replace HN := Lib.hid (HN.out.trans hn)
      clear hn
      go_wp2_with fail
      refine (H3.out _).mono ?_
      rintro e w9 ⟨rfl, hn⟩
      replace HN := Lib.hid (HN.out.trans hn)
      clear hn
      go_wp2_with fail
      refine (H4.out _).mono ?_
      rintro e w9 ⟨rfl, hn⟩
      replace HN := Lib.hid (HN.out.trans hn)
      clear hn
      go_wp2_with fail
      refine (H5.out _).mono ?_
      rintro e w9 ⟨rfl, hn⟩
      replace HN := Lib.hid (HN.out.trans hn)
      clear hn
      go_wp2_with fail
      refine (H6.out _).mono ?_
      rintro e w9 ⟨rfl, hn⟩
      replace HN := Lib.hid (HN.out.trans hn)
      clear hn
      go_wp2_with fail
      refine (H8.out trivial _).mono ?_
      rintro e w9 ⟨rfl, hn⟩
      replace HN := Lib.hid (HN.out.trans hn)
      clear hn
      go_wp2_with fail
      refine (H6.out _).mono ?_
      rintro e w9 ⟨rfl, hn⟩
      replace HN := Lib.hid (HN.out.trans hn)
      clear hn
      go_wp2_with fail
      refine (H7.out _).mono ?_
      rintro e w9 ⟨rfl, hn⟩
      replace HN := Lib.hid (HN.out.trans hn)
      clear hn
      go_wp2_with fail
      refine (H4.out _).mono ?_
      rintro e w9 ⟨rfl, hn⟩
      replace HN := Lib.hid (HN.out.trans hn)
      clear hn
      go_wp2_with fail
      refine (HC.out _).mono ?_
      rintro e w9 ⟨rfl, hn⟩
      replace HN := Lib.hid (HN.out.trans hn)
      clear hn
      go_wp2
      go_ret
      exact ⟨rfl, HN.out⟩
end Go.Proofs.Ytipfkegpiimefaa
