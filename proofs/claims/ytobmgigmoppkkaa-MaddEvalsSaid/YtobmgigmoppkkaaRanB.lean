/- Contracts of layer 26: Check, Reduce; the document's own Check, Has, Reduce. -/
import Derived.Test.YtobmgigmoppkkaaRanA
import Derived.Test.YtobmgigmoppkkaaBitM
import Derived.Test.YtobmgigmoppkkaaBitD
import Derived.Test.YtobmgigmoppkkaaWidS
namespace Go.Bv
open Go Go.RowKit
theorem calls_anew {P : Program} {F : FuncId} {args : Array Value} {v : Value} (h : ∀ w, Calls P F args w fun e w' => e = .returned v ∧ w' = w) (w : World) : Calls P F args w fun e w' => e = .returned v ∧ New w w' :=
  (h w).mono fun _ _ ⟨a, b⟩ => ⟨a, b ▸ New.refl w⟩
theorem lenR_bounds (A : Nat) : ∀ n, A < 2 ^ n → A ≠ 0 → 1 ≤ lenN A n ∧ 2 ^ (lenN A n - 1) ≤ A ∧ A < 2 ^ lenN A n
  | 0, h, h0 => by rw [Nat.pow_zero] at h; omega
  | k + 1, h, h0 => by
    unfold lenN
    by_cases h1 : A / 2 ^ k % 2 = 1
    · rw [if_pos h1]
      refine ⟨by omega, ?_, h⟩
      rw [Nat.add_sub_cancel]
      rcases Nat.lt_or_ge A (2 ^ k) with h2 | h2
      · rw [Nat.div_eq_of_lt h2] at h1; omega
      · exact h2
    · rw [if_neg h1]
      refine lenR_bounds A k ?_ h0
      rcases Nat.lt_or_ge A (2 ^ k) with h2 | h2
      · exact h2
      · exfalso
        apply h1
        have h3 : A / 2 ^ k = 1 := by
          rw [Nat.pow_succ] at h
          exact Nat.div_eq_of_lt_le (by omega) (by omega)
        rw [h3]
theorem lenR_zero : ∀ n, lenN 0 n = 0
  | 0 => rfl
  | k + 1 => by unfold lenN; rw [Nat.zero_div, if_neg (by omega)]; exact lenR_zero k
theorem lenR_le (A n k : Nat) (h : A < 2 ^ n) : lenN A n ≤ k ↔ A < 2 ^ k := by
  by_cases h0 : A = 0
  · subst h0; rw [lenR_zero]; exact ⟨fun _ => Nat.two_pow_pos k, fun _ => Nat.zero_le _⟩
  · obtain ⟨a, b, c⟩ := lenR_bounds A n h h0
    constructor
    · intro h1; exact Nat.lt_of_lt_of_le c (Nat.pow_le_pow_right (by omega) h1)
    · intro h1
      have := (Nat.pow_lt_pow_iff_right (by omega : 1 < 2)).1 (Nat.lt_of_le_of_lt b h1)
      omega
/-- what a number is brought to -/
def redR (x m : BitVec 64) (k : Nat) : BitVec 64 := loN (x.toNat * m.toNat / 2 ^ k)
theorem prod_lt (x m : BitVec 64) : x.toNat * m.toNat < 2 ^ 128 := by
  have hx := x.isLt
  have hm := m.isLt
  exact Nat.lt_of_lt_of_le (Nat.mul_lt_mul'' hx hm) (by decide)
theorem shr_none (x : BitVec 64) (k : Nat) : (x >>> k == 0#64) = decide (x.toNat < 2 ^ k) := by
  rw [Bool.eq_iff_iff, beq_iff_eq, decide_eq_true_eq]
  constructor
  · intro h
    have h2 := congrArg BitVec.toNat h
    rw [BitVec.toNat_ushiftRight, Nat.shiftRight_eq_div_pow] at h2
    exact (Nat.div_eq_zero_iff_lt (Nat.two_pow_pos k)).1 h2
  · intro h
    apply BitVec.eq_of_toNat_eq
    rw [BitVec.toNat_ushiftRight, Nat.shiftRight_eq_div_pow, Nat.div_eq_of_lt h]; rfl
/-- the error's number -/
def chkR (k : Int) (m : BitVec 64) : Int := if k < 1 ∨ 64 < k then 1 else if m = 0#64 then 8 else 0
end Go.Bv
namespace Go.Proofs.Ytobmgigmoppkkaa
open Go.RowKit Go.Bv
set_option linter.unusedVariables false
theorem check_r (k : Int) (m : BitVec 64) (w : World) : Calls Try.prog 23 #[.int .i64 k, .int .u64 (W64 m)] w fun e w' => e = .returned (.int .i64 (chkR k m)) ∧ New w w' := by
  unfold chkR
  by_cases h1 : k < 1
  · rw [if_pos (Or.inl h1)]
    go_enter Try.func23, Try.ntmps23
    go_wp2
    go_ret
    exact ⟨rfl, New.refl _⟩
  by_cases h2 : 64 < k
  · rw [if_pos (Or.inr h2)]
    go_enter Try.func23, Try.ntmps23
    go_wp2
    go_ret
    exact ⟨rfl, New.refl _⟩
  rw [if_neg (by omega)]
  by_cases h3 : m = 0#64
  · rw [if_pos h3]
    subst h3
    rw [show W64 0#64 = 0 by decide]
    go_enter Try.func23, Try.ntmps23
    go_wp2
    go_ret
    exact ⟨rfl, New.refl _⟩
  · rw [if_neg h3]
    have z1 : (W64 m == 0) = false := by
      have := pos_of_ne h3
      rw [beq_eq_false_iff_ne]; unfold W64; omega
    have z2 : (m == 0#64) = false := beq_false_of_ne h3
    clear h3
    go_enter Try.func23, Try.ntmps23
    go_wp2
    go_ret
    exact ⟨rfl, New.refl _⟩
theorem rcheck_r (k : Int) (m : BitVec 64) (w : World) : Calls Try.prog 22 #[.int .i64 k, .int .u64 (W64 m)] w fun e w' => e = .returned (.int .i64 (chkR k m)) ∧ New w w' := by
  unfold chkR
  by_cases h1 : k < 1
  · rw [if_pos (Or.inl h1)]
    go_enter Try.func22, Try.ntmps22
    go_wp2
    go_ret
    exact ⟨rfl, New.refl _⟩
  by_cases h2 : 64 < k
  · rw [if_pos (Or.inr h2)]
    go_enter Try.func22, Try.ntmps22
    go_wp2
    go_ret
    exact ⟨rfl, New.refl _⟩
  rw [if_neg (by omega)]
  by_cases h3 : m = 0#64
  · rw [if_pos h3]
    subst h3
    rw [show W64 0#64 = 0 by decide]
    go_enter Try.func22, Try.ntmps22
    go_wp2
    go_ret
    exact ⟨rfl, New.refl _⟩
  · rw [if_neg h3]
    have z1 : (W64 m == 0) = false := by
      have := pos_of_ne h3
      rw [beq_eq_false_iff_ne]; unfold W64; omega
    have z2 : (m == 0#64) = false := beq_false_of_ne h3
    clear h3
    go_enter Try.func22, Try.ntmps22
    go_wp2
    go_ret
    exact ⟨rfl, New.refl _⟩
set_option maxHeartbeats 1000000 in
theorem has_r (x : BitVec 64) (k : Nat) (hk : k ≤ 64) (w : World) : Calls Try.prog 24 #[.int .u64 (W64 x), .int .i64 (k : Int)] w fun e w' => e = .returned (.bool (!decide (x.toNat < 2 ^ k))) ∧ New w w' := by
  have hl := lenR_le x.toNat 64 k x.isLt
  have hd : decide (k < lenN x.toNat 64) = !decide (x.toNat < 2 ^ k) := by
    by_cases h : x.toNat < 2 ^ k
    · rw [decide_eq_true h, Bool.not_true, decide_eq_false_iff_not]; have := hl.2 h; omega
    · rw [decide_eq_false h, Bool.not_false, decide_eq_true_eq]; have := fun h2 => h (hl.1 h2); omega
  rw [← hd]
  have HO := Lib.hid (fun w => of_own x 64 64 (by omega) rfl w)
  have HL := Lib.hid (fun c a w hz => blen_any x.toNat 64 c a w hz)
  have HN := Lib.hid (New.refl w)
  clear hl hd
  generalize lenN x.toNat 64 = s at *
  go_enter Try.func24, Try.ntmps24
  go_wp2_with fail
  refine (HO.out _).mono ?_
  rintro e w1 ⟨v1, rfl, hown, hn⟩
  obtain ⟨a1, c1, rfl, hz⟩ := bits_row hown (by omega)
  have HN1 := Lib.hid (HN.out.trans hn)
  have HZ1 := Lib.hid hz
  clear hown hz hn
  go_wp2_with fail
  refine (HL.out _ _ _ HZ1.out).mono ?_
  rintro e w2 ⟨rfl, rfl⟩
  go_wp2
  go_ret
  exact ⟨rfl, HN1.out⟩
set_option maxHeartbeats 1000000 in
theorem rreduce_r (x m : BitVec 64) (k : Nat) (hk : k ≤ 64) (w : World) : Calls Try.prog 25 #[.int .u64 (W64 x), .int .i64 (k : Int), .int .u64 (W64 m)] w fun e w' => e = .returned (.int .u64 (W64 (redR x m k))) ∧ New w w' := by
  have hp := prod_lt x m
  have HO1 := Lib.hid (fun w => of_own x 64 64 (by omega) rfl w)
  have HO2 := Lib.hid (fun w => of_own m 64 64 (by omega) rfl w)
  have HM := Lib.hid fun a1 c1 a2 c2 w h1 h2 => bmul_own x.toNat m.toNat 64 64 c1 c2 a1 a2 128 128 rfl (by omega) (by omega) w h1 x.isLt h2 m.isLt
  have HS := Lib.hid fun a c w hz => bshr_own (x.toNat * m.toNat) 128 c k a 128 128 rfl (by omega) (by omega) w hz hp
  have hw := fun a c w hz => word_any (x.toNat * m.toNat / 2 ^ k) 128 c 0 a w hz (Nat.lt_of_le_of_lt (Nat.div_le_self _ _) hp) (by omega)
  rw [Nat.pow_zero, Nat.div_one] at hw
  have HW := Lib.hid hw
  have HR := Lib.hid (show BitVec.ofNat 64 (x.toNat * m.toNat / 2 ^ k) = redR x m k from rfl)
  have HN := Lib.hid (New.refl w)
  generalize redR x m k = y at *
  generalize x.toNat * m.toNat / 2 ^ k = Q at *
  generalize x.toNat * m.toNat = N at *
  clear hp hw
  go_enter Try.func25, Try.ntmps25
  go_wp2_with fail
  refine (HO1.out _).mono ?_
  rintro e w1 ⟨v1, rfl, hown, hn⟩
  obtain ⟨a1, c1, rfl, hz⟩ := bits_row hown (by omega)
  have HN1 := Lib.hid (HN.out.trans hn)
  have HZ1 := Lib.hid hz
  clear hown hz hn
  go_wp2_with fail
  refine (HO2.out _).mono ?_
  rintro e w2 ⟨v2, rfl, hown, hn⟩
  obtain ⟨a2, c2, rfl, hz⟩ := bits_row hown (by omega)
  have HN2 := Lib.hid (HN1.out.trans hn)
  have HZ2 := Lib.hid hz
  replace HZ1 := Lib.hid (HZ1.out.stay hn)
  clear hown hz hn
  go_wp2_with fail
  refine (HM.out _ _ _ _ _ HZ1.out HZ2.out).mono ?_
  rintro e w3 ⟨v3, rfl, hown, hn⟩
  obtain ⟨a3, c3, rfl, hz⟩ := bits_row hown (by omega)
  have HN3 := Lib.hid (HN2.out.trans hn)
  have HZ3 := Lib.hid hz
  clear hown hz hn
  go_wp2_with fail
  refine (HS.out _ _ _ HZ3.out).mono ?_
  rintro e w4 ⟨v4, rfl, hown, hn⟩
  obtain ⟨a4, c4, rfl, hz⟩ := bits_row hown (by omega)
  have HN4 := Lib.hid (HN3.out.trans hn)
  have HZ4 := Lib.hid hz
  clear hown hz hn
  go_wp2_with fail
  refine (HW.out _ _ _ HZ4.out).mono ?_
  rintro e w9 ⟨rfl, rfl⟩
  go_wp2
  go_ret
  rw [HR.out]
  exact ⟨rfl, HN4.out⟩
theorem reduce_bad (x m : BitVec 64) (k : Int) (h : (chkR k m == 0) = false) (w : World) : Calls Try.prog 21 #[.int .u64 (W64 x), .int .i64 k, .int .u64 (W64 m)] w fun e w' => e = .returned (.tuple #[.int .u64 0, .int .i64 (chkR k m)]) ∧ New w w' := by
  have HC := Lib.hid (check_r k m)
  have HN := Lib.hid (New.refl w)
  generalize chkR k m = c at *
  go_enter Try.func21, Try.ntmps21
  go_wp2_with fail
  refine (HC.out _).mono ?_
  rintro e w9 ⟨rfl, hn⟩
  replace HN := Lib.hid (HN.out.trans hn)
  clear hn
  go_wp2
  go_returns
  exact ⟨rfl, HN.out⟩
theorem reduce_no (x m : BitVec 64) (k : Nat) (h : chkR k m = 0) (hx : ¬ x.toNat < 2 ^ k) (w : World) : Calls Try.prog 21 #[.int .u64 (W64 x), .int .i64 (k : Int), .int .u64 (W64 m)] w fun e w' => e = .returned (.tuple #[.int .u64 0, .int .i64 2]) ∧ New w w' := by
  have HC := Lib.hid (check_r k m)
  rw [h] at HC
  have HN := Lib.hid (New.refl w)
  have z1 : (x >>> k != 0#64) = true := by rw [bne, shr_none, decide_eq_false hx]; rfl
  clear hx
  go_enter Try.func21, Try.ntmps21
  go_wp2_with fail
  refine (HC.out _).mono ?_
  rintro e w9 ⟨rfl, hn⟩
  replace HN := Lib.hid (HN.out.trans hn)
  clear hn
  go_wp2
  go_returns
  exact ⟨rfl, HN.out⟩
set_option maxHeartbeats 1000000 in
theorem reduce_r (x m : BitVec 64) (k : Nat) (hk : k ≤ 64) (h : chkR k m = 0) (hx : x.toNat < 2 ^ k) (w : World) : Calls Try.prog 21 #[.int .u64 (W64 x), .int .i64 (k : Int), .int .u64 (W64 m)] w fun e w' => e = .returned (.tuple #[.int .u64 (W64 (redR x m k)), .int .i64 0]) ∧ New w w' := by
  have HC := Lib.hid (check_r k m)
  rw [h] at HC
  have HN := Lib.hid (New.refl w)
  have z1 : (x >>> k != 0#64) = false := by rw [bne, shr_none, decide_eq_true hx]; rfl
  have H1 := Lib.hid (wmul_any x m)
  have h2 := shr_n (x.toNat * m.toNat) k (prod_lt x m) (by omega)
  rw [show loN (x.toNat * m.toNat / 2 ^ k) = redR x m k from rfl] at h2
  have H2 := Lib.hid h2
  generalize redR x m k = y at *
  generalize hiN (x.toNat * m.toNat / 2 ^ k) = y1 at *
  generalize hiN (x.toNat * m.toNat) = u1 at *
  generalize loN (x.toNat * m.toNat) = u0 at *
  have hfd : ∀ w, (Instr.field 24 (.agg #[.int .u64 (W64 y1), .int .u64 (W64 y)]) 1).run Try.prog w = .ok (.int .u64 (W64 y)) w := fun w => by kernel_rfl
  clear hx h hk h2
  go_enter Try.func21, Try.ntmps21
  go_wp2_with fail
  refine (HC.out _).mono ?_
  rintro e w9 ⟨rfl, hn⟩
  replace HN := Lib.hid (HN.out.trans hn)
  clear hn
  go_wp2_with fail
  refine (H1.out _).mono ?_
  rintro e w9 ⟨rfl, hn⟩
  replace HN := Lib.hid (HN.out.trans hn)
  clear hn
  go_wp2_with fail
  refine (H2.out _).mono ?_
  rintro e w9 ⟨rfl, hn⟩
  replace HN := Lib.hid (HN.out.trans hn)
  clear hn
  go_wp2
  go_returns
  exact ⟨rfl, HN.out⟩
end Go.Proofs.Ytobmgigmoppkkaa
