/- Contracts of the document's own Pow and Gcd, and of modn.Odd: for all words. -/
import Derived.Test.YtadaaihbeapibaaModC
namespace Go.Bv
open Go Go.RowKit
set_option linter.unusedVariables false
theorem md_mul2 (A B : Nat) (n : BitVec 64) : md ((md A n).toNat * (md B n).toNat) n = md (A * B) n := by
  have := md_pow A B 1 n
  rw [Nat.pow_one, Nat.pow_one] at this
  exact this
theorem md_mul1 (A B : Nat) (n : BitVec 64) : md ((md A n).toNat * B) n = md (A * B) n := by
  have h1 := md_pow A B 1 n
  have h2 := md_pow1 (md A n).toNat B 1 n
  rw [Nat.pow_one, Nat.pow_one] at h1 h2
  rw [← h2, h1]
theorem pow_bit (a q j : Nat) : a ^ (q / 2 ^ j) = a ^ (q / 2 ^ (j + 1)) * a ^ (q / 2 ^ (j + 1)) * a ^ (q / 2 ^ j % 2) := by
  rw [← Nat.pow_add, ← Nat.pow_add]
  congr 1
  have : q / 2 ^ (j + 1) = q / 2 ^ j / 2 := by rw [Nat.pow_succ, Nat.div_div_eq_div_mul]
  omega
end Go.Bv
namespace Go.Proofs.Ytadaaihbeapibaa
open Go.RowKit Go.Bv
set_option linter.unusedVariables false
set_option maxHeartbeats 1000000 in
theorem rpow_any (a b n : BitVec 64) (w : World) :
    Calls Try.prog 19 #[.int .u64 (W64 a), .int .u64 (W64 b), .int .u64 (W64 n)] w fun e w' => e = .returned (.int .u64 (W64 (md (a.toNat ^ b.toNat) n))) ∧ w' = w := by
  by_cases h : n = 0#64
  · subst h
    have HZ := Lib.hid (md_zero (a.toNat ^ b.toNat))
    go_enter Try.func19, Try.ntmps19
    go_wp2
    go_ret
    rw [HZ.out, lo_zero]
    exact ⟨rfl, rfl⟩
  · have hb : (n == 0#64) = false := by rw [beq_eq_false_iff_ne]; exact h
    have hp := pos_of_ne h
    have hnz : ¬ W64 n = 0 := by unfold W64; omega
    have h1 : (1 : Int).tmod (W64 n) = W64 (md (a.toNat ^ (b.toNat / 2 ^ 64)) n) := by
      have := rem_any 1#64 n
      rw [show W64 1#64 = 1 from W64_lit 1 (by omega)] at this
      rw [this]
      congr 1
      apply md_eq h
      rw [Nat.div_eq_of_lt b.isLt, Nat.pow_zero, BitVec.toNat_umod]; rfl
    have HST : Hid (W64 (md (a.toNat ^ (b.toNat / 2 ^ 64)) n) = W64 (md (a.toNat ^ (b.toNat / 2 ^ 64)) n)) := Lib.hid rfl
    have HEND : Hid (md (a.toNat ^ (b.toNat / 2 ^ 0)) n = md (a.toNat ^ b.toNat) n) := Lib.hid (by rw [Nat.pow_zero, Nat.div_one])
    have HOUT : Hid (∀ j, md (a.toNat ^ (b.toNat / 2 ^ j)) n = md (a.toNat ^ (b.toNat / 2 ^ (j + 1)) * a.toNat ^ (b.toNat / 2 ^ (j + 1)) * a.toNat ^ (b.toNat / 2 ^ j % 2)) n) := Lib.hid fun j => by rw [← pow_bit]
    clear hp h
    go_enter Try.func19, Try.ntmps19
    go_wp2_with fail
    go_loop [7, 8] (fun O I => ∃ (o : BitVec 64) (j : Nat), j ≤ 64 ∧ I = .int .i64 ((j : Int) - 1) ∧ O = .int .u64 (W64 o) ∧ Hid (o = md (a.toNat ^ (b.toNat / 2 ^ j)) n)) (fun _ I => (intOf I + 1).toNat)
    case atStart => exact ⟨_, 64, by omega, rfl, rfl, Lib.hid rfl⟩
    case round =>
      obtain ⟨o, j, hj, rfl, rfl, H⟩ := hrel
      by_cases h0 : j = 0
      · subst h0
        have HE : Hid (o = md (a.toNat ^ b.toNat) n) := Lib.hid (by rw [H.out, HEND.out])
        clear H
        go_wp2
        go_ret
        rw [HE.out]
        exact ⟨rfl, rfl⟩
      · obtain ⟨m, rfl⟩ : ∃ m, j = m + 1 := ⟨j - 1, by omega⟩
        have ei : ((m + 1 : Nat) : Int) - 1 = (m : Int) := by omega
        rw [ei]
        have hs : N64 (BitVec.ofNat 64 m) = m := lit_nat m (by omega)
        have hm0 : ¬ (m : Int) < 0 := by omega
        have hw1 : wrap64 ((m : Int) - 1) = (m : Int) - 1 := by unfold wrap64; omega
        have hbit : (b >>> m % 2#64 == 1#64) = decide (b.toNat / 2 ^ m % 2 = 1) := by
          rw [odd_test, BitVec.toNat_ushiftRight, Nat.shiftRight_eq_div_pow]
        by_cases ho : b.toNat / 2 ^ m % 2 = 1
        · rw [decide_eq_true ho] at hbit
          have HG : Hid (md ((md (o.toNat * o.toNat) n).toNat * a.toNat) n = md (a.toNat ^ (b.toNat / 2 ^ m)) n) := Lib.hid (by
            rw [HOUT.out m, ho, Nat.pow_one, md_mul1, H.out, ← md_mul1, md_mul2, md_mul1])
          clear H ho
          go_wp2_with (first
            | (go_at_call 17; refine (rmul_any _ _ _ _).mono ?_; rintro e w' ⟨rfl, rfl⟩))
          exact ⟨⟨_, m, by omega, rfl, rfl, HG⟩, by simp [intOf]⟩
        · rw [decide_eq_false ho] at hbit
          have HG : Hid (md (o.toNat * o.toNat) n = md (a.toNat ^ (b.toNat / 2 ^ m)) n) := Lib.hid (by
            rw [HOUT.out m, show b.toNat / 2 ^ m % 2 = 0 by omega, Nat.pow_zero, Nat.mul_one, H.out, md_mul2])
          clear H ho
          go_wp2_with (first
            | (go_at_call 17; refine (rmul_any _ _ _ _).mono ?_; rintro e w' ⟨rfl, rfl⟩))
          exact ⟨⟨_, m, by omega, rfl, rfl, HG⟩, by simp [intOf]⟩
/-- an odd number's inverse, round by round -/
def inv5 (a : BitVec 64) : Nat → BitVec 64
  | 0 => a
  | k + 1 => inv5 a k * (2#64 - a * inv5 a k)
set_option maxHeartbeats 1000000 in
theorem odd_any (a : BitVec 64) (h : (a &&& 1#64 == 0#64) = false) (w : World) :
    Calls Try.prog 53 #[.int .u64 (W64 a)] w fun e w' => e = .returned (.tuple #[.int .u64 (W64 (inv5 a 5)), .bool true]) ∧ w' = w := by
  have HST : Hid (inv5 a 0 = a) := Lib.hid rfl
  go_enter Try.func53, Try.ntmps53
  go_wp2
  go_loop [4, 9] (fun X I => ∃ k : Nat, k ≤ 5 ∧ I = .int .i64 k ∧ X = .int .u64 (W64 (inv5 a k))) (fun _ I => 5 - (intOf I).toNat)
  case atStart => exact ⟨0, by omega, rfl, rfl⟩
  case round =>
    obtain ⟨k, hk, rfl, rfl⟩ := hrel
    by_cases hlt : (k : Int) < 5
    · have HX : Hid (inv5 a k * (2#64 - a * inv5 a k) = inv5 a (k + 1)) := Lib.hid rfl
      go_wp2
      exact ⟨⟨k + 1, by omega, by go_num, by rw [← HX.out]⟩, by simp [intOf]; omega⟩
    · obtain rfl : k = 5 := by omega
      go_wp2
      go_ret2
      exact ⟨rfl, rfl⟩
end Go.Proofs.Ytadaaihbeapibaa
