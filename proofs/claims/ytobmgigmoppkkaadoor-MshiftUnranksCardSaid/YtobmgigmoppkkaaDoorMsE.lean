/- The document's own layer 20: Twos, Rank. -/
import Derived.Test.YtobmgigmoppkkaaDoorMsD
import Derived.Test.YtobmgigmoppkkaaDoorDivM
namespace Go.Bv
open Go Go.RowKit
theorem tz_spec {x : BitVec 64} (h : ¬ x = 0#64) : ∃ m, x.toNat = 2 ^ tzN x * (2 * m + 1) := by
  have hx0 : x.toNat ≠ 0 := fun e => h (BitVec.eq_of_toNat_eq e)
  obtain ⟨m, hm, _⟩ := Lib.ctzFrom_spec 64 x.toNat (Nat.pos_of_ne_zero hx0) x.isLt
  refine ⟨m, ?_⟩
  unfold tzN Lib.ctz
  rw [if_neg hx0]
  exact hm
theorem shr_nat (x : BitVec 64) (s : Nat) : (x >>> s).toNat = x.toNat / 2 ^ s := by rw [BitVec.toNat_ushiftRight, Nat.shiftRight_eq_div_pow]
theorem mod_two (x : BitVec 64) : (x % 2#64 == 0#64) = decide (x.toNat % 2 = 0) := by
  rw [Bool.eq_iff_iff, beq_iff_eq, decide_eq_true_eq]
  constructor
  · intro e; have := congrArg BitVec.toNat e; rw [BitVec.toNat_umod] at this; exact this
  · intro e; apply BitVec.eq_of_toNat_eq; rw [BitVec.toNat_umod]; exact e
theorem tz_below {x : BitVec 64} (h : ¬ x = 0#64) {k : Nat} (hk : k < tzN x) : (x >>> k % 2#64 == 0#64) = true := by
  obtain ⟨m, hm⟩ := tz_spec h
  rw [mod_two, decide_eq_true_eq, shr_nat, hm, show tzN x = k + ((tzN x - k - 1) + 1) by omega, Nat.pow_add, Nat.mul_assoc, Nat.mul_div_cancel_left _ (Nat.two_pow_pos k), Nat.pow_succ, Nat.mul_right_comm]
  exact Nat.mul_mod_left _ _
theorem tz_there {x : BitVec 64} (h : ¬ x = 0#64) : (x >>> tzN x % 2#64 == 0#64) = false := by
  obtain ⟨m, hm⟩ := tz_spec h
  rw [mod_two, decide_eq_false_iff_not, shr_nat]
  conv => rhs; lhs; lhs; rw [hm]
  rw [Nat.mul_div_cancel_left _ (Nat.two_pow_pos _)]
  omega
/-- a number is its odd part, shifted -/
theorem tz_back {x : BitVec 64} (h : ¬ x = 0#64) : (x >>> tzN x) <<< tzN x = x := by
  obtain ⟨m, hm⟩ := tz_spec h
  apply BitVec.eq_of_toNat_eq
  have hx := x.isLt
  rw [shl_nat, shr_nat]
  have e : x.toNat / 2 ^ tzN x = 2 * m + 1 := by
    conv => lhs; lhs; rw [hm]
    exact Nat.mul_div_cancel_left _ (Nat.two_pow_pos _)
  rw [e, Nat.mul_comm, ← hm, Nat.mod_eq_of_lt hx]
theorem one_shl {s : Nat} (h : s < 64) : (1#64 <<< s).toNat = 2 ^ s := by
  rw [shl_nat]
  show 1 * 2 ^ s % 2 ^ 64 = 2 ^ s
  rw [Nat.one_mul, Nat.mod_eq_of_lt ((Nat.pow_lt_pow_iff_right (by omega)).2 h)]
theorem div_shl (x : BitVec 64) {s : Nat} (h : s < 64) : x / 1#64 <<< s = x >>> s := by
  apply BitVec.eq_of_toNat_eq
  rw [BitVec.toNat_udiv, one_shl h, shr_nat]
theorem mul_pshl (x : BitVec 64) (s : Nat) : x * 1#64 <<< s = x <<< s := by
  apply BitVec.eq_of_toNat_eq
  rw [BitVec.toNat_mul, shl_nat, shl_nat]
  show x.toNat * (1 * 2 ^ s % 2 ^ 64) % 2 ^ 64 = _
  rw [Nat.one_mul, Nat.mul_mod_mod]
theorem low_mul (a z : BitVec 64) (s : Nat) (hz : (z >>> s) <<< s = z) : (a * z) >>> s = lowM (a * (z >>> s)) s := by
  unfold lowM
  conv => lhs; lhs; rw [← hz, ← mul_pshl, ← BitVec.mul_assoc, mul_pshl]
theorem low_neg (a z : BitVec 64) (s : Nat) (hz : (z >>> s) <<< s = z) : (-(a * z)) >>> s = lowM (-(a * (z >>> s))) s := by
  unfold lowM
  conv => lhs; lhs; rw [← hz, ← mul_pshl, ← BitVec.mul_assoc, ← BitVec.neg_mul, mul_pshl]
theorem one_shl_ne {s : Nat} (h : s < 64) : ¬ 1#64 <<< s = 0#64 := fun e => by
  have := congrArg BitVec.toNat e
  rw [one_shl h] at this
  have h2 := Nat.two_pow_pos s
  have h3 : (0#64).toNat = 0 := rfl
  omega
end Go.Bv
namespace Go.Proofs.YtobmgigmoppkkaaDoor
open Go.RowKit Go.Bv
set_option linter.unusedVariables false
set_option maxHeartbeats 1000000 in
theorem twos_m (z : BitVec 64) (hz : ¬ z = 0#64) (w : World) : Calls Tryd.prog 19 #[.int .u64 (W64 z)] w fun e w' => e = .returned (.int .i64 ((tzN z : Nat) : Int)) ∧ w' = w := by
  have HB := Lib.hid (fun k (hk : k < tzN z) => tz_below hz hk)
  have HT := Lib.hid (tz_there hz)
  have hs := tz_lt hz
  have H0 : Hid (z >>> 0 = z) := Lib.hid (by simp)
  clear hz
  generalize tzN z = s at *
  go_enter Tryd.func19, Tryd.ntmps19
  go_wp2
  go_loop [0, 3] (fun X I => ∃ k : Nat, k ≤ s ∧ I = .int .i64 k ∧ X = .int .u64 (W64 (z >>> k))) (fun _ I => s - (intOf I).toNat)
  case atStart => exact ⟨0, by omega, rfl, by rw [H0.out]⟩
  case round =>
    obtain ⟨k, hk, rfl, rfl⟩ := hrel
    have h64 : (k : Int) < 64 := by omega
    by_cases hlt : k < s
    · have hb := HB.out k hlt
      have hh := half_shift z k
      go_wp2
      exact ⟨⟨k + 1, by omega, by go_num, by first | rfl | rw [hh]⟩, by simp [intOf]; omega⟩
    · obtain rfl : k = s := by omega
      have ht := HT.out
      go_wp2
      go_ret
      exact ⟨rfl, rfl⟩
theorem rrank_early (x y a : BitVec 64) (k : Int) (h : (chkM a k == 0) = false ∨ ((chkM a k == 0) = true ∧ x = y)) (w : World) : Calls Tryd.prog 16 #[.int .u64 (W64 a), .int .i64 k, .int .u64 (W64 x), .int .u64 (W64 y)] w fun e w' => e = .returned (.tuple #[.int .u64 0, .bool false]) ∧ w' = w := by
  have HC := Lib.hid (rcheck_m a k w)
  generalize chkM a k = c at *
  rcases h with h | ⟨h, rfl⟩
  · skip
    have hne : ¬ c = 0 := by rw [beq_eq_false_iff_ne] at h; exact h
    have hne2 : (c != 0) = true := by rw [bne, h]; rfl
    go_enter Tryd.func16, Tryd.ntmps16
    go_wp2_with fail
    refine (HC.out).mono ?_
    rintro e w9 ⟨rfl, rfl⟩
    go_wp2
    go_returns
    exact ⟨rfl, rfl⟩
  · skip
    obtain rfl : c = 0 := by rw [beq_iff_eq] at h; exact h
    go_enter Tryd.func16, Tryd.ntmps16
    go_wp2_with fail
    refine (HC.out).mono ?_
    rintro e w9 ⟨rfl, rfl⟩
    go_wp2
    go_returns
    exact ⟨rfl, rfl⟩
end Go.Proofs.YtobmgigmoppkkaaDoor
