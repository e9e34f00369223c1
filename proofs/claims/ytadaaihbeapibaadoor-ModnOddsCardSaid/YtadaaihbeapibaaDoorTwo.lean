/- Trailing zeros of a word: the document's Twos, modn.Left; for seats without layer 20. -/
import Derived.Test.YtadaaihbeapibaaDoorDorA
import Derived.Test.YtadaaihbeapibaaDoorDivM
import Derived.Handy
namespace Go.Bv
open Go Go.RowKit
theorem tz_lt {x : BitVec 64} (h : ¬ x = 0#64) : tzN x < 64 := by
  have hx0 : x.toNat ≠ 0 := fun e => h (BitVec.eq_of_toNat_eq e)
  exact (Lib.lowest_bit 64 x.toNat hx0 x.isLt).2
theorem half_shift (x : BitVec 64) (k : Nat) : (x >>> k) / 2#64 = x >>> (k + 1) := by
  apply BitVec.eq_of_toNat_eq
  rw [BitVec.toNat_udiv, BitVec.toNat_ushiftRight, BitVec.toNat_ushiftRight, Nat.shiftRight_eq_div_pow, Nat.shiftRight_eq_div_pow, Nat.pow_succ, ← Nat.div_div_eq_div_mul]
  rfl
theorem shl_nat (x : BitVec 64) (s : Nat) : (x <<< s).toNat = x.toNat * 2 ^ s % 2 ^ 64 := by rw [BitVec.toNat_shiftLeft, Nat.shiftLeft_eq]
theorem tz_spec {x : BitVec 64} (h : ¬ x = 0#64) : ∃ m, x.toNat = 2 ^ tzN x * (2 * m + 1) := by
  have hx0 : x.toNat ≠ 0 := fun e => h (BitVec.eq_of_toNat_eq e)
  obtain ⟨m, hm, _⟩ := Lib.ctzFrom_spec 64 x.toNat (Nat.pos_of_ne_zero hx0) x.isLt
  refine ⟨m, ?_⟩
  unfold tzN Lib.ctz
  rw [if_neg hx0]
  exact hm
theorem shr_nat (x : BitVec 64) (s : Nat) : (x >>> s).toNat = x.toNat / 2 ^ s := by rw [BitVec.toNat_ushiftRight, Nat.shiftRight_eq_div_pow]
theorem mod_two (x : BitVec 64) : (x % 2#64 == 0#64) = decide (x.toNat % 2 = 0) := by
  rw [Bool.eq_iff_iff, beq_iff_eq, decide_eq_true_eq]
  constructor
  · intro e; have := congrArg BitVec.toNat e; rw [BitVec.toNat_umod] at this; exact this
  · intro e; apply BitVec.eq_of_toNat_eq; rw [BitVec.toNat_umod]; exact e
theorem tz_below {x : BitVec 64} (h : ¬ x = 0#64) {k : Nat} (hk : k < tzN x) : (x >>> k % 2#64 == 0#64) = true := by
  obtain ⟨m, hm⟩ := tz_spec h
  rw [mod_two, decide_eq_true_eq, shr_nat, hm, show tzN x = k + ((tzN x - k - 1) + 1) by omega, Nat.pow_add, Nat.mul_assoc, Nat.mul_div_cancel_left _ (Nat.two_pow_pos k), Nat.pow_succ, Nat.mul_right_comm]
  exact Nat.mul_mod_left _ _
theorem tz_there {x : BitVec 64} (h : ¬ x = 0#64) : (x >>> tzN x % 2#64 == 0#64) = false := by
  obtain ⟨m, hm⟩ := tz_spec h
  rw [mod_two, decide_eq_false_iff_not, shr_nat]
  conv => rhs; lhs; lhs; rw [hm]
  rw [Nat.mul_div_cancel_left _ (Nat.two_pow_pos _)]
  omega
/-- a number is its odd part, shifted -/
theorem tz_back {x : BitVec 64} (h : ¬ x = 0#64) : (x >>> tzN x) <<< tzN x = x := by
  obtain ⟨m, hm⟩ := tz_spec h
  apply BitVec.eq_of_toNat_eq
  have hx := x.isLt
  rw [shl_nat, shr_nat]
  have e : x.toNat / 2 ^ tzN x = 2 * m + 1 := by
    conv => lhs; lhs; rw [hm]
    exact Nat.mul_div_cancel_left _ (Nat.two_pow_pos _)
  rw [e, Nat.mul_comm, ← hm, Nat.mod_eq_of_lt hx]
end Go.Bv
namespace Go.Proofs.YtadaaihbeapibaaDoor
open Go.RowKit Go.Bv
set_option linter.unusedVariables false
theorem left_d (x : BitVec 64) (hx : ¬ x = 0#64) (w : World) (ht : TabD w) : Calls Tryd.prog 12 #[.int .u64 (W64 x)] w fun e w' => e = .returned (.tuple #[.int .u64 (W64 (x >>> tzN x)), .int .i64 ((tzN x : Nat) : Int)]) ∧ w' = w := by
  have HT := Lib.hid (tz_d x hx w ht)
  generalize tzN x = s at *
  clear hx ht
  go_enter Tryd.func12, Tryd.ntmps12
  go_wp2_with fail
  refine HT.out.mono ?_
  rintro e w1 ⟨rfl, rfl⟩
  go_wp2
  go_returns
  exact ⟨rfl, rfl⟩
set_option linter.unusedVariables false
set_option maxHeartbeats 1000000 in
theorem twos_m (z : BitVec 64) (hz : ¬ z = 0#64) (w : World) : Calls Tryd.prog 13 #[.int .u64 (W64 z)] w fun e w' => e = .returned (.int .i64 ((tzN z : Nat) : Int)) ∧ w' = w := by
  have HB := Lib.hid (fun k (hk : k < tzN z) => tz_below hz hk)
  have HT := Lib.hid (tz_there hz)
  have hs := tz_lt hz
  have H0 : Hid (z >>> 0 = z) := Lib.hid (by simp)
  clear hz
  generalize tzN z = s at *
  go_enter Tryd.func13, Tryd.ntmps13
  go_wp2
  go_loop [0, 3] (fun X I => ∃ k : Nat, k ≤ s ∧ I = .int .i64 k ∧ X = .int .u64 (W64 (z >>> k))) (fun _ I => s - (intOf I).toNat)
  case atStart => exact ⟨0, by omega, rfl, by rw [H0.out]⟩
  case round =>
    obtain ⟨k, hk, rfl, rfl⟩ := hrel
    have h64 : (k : Int) < 64 := by omega
    by_cases hlt : k < s
    · have hb := HB.out k hlt
      have hh := half_shift z k
      go_wp2
      exact ⟨⟨k + 1, by omega, by go_num, by first | rfl | rw [hh]⟩, by simp [intOf]; omega⟩
    · obtain rfl : k = s := by omega
      have ht := HT.out
      go_wp2
      go_ret
      exact ⟨rfl, rfl⟩
theorem tz_none (w : World) : Calls Tryd.prog 32 #[.int .u64 0] w fun e w' => e = .returned (.int .i64 64) ∧ w' = w := by
  go_enter Tryd.func32, Tryd.ntmps32
  go_wp2
  go_ret
  exact ⟨rfl, rfl⟩
theorem left_none (w : World) : Calls Tryd.prog 12 #[.int .u64 0] w fun e w' => e = .returned (.tuple #[.int .u64 0, .int .i64 64]) ∧ w' = w := by
  go_enter Tryd.func12, Tryd.ntmps12
  go_wp2_with fail
  refine (tz_none _).mono ?_
  rintro e w1 ⟨rfl, rfl⟩
  go_wp2
  go_returns
  exact ⟨rfl, rfl⟩
set_option maxHeartbeats 1000000 in
theorem twos_none (w : World) : Calls Tryd.prog 13 #[.int .u64 0] w fun e w' => e = .returned (.int .i64 64) ∧ w' = w := by
  go_enter Tryd.func13, Tryd.ntmps13
  go_wp2
  go_loop [0, 3] (fun X I => ∃ k : Nat, k ≤ 64 ∧ I = .int .i64 k ∧ X = .int .u64 0) (fun _ I => 64 - (intOf I).toNat)
  case atStart => exact ⟨0, by omega, rfl, rfl⟩
  case round =>
    obtain ⟨k, hk, rfl, rfl⟩ := hrel
    by_cases hlt : (k : Int) < 64
    · go_wp2
      exact ⟨⟨k + 1, by omega, by go_num, rfl⟩, by simp [intOf]; omega⟩
    · obtain rfl : k = 64 := by omega
      go_wp2
      go_ret
      exact ⟨rfl, rfl⟩
end Go.Proofs.YtadaaihbeapibaaDoor
