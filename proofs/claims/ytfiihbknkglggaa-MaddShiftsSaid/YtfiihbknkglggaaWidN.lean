/- The contracts of package wide over natural numbers: a number of 128 bits is given by its two words. -/
import Derived.Test.YtfiihbknkglggaaWidQ
namespace Go.Bv
open Go Go.RowKit
theorem quo_halves (hi lo b : BitVec 64) (h : 0 < b.toNat) : two (divQ 0#64 hi b) (divQ (divR 0#64 hi b) lo b) = two hi lo / b.toNat := by
  have e1 : (divQ 0#64 hi b).toNat = hi.toNat / b.toNat := by
    rw [divQ_nat (by rw [show (0#64).toNat = 0 from rfl]; exact h)]; unfold two; rw [show (0#64).toNat = 0 from rfl, Nat.zero_mul, Nat.zero_add]
  have e2 : (divR 0#64 hi b).toNat = hi.toNat % b.toNat := by
    rw [divR_nat h]; unfold two; rw [show (0#64).toNat = 0 from rfl, Nat.zero_mul, Nat.zero_add]
  have e3 : (divQ (divR 0#64 hi b) lo b).toNat = two (divR 0#64 hi b) lo / b.toNat := divQ_nat (by rw [e2]; exact Nat.mod_lt _ h)
  unfold two at e3 ⊢
  rw [e1, e3, e2]
  have h1 := Nat.div_add_mod hi.toNat b.toNat
  generalize hi.toNat / b.toNat = q at *
  generalize hi.toNat % b.toNat = r at *
  rw [← h1, Nat.add_mul, Nat.mul_assoc, Nat.add_assoc, Nat.mul_add_div h]
theorem two_n {A : Nat} (h : A < 2 ^ 128) : two (hiN A) (loN A) = A := two_parts A h
theorem hi_word (x : BitVec 64) : W64 (hiN x.toNat) = 0 := by
  have := x.isLt
  unfold hiN W64
  rw [Nat.div_eq_of_lt (by omega)]; rfl
theorem lo_word (x : BitVec 64) : loN x.toNat = x := by
  apply BitVec.eq_of_toNat_eq
  unfold loN
  rw [BitVec.toNat_ofNat, Nat.mod_eq_of_lt x.isLt]
theorem hi_one : W64 (hiN 1) = 0 := rfl
theorem lo_one : W64 (loN 1) = 1 := rfl
theorem n_inj {A B : Nat} (hA : A < 2 ^ 128) (hB : B < 2 ^ 128) : (hiN A == hiN B && loN A == loN B) = decide (A = B) := by
  rw [two_inj, two_n hA, two_n hB]
end Go.Bv
namespace Go.Proofs.Ytfiihbknkglggaa
open Go.RowKit Go.Bv
set_option linter.unusedVariables false
theorem shl_n (A m : Nat) (hA : A < 2 ^ 128) (hm : m ≤ 128) (w : World) : Calls Try.prog 39 #[.agg #[.int .u64 (W64 (hiN A)), .int .u64 (W64 (loN A))], .int .i64 (m : Int)] w fun e w' => e = .returned (.agg #[.int .u64 (W64 (hiN (A * 2 ^ m))), .int .u64 (W64 (loN (A * 2 ^ m)))]) ∧ New w w' := by
  have h := wshl_two (hiN A) (loN A) (m : Int) m m (by omega) (by omega) (by omega) w
  rw [two_n hA] at h
  exact h
theorem shr_n (A m : Nat) (hA : A < 2 ^ 128) (hm : m ≤ 128) (w : World) : Calls Try.prog 19 #[.agg #[.int .u64 (W64 (hiN A)), .int .u64 (W64 (loN A))], .int .i64 (m : Int)] w fun e w' => e = .returned (.agg #[.int .u64 (W64 (hiN (A / 2 ^ m))), .int .u64 (W64 (loN (A / 2 ^ m)))]) ∧ New w w' := by
  have h := wshr_two (hiN A) (loN A) (m : Int) m m (by omega) (by omega) (by omega) w
  rw [two_n hA] at h
  exact h
theorem times_n (A B : Nat) (hA : A < 2 ^ 128) (hB : B < 2 ^ 128) (w : World) : Calls Try.prog 28 #[.agg #[.int .u64 (W64 (hiN A)), .int .u64 (W64 (loN A))], .agg #[.int .u64 (W64 (hiN B)), .int .u64 (W64 (loN B))]] w fun e w' => e = .returned (.agg #[.int .u64 (W64 (hiN (A * B))), .int .u64 (W64 (loN (A * B)))]) ∧ New w w' := by
  have h := wtimes_two (hiN A) (loN A) (hiN B) (loN B) w
  rw [two_n hA, two_n hB] at h
  exact h
theorem add_n (A B : Nat) (hA : A < 2 ^ 128) (hB : B < 2 ^ 128) (w : World) : Calls Try.prog 43 #[.agg #[.int .u64 (W64 (hiN A)), .int .u64 (W64 (loN A))], .agg #[.int .u64 (W64 (hiN B)), .int .u64 (W64 (loN B))]] w fun e w' => e = .returned (.tuple #[.agg #[.int .u64 (W64 (hiN (A + B))), .int .u64 (W64 (loN (A + B)))], .bool (decide (2 ^ 128 ≤ A + B))]) ∧ New w w' := by
  have h := wadd_two (hiN A) (loN A) (hiN B) (loN B) w
  rw [two_n hA, two_n hB] at h
  exact h
theorem sub_n (A B : Nat) (hA : A < 2 ^ 128) (hB : B < 2 ^ 128) (w : World) : Calls Try.prog 41 #[.agg #[.int .u64 (W64 (hiN A)), .int .u64 (W64 (loN A))], .agg #[.int .u64 (W64 (hiN B)), .int .u64 (W64 (loN B))]] w fun e w' => e = .returned (.tuple #[.agg #[.int .u64 (W64 (hiN (A + 2 ^ 128 - B))), .int .u64 (W64 (loN (A + 2 ^ 128 - B)))], .bool (decide (A < B))]) ∧ New w w' := by
  have h := wsub_two (hiN A) (loN A) (hiN B) (loN B) w (A + 2 ^ 128 - B) (by rw [two_n hA, two_n hB]; omega)
  rw [two_n hA, two_n hB] at h
  exact h
end Go.Proofs.Ytfiihbknkglggaa
