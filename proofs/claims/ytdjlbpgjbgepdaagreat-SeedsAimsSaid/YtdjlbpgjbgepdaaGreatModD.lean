/- Contracts of the document's own Pow and Gcd, and of modn.Odd: for all words. -/
import Derived.Test.YtdjlbpgjbgepdaaGreatModC
namespace Go.Bv
open Go Go.RowKit
set_option linter.unusedVariables false
theorem md_mul2 (A B : Nat) (n : BitVec 64) : md ((md A n).toNat * (md B n).toNat) n = md (A * B) n := by
  have := md_pow A B 1 n
  rw [Nat.pow_one, Nat.pow_one] at this
  exact this
theorem md_mul1 (A B : Nat) (n : BitVec 64) : md ((md A n).toNat * B) n = md (A * B) n := by
  have h1 := md_pow A B 1 n
  have h2 := md_pow1 (md A n).toNat B 1 n
  rw [Nat.pow_one, Nat.pow_one] at h1 h2
  rw [← h2, h1]
theorem pow_bit (a q j : Nat) : a ^ (q / 2 ^ j) = a ^ (q / 2 ^ (j + 1)) * a ^ (q / 2 ^ (j + 1)) * a ^ (q / 2 ^ j % 2) := by
  rw [← Nat.pow_add, ← Nat.pow_add]
  congr 1
  have : q / 2 ^ (j + 1) = q / 2 ^ j / 2 := by rw [Nat.pow_succ, Nat.div_div_eq_div_mul]
  omega
end Go.Bv
namespace Go.Proofs.YtdjlbpgjbgepdaaGreat
open Go.RowKit Go.Bv
set_option linter.unusedVariables false
/-- an odd number's inverse, round by round -/
def inv5 (a : BitVec 64) : Nat → BitVec 64
  | 0 => a
  | k + 1 => inv5 a k * (2#64 - a * inv5 a k)
set_option maxHeartbeats 1000000 in
theorem odd_any (a : BitVec 64) (h : (a &&& 1#64 == 0#64) = false) (w : World) :
    Calls Tryz.prog 184 #[.int .u64 (W64 a)] w fun e w' => e = .returned (.tuple #[.int .u64 (W64 (inv5 a 5)), .bool true]) ∧ w' = w := by
  have HST : Hid (inv5 a 0 = a) := Lib.hid rfl
  go_enter Tryz.func184, Tryz.ntmps184
  go_wp2
  go_loop [4, 9] (fun X I => ∃ k : Nat, k ≤ 5 ∧ I = .int .i64 k ∧ X = .int .u64 (W64 (inv5 a k))) (fun _ I => 5 - (intOf I).toNat)
  case atStart => exact ⟨0, by omega, rfl, rfl⟩
  case round =>
    obtain ⟨k, hk, rfl, rfl⟩ := hrel
    by_cases hlt : (k : Int) < 5
    · have HX : Hid (inv5 a k * (2#64 - a * inv5 a k) = inv5 a (k + 1)) := Lib.hid rfl
      go_wp2
      exact ⟨⟨k + 1, by omega, by go_num, by rw [← HX.out]⟩, by simp [intOf]; omega⟩
    · obtain rfl : k = 5 := by omega
      go_wp2
      go_ret2
      exact ⟨rfl, rfl⟩
end Go.Proofs.YtdjlbpgjbgepdaaGreat
