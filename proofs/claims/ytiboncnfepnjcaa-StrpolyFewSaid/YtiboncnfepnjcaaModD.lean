/- Contracts of the document's own Pow and Gcd, and of modn.Odd: for all words. -/
import Derived.Test.YtiboncnfepnjcaaModC
namespace Go.Bv
open Go Go.RowKit
set_option linter.unusedVariables false
theorem md_mul2 (A B : Nat) (n : BitVec 64) : md ((md A n).toNat * (md B n).toNat) n = md (A * B) n := by
  have := md_pow A B 1 n
  rw [Nat.pow_one, Nat.pow_one] at this
  exact this
theorem md_mul1 (A B : Nat) (n : BitVec 64) : md ((md A n).toNat * B) n = md (A * B) n := by
  have h1 := md_pow A B 1 n
  have h2 := md_pow1 (md A n).toNat B 1 n
  rw [Nat.pow_one, Nat.pow_one] at h1 h2
  rw [← h2, h1]
theorem pow_bit (a q j : Nat) : a ^ (q / 2 ^ j) = a ^ (q / 2 ^ (j + 1)) * a ^ (q / 2 ^ (j + 1)) * a ^ (q / 2 ^ j % 2) := by
  rw [← Nat.pow_add, ← Nat.pow_add]
  congr 1
  have : q / 2 ^ (j + 1) = q / 2 ^ j / 2 := by rw [Nat.pow_succ, Nat.div_div_eq_div_mul]
  omega
end Go.Bv
namespace Go.Proofs.Ytiboncnfepnjcaa
open Go.RowKit Go.Bv
set_option linter.unusedVariables false
/-- an odd number's inverse, round by round -/
def inv5 (a : BitVec 64) : Nat → BitVec 64
  | 0 => a
  | k + 1 => inv5 a k * (2#64 - a * inv5 a k)
end Go.Proofs.Ytiboncnfepnjcaa
