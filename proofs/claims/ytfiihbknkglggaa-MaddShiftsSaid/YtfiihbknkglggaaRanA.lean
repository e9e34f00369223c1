/- Contracts of layer 26: firsts. -/
import Derived.Test.YtfiihbknkglggaaWidN
import Derived.Test.YtfiihbknkglggaaClass
namespace Go.Bv
open Go Go.RowKit
theorem ceil_cases (n : Nat) (hn : 0 < n) (N : Nat) : (N + (n - 1)) / n = N / n + if N / n * n = N then 0 else 1 := by
  have h1 := Nat.div_add_mod N n
  have h2 := Nat.mod_lt N hn
  have h3 := Nat.mul_comm n (N / n)
  have e : N + (n - 1) = n * (N / n) + (N % n + (n - 1)) := by omega
  rw [e, Nat.mul_add_div hn]
  congr 1
  split
  · rw [Nat.div_eq_of_lt (by omega)]
  · exact Nat.div_eq_of_lt_le (by omega) (by omega)
/-- the first number that is brought to v or more -/
def frst (v m : BitVec 64) (k : Nat) : Nat := (v.toNat * 2 ^ k + (m.toNat - 1)) / m.toNat
theorem pow_le {k : Nat} (h : k ≤ 64) : 2 ^ k ≤ 18446744073709551616 := Nat.pow_le_pow_right (by omega) h
theorem scaled_lt (v : BitVec 64) (k : Nat) (h : k ≤ 64) : v.toNat * 2 ^ k < 2 ^ 128 := by
  have h1 := v.isLt
  have h2 := pow_le h
  calc v.toNat * 2 ^ k ≤ v.toNat * 18446744073709551616 := Nat.mul_le_mul_left _ h2
    _ < 2 ^ 128 := by omega
end Go.Bv
namespace Go.Proofs.Ytfiihbknkglggaa
open Go.RowKit Go.Bv
set_option linter.unusedVariables false
end Go.Proofs.Ytfiihbknkglggaa
