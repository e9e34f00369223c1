/- The mathematics of a shift's slope: what it brings the line to. -/
import Derived.Test.YtfiihbknkglggaaMadC
namespace Go.Bv
open Go Go.RowKit
theorem slope_ok (run rise a inv k wd o r : Nat) (hrun : run = 2 ^ k * o) (hrise : rise = 2 ^ k * r) (hk : k ≤ wd) (hinv : o * inv % 2 ^ (wd - k) = 1 % 2 ^ (wd - k)) :
    (r * inv % 2 ^ (wd - k) + (a - a % 2 ^ (wd - k))) * run % 2 ^ wd = rise % 2 ^ wd := by
  have hp : 2 ^ wd = 2 ^ k * 2 ^ (wd - k) := by rw [← Nat.pow_add, Nat.add_sub_cancel' hk]
  rw [hp, hrun, hrise]
  generalize 2 ^ (wd - k) = m at *
  have ha : a - a % m = m * (a / m) := by
    have := Nat.div_add_mod a m
    omega
  rw [ha, Nat.mul_left_comm, Nat.mul_mod_mul_left, Nat.mul_mod_mul_left]
  congr 1
  rw [Nat.add_mul, Nat.mul_assoc, Nat.add_mul_mod_self_left, Nat.mod_mul_mod]
  rw [Nat.mul_assoc, Nat.mul_comm inv o, Nat.mul_mod, hinv, ← Nat.mul_mod, Nat.mul_one]
/-- what isn't aimed at stays: above the shift's power the slope is a's -/
theorem slope_high (a l m : Nat) (hl : l < m) : (l + (a - a % m)) / m = a / m := by
  have ha : a - a % m = m * (a / m) := by
    have := Nat.div_add_mod a m
    omega
  rw [ha, Nat.add_mul_div_left _ _ (by omega), Nat.div_eq_of_lt hl, Nat.zero_add]
/-- aimed back, the slope is a again -/
theorem slope_back (a c inv m o : Nat) (hinv : o * inv % m = 1 % m) (hc : c / m = a / m) : a * o * inv % m + (c - c % m) = a := by
  have ha : c - c % m = m * (a / m) := by
    have := Nat.div_add_mod c m
    rw [hc] at this
    omega
  have e : a * o * inv % m = a % m := by rw [Nat.mul_assoc, Nat.mul_mod, hinv, ← Nat.mul_mod, Nat.mul_one]
  rw [ha, e]
  have := Nat.div_add_mod a m
  omega
end Go.Bv
