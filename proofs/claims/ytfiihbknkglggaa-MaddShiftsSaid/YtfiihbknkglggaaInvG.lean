/- Plain lemmas (for seats without layer 20): the inverse of an odd word, round by round; no program in sight. -/
import Derived.Test.YtfiihbknkglggaaTwo
namespace Go.Bv
open Go Go.RowKit
/-- an odd number's inverse, round by round -/
def invR (a : BitVec 64) : Nat → BitVec 64
  | 0 => a
  | k + 1 => invR a k * (2#64 - a * invR a k)
theorem round_err (a x : BitVec 64) : 1#64 - a * (x * (2#64 - a * x)) = (1#64 - a * x) * (1#64 - a * x) := by grind
theorem odd_square (a : BitVec 64) (h : a.toNat % 2 = 1) : ∃ c : BitVec 64, 1#64 - a * a = 8#64 * c := by
  obtain ⟨k, hk⟩ : ∃ k, a.toNat = 2 * k + 1 := ⟨a.toNat / 2, by omega⟩
  obtain ⟨g, hg⟩ : ∃ g, k * (k + 1) = 2 * g := ⟨k * (k + 1) / 2, by
    have : k * (k + 1) % 2 = 0 := by
      rcases Nat.mod_two_eq_zero_or_one k with h1 | h1
      · rw [Nat.mul_mod, h1, Nat.zero_mul, Nat.zero_mod]
      · rw [Nat.mul_mod, Nat.add_mod, h1]
    omega⟩
  refine ⟨-BitVec.ofNat 64 g, ?_⟩
  have e : a * a = 1#64 + 8#64 * BitVec.ofNat 64 g := by
    apply BitVec.eq_of_toNat_eq
    rw [BitVec.toNat_mul, hk, BitVec.toNat_add, BitVec.toNat_mul, BitVec.toNat_ofNat]
    have e2 : (2 * k + 1) * (2 * k + 1) = 1 + 8 * g := by
      have : (2 * k + 1) * (2 * k + 1) = 4 * (k * (k + 1)) + 1 := by grind
      rw [this, hg]; omega
    rw [e2]
    show (1 + 8 * g) % 2 ^ 64 = (1 + 8 * (g % 2 ^ 64) % 2 ^ 64) % 2 ^ 64
    omega
  rw [e]; grind
theorem inv_odd (a : BitVec 64) (h : a.toNat % 2 = 1) : a * invR a 5 = 1#64 := by
  obtain ⟨c, hc⟩ := odd_square a h
  have s1 := round_err a (invR a 0)
  have s2 := round_err a (invR a 1)
  have s3 := round_err a (invR a 2)
  have s4 := round_err a (invR a 3)
  have s5 := round_err a (invR a 4)
  change 1#64 - a * invR a 1 = _ at s1
  change 1#64 - a * invR a 2 = _ at s2
  change 1#64 - a * invR a 3 = _ at s3
  change 1#64 - a * invR a 4 = _ at s4
  change 1#64 - a * invR a 5 = _ at s5
  rw [show invR a 0 = a from rfl, hc] at s1
  have sq : ∀ p u : BitVec 64, p * u * (p * u) = p * p * (u * u) := fun p u => by ac_rfl
  rw [sq, show 8#64 * 8#64 = 64#64 by decide] at s1
  rw [s1, sq, show 64#64 * 64#64 = 4096#64 by decide] at s2
  rw [s2, sq, show 4096#64 * 4096#64 = 16777216#64 by decide] at s3
  rw [s3, sq, show 16777216#64 * 16777216#64 = 281474976710656#64 by decide] at s4
  rw [s4, sq, show 281474976710656#64 * 281474976710656#64 = 0#64 by decide, BitVec.zero_mul] at s5
  have := congrArg (fun q => q + a * invR a 5) s5
  simp only [BitVec.sub_add_cancel, BitVec.zero_add] at this
  exact this.symm
end Go.Bv
