/- The contract of math/bits.Div64: for every two words and every greater divisor. -/
import Derived.Test.YtebcfbcfipmahaaGreatProg
import Derived.Test.YtebcfbcfipmahaaGreatShelf
import Derived.Test.YtebcfbcfipmahaaGreatDivM
import Derived.Deep.QuietTactic
import Derived.BigQuiet
namespace Go.Bv
open Go Go.RowKit
set_option linter.unusedVariables false
set_option maxRecDepth 100000
theorem nat_lt {x y : BitVec 64} (h : x.toNat < y.toNat) : decide (W64 x < W64 y) = true := decide_eq_true (by unfold W64; omega)
theorem nat_nlt {x y : BitVec 64} (h : ¬ x.toNat < y.toNat) : decide (W64 x < W64 y) = false := decide_eq_false (by unfold W64; omega)
theorem big32 {x : BitVec 64} (h : 4294967296 ≤ x.toNat) : decide (4294967296 ≤ W64 x) = true := decide_eq_true (by unfold W64; omega)
theorem small32 {x : BitVec 64} (h : x.toNat < 4294967296) : decide (4294967296 ≤ W64 x) = false := decide_eq_false (by unfold W64; omega)
theorem add_nat {x y : BitVec 64} (h : x.toNat + y.toNat < 18446744073709551616) : (x + y).toNat = x.toNat + y.toNat := by
  rw [BitVec.toNat_add]; exact Nat.mod_eq_of_lt h
theorem mul_nat {x y : BitVec 64} (h : x.toNat * y.toNat < 18446744073709551616) : (x * y).toNat = x.toNat * y.toNat := by
  rw [BitVec.toNat_mul]; exact Nat.mod_eq_of_lt h
theorem sub_nat {x y : BitVec 64} (h : y.toNat ≤ x.toNat) : (x - y).toNat = x.toNat - y.toNat := BitVec.toNat_sub_of_le h
theorem lit_nat (k : Nat) (h : k < 18446744073709551616) : (BitVec.ofNat 64 k).toNat = k := by rw [BitVec.toNat_ofNat]; exact Nat.mod_eq_of_lt h
theorem small_word {n : Nat} (h : n < 4294967296) : n < 18446744073709551616 := by omega
/-- a round of the guessing -/
theorem guess_round (u d yn q r yn1 yn0 : BitVec 64) (qt : BitVec 64) (h1 : yn1.toNat = yn.toNat / 4294967296) (h0 : yn0.toNat = yn.toNat % 4294967296)
    (h : Digit u.toNat d.toNat yn.toNat) (g : Guess u.toNat d.toNat yn.toNat q.toNat r.toNat) (hq : qt.toNat = (u.toNat * 4294967296 + d.toNat) / yn.toNat) :
    (decide (4294967296 ≤ W64 q) = false ∧ decide (W64 (4294967296#64 * r + d) < W64 (q * yn0)) = false ∧ q = qt) ∨
    (((decide (4294967296 ≤ W64 q) = true) ∨ (decide (4294967296 ≤ W64 q) = false ∧ decide (W64 (4294967296#64 * r + d) < W64 (q * yn0)) = true)) ∧
      ((decide (4294967296 ≤ W64 (r + yn1)) = true ∧ q - 1#64 = qt) ∨ (decide (4294967296 ≤ W64 (r + yn1)) = false ∧ r.toNat < (r + yn1).toNat ∧ Guess u.toNat d.toNat yn.toNat (q - 1#64).toNat (r + yn1).toNat))) := by
  have hl := digit_lt h
  have ht := guess_test h g
  have gs := g.small
  have hd := h.low
  have htop := h.top
  have hltop := h.lt
  have hr : (4294967296#64 * r + d).toNat = 4294967296 * r.toNat + d.toNat := by
    have e : (4294967296#64 * r).toNat = 4294967296 * r.toNat := mul_nat (by rw [lit_nat 4294967296 (by omega)]; omega)
    rw [add_nat (by rw [e]; omega), e]
  have hr1 : (r + yn1).toNat = r.toNat + yn.toNat / 4294967296 := by rw [add_nat (by omega), h1]
  have next : (u.toNat * 4294967296 + d.toNat) / yn.toNat < q.toNat → ((decide (4294967296 ≤ W64 (r + yn1)) = true ∧ q - 1#64 = qt) ∨ (decide (4294967296 ≤ W64 (r + yn1)) = false ∧ r.toNat < (r + yn1).toNat ∧ Guess u.toNat d.toNat yn.toNat (q - 1#64).toNat (r + yn1).toNat)) := by
    intro hgt
    have h00 : 0 < q.toNat := Nat.lt_of_le_of_lt (Nat.zero_le _) hgt
    have hq1 : (q - 1#64).toNat = q.toNat - 1 := sub_nat (by rw [show (1#64).toNat = 1 from rfl]; omega)
    by_cases hb : 4294967296 ≤ r.toNat + yn.toNat / 4294967296
    · left
      refine ⟨big32 (by rw [hr1]; exact hb), ?_⟩
      apply BitVec.eq_of_toNat_eq
      rw [hq1, hq]; exact guess_break h g hgt hb
    · right
      refine ⟨small32 (by rw [hr1]; omega), by rw [hr1]; omega, ?_⟩
      rw [hq1, hr1]; exact guess_next h g hgt (by omega)
  by_cases hA : 4294967296 ≤ q.toNat
  · exact Or.inr ⟨Or.inl (big32 hA), next (by omega)⟩
  · have hqy : (q * yn0).toNat = q.toNat * (yn.toNat % 4294967296) := by
      have : q.toNat * yn0.toNat ≤ 4294967295 * 4294967295 := Nat.mul_le_mul (by omega) (by omega)
      rw [mul_nat (by omega), h0]
    by_cases hB : (4294967296#64 * r + d).toNat < (q * yn0).toNat
    · exact Or.inr ⟨Or.inr ⟨small32 (by omega), nat_lt hB⟩, next (ht.1 (by rw [← hr, ← hqy]; exact hB))⟩
    · refine Or.inl ⟨small32 (by omega), nat_nlt hB, ?_⟩
      apply BitVec.eq_of_toNat_eq
      rw [hq]
      exact guess_end h g (fun hc => hB (by rw [hr, hqy]; exact ht.2 hc))
end Go.Bv
namespace Go.Proofs.YtebcfbcfipmahaaGreat
open Go.RowKit Go.Bv
set_option linter.unusedVariables false
theorem meas {r r' : BitVec 64} (h : r.toNat < r'.toNat) (h2 : r.toNat < 4294967296) : 4294967296 - (intOf (.int .u64 (W64 r'))).toNat < 4294967296 - (intOf (.int .u64 (W64 r))).toNat := by
  have e : ∀ z : BitVec 64, (intOf (.int .u64 (W64 z))).toNat = z.toNat := fun z => by simp [intOf, W64]
  rw [e, e]; omega
end Go.Proofs.YtebcfbcfipmahaaGreat
