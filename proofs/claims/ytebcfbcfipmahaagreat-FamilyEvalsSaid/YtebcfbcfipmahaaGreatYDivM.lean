import Derived.Test.YtebcfbcfipmahaaGreatNew
import Derived.Lib.ItoaNum
import Derived.Test.YtebcfbcfipmahaaGreatProg
import Derived.Test.YtebcfbcfipmahaaGreatShelf
import Derived.Deep.QuietTactic
import Derived.BigQuiet
import Derived.Laws.Externs
import Derived.Laws.StructEq
import Derived.Shelf.Spec.BitsCarry
import Derived.Handy
import Derived.ChangeKeysEq
import Derived.WalkMore
import Derived.ScopeJumps
section
/- Plain lemmas: long division of a number of two words by a word, digit by digit. No program in sight. -/
namespace Go.Bv
open Go Go.RowKit
set_option linter.unusedVariables false
set_option maxRecDepth 100000
/-- the number of two words -/
def two (hi lo : BitVec 64) : Nat := hi.toNat * 18446744073709551616 + lo.toNat
def divQ (hi lo y : BitVec 64) : BitVec 64 := BitVec.ofNat 64 (two hi lo / y.toNat)
def divR (hi lo y : BitVec 64) : BitVec 64 := BitVec.ofNat 64 (two hi lo % y.toNat)
theorem two_lt {hi lo y : BitVec 64} (h : hi.toNat < y.toNat) : two hi lo < y.toNat * 18446744073709551616 := by
  have := lo.isLt
  have h2 : (hi.toNat + 1) * 18446744073709551616 ≤ y.toNat * 18446744073709551616 := Nat.mul_le_mul_right _ h
  unfold two; omega
theorem divQ_nat {hi lo y : BitVec 64} (h : hi.toNat < y.toNat) : (divQ hi lo y).toNat = two hi lo / y.toNat := by
  unfold divQ
  rw [BitVec.toNat_ofNat]
  refine Nat.mod_eq_of_lt ?_
  rw [Nat.div_lt_iff_lt_mul (by omega), Nat.mul_comm]
  exact two_lt h
theorem divR_nat {hi lo y : BitVec 64} (h : 0 < y.toNat) : (divR hi lo y).toNat = two hi lo % y.toNat := by
  unfold divR
  rw [BitVec.toNat_ofNat]
  have h1 := Nat.mod_lt (two hi lo) h
  have h2 := y.isLt
  exact Nat.mod_eq_of_lt (by omega)
/-- what is guessed of a digit: not too little, with what is left by the divisor's upper half -/
structure Guess (u d yn q r : Nat) : Prop where
  ge : (u * 4294967296 + d) / yn ≤ q
  sum : q * (yn / 4294967296) + r = u
  le : q ≤ 4294967297
  small : r < 4294967296
structure Digit (u d yn : Nat) : Prop where
  top : 9223372036854775808 ≤ yn
  lt : yn < 18446744073709551616
  rest : u < yn
  low : d < 4294967296
theorem mul_split (q yn : Nat) : q * yn = q * (yn / 4294967296) * 4294967296 + q * (yn % 4294967296) := by
  rw [Nat.mul_assoc, ← Nat.mul_add]
  congr 1; omega
theorem digit_lt {u d yn : Nat} (h : Digit u d yn) : (u * 4294967296 + d) / yn < 4294967296 := by
  obtain ⟨h1, h2, h3, h4⟩ := h
  rw [Nat.div_lt_iff_lt_mul (by omega)]
  omega
theorem guess_start {u d yn : Nat} (h : Digit u d yn) : Guess u d yn (u / (yn / 4294967296)) (u - u / (yn / 4294967296) * (yn / 4294967296)) := by
  obtain ⟨h1, h2, h3, h4⟩ := h
  have hy1 : 2147483648 ≤ yn / 4294967296 := by omega
  have hdm := Nat.div_add_mod u (yn / 4294967296)
  have hml := Nat.mod_lt u (show 0 < yn / 4294967296 by omega)
  rw [Nat.mul_comm] at hdm
  refine ⟨?_, by omega, ?_, by omega⟩
  · rw [Nat.le_div_iff_mul_le (by omega)]
    have h5 : (u * 4294967296 + d) / yn * yn ≤ u * 4294967296 + d := Nat.div_mul_le_self _ _
    rw [mul_split ((u * 4294967296 + d) / yn) yn] at h5
    generalize (u * 4294967296 + d) / yn * (yn / 4294967296) = A at h5 ⊢
    generalize (u * 4294967296 + d) / yn * (yn % 4294967296) = B at h5
    omega
  · have h6 : u < 4294967298 * (yn / 4294967296) := by omega
    have := (Nat.div_lt_iff_lt_mul (show 0 < yn / 4294967296 by omega)).2 h6
    omega
/-- the guess is too much just if the test says so -/
theorem guess_test {u d yn q r : Nat} (h : Digit u d yn) (g : Guess u d yn q r) : 4294967296 * r + d < q * (yn % 4294967296) ↔ (u * 4294967296 + d) / yn < q := by
  obtain ⟨h1, h2, h3, h4⟩ := h
  obtain ⟨g1, g2, g3, g4⟩ := g
  rw [Nat.div_lt_iff_lt_mul (by omega), mul_split q yn]
  generalize q * (yn / 4294967296) = A at g2 ⊢
  generalize q * (yn % 4294967296) = B
  omega
theorem guess_next {u d yn q r : Nat} (h : Digit u d yn) (g : Guess u d yn q r) (ht : (u * 4294967296 + d) / yn < q) (hr : r + yn / 4294967296 < 4294967296) : Guess u d yn (q - 1) (r + yn / 4294967296) := by
  obtain ⟨g1, g2, g3, g4⟩ := g
  have h0 : 0 < q := Nat.lt_of_le_of_lt (Nat.zero_le _) ht
  refine ⟨by omega, ?_, by omega, hr⟩
  have : q = (q - 1) + 1 := by omega
  rw [this, Nat.add_mul] at g2
  omega
theorem guess_break {u d yn q r : Nat} (h : Digit u d yn) (g : Guess u d yn q r) (ht : (u * 4294967296 + d) / yn < q) (hr : 4294967296 ≤ r + yn / 4294967296) : q - 1 = (u * 4294967296 + d) / yn := by
  have hl := digit_lt h
  obtain ⟨h1, h2, h3, h4⟩ := h
  obtain ⟨g1, g2, g3, g4⟩ := g
  have h0 : 0 < q := Nat.lt_of_le_of_lt (Nat.zero_le _) ht
  apply Nat.le_antisymm
  · rw [Nat.le_div_iff_mul_le (by omega), mul_split (q - 1) yn]
    have e : q = (q - 1) + 1 := by omega
    rw [e, Nat.add_mul] at g2
    have h5 : (q - 1) * (yn % 4294967296) ≤ 4294967296 * 4294967295 := Nat.mul_le_mul (by omega) (by omega)
    generalize (q - 1) * (yn / 4294967296) = A at g2 ⊢
    generalize (q - 1) * (yn % 4294967296) = B at h5 ⊢
    omega
  · omega
theorem guess_end {u d yn q r : Nat} (h : Digit u d yn) (g : Guess u d yn q r) (ht : ¬ (u * 4294967296 + d) / yn < q) : q = (u * 4294967296 + d) / yn := by
  have := g.ge; omega
/-- both digits -/
theorem two_digits (u v yn q1 r1 : Nat) (hy : 0 < yn) (h1 : yn * q1 + r1 = u * 4294967296 + v / 4294967296) :
    (u * 18446744073709551616 + v) / yn = q1 * 4294967296 + (r1 * 4294967296 + v % 4294967296) / yn ∧
    (u * 18446744073709551616 + v) % yn = (r1 * 4294967296 + v % 4294967296) % yn := by
  have e : u * 18446744073709551616 + v = r1 * 4294967296 + v % 4294967296 + yn * (q1 * 4294967296) := by
    rw [← Nat.mul_assoc yn q1 4294967296]
    generalize yn * q1 = A at h1 ⊢
    omega
  rw [e]
  refine ⟨?_, Nat.add_mul_mod_self_left _ _ _⟩
  rw [Nat.add_mul_div_left _ _ hy]
  omega
/-- the divisor moved up till its highest bit is set -/
theorem norm_parts (hi lo y : BitVec 64) (s : Nat) (hs : s ≤ 63) (hlt : hi.toNat < y.toNat) (hy : y.toNat * 2 ^ s < 18446744073709551616) :
    (y <<< s).toNat = y.toNat * 2 ^ s ∧ (lo <<< s).toNat = lo.toNat * 2 ^ s % 18446744073709551616 ∧
    (hi <<< s ||| lo >>> (64 - s)).toNat * 18446744073709551616 + (lo <<< s).toNat = two hi lo * 2 ^ s ∧ (hi <<< s ||| lo >>> (64 - s)).toNat < y.toNat * 2 ^ s := by
  have hp : 0 < 2 ^ s := Nat.two_pow_pos s
  have hpp : 2 ^ s * 2 ^ (64 - s) = 18446744073709551616 := by rw [← Nat.pow_add, show s + (64 - s) = 64 by omega]
  have hh : hi.toNat * 2 ^ s < y.toNat * 2 ^ s := Nat.mul_lt_mul_of_pos_right hlt hp
  have e1 : (y <<< s).toNat = y.toNat * 2 ^ s := by
    rw [BitVec.toNat_shiftLeft, Nat.shiftLeft_eq]; exact Nat.mod_eq_of_lt hy
  have e2 : (lo <<< s).toNat = lo.toNat * 2 ^ s % 18446744073709551616 := by
    rw [BitVec.toNat_shiftLeft, Nat.shiftLeft_eq]
  have el : lo.toNat / 2 ^ (64 - s) < 2 ^ s := by
    rw [Nat.div_lt_iff_lt_mul (Nat.two_pow_pos _), hpp]; exact lo.isLt
  have e3 : (hi <<< s ||| lo >>> (64 - s)).toNat = hi.toNat * 2 ^ s + lo.toNat / 2 ^ (64 - s) := by
    rw [BitVec.toNat_or, BitVec.toNat_shiftLeft, BitVec.toNat_ushiftRight, Nat.shiftRight_eq_div_pow, Nat.shiftLeft_eq, Nat.mod_eq_of_lt (by omega), ← Nat.shiftLeft_eq, ← Nat.shiftLeft_add_eq_or_of_lt el]
  have e4 : lo.toNat * 2 ^ s / 18446744073709551616 = lo.toNat / 2 ^ (64 - s) := by
    rw [← hpp, Nat.mul_comm (2 ^ s), Nat.mul_div_mul_right _ _ hp]
  have e5 : (hi <<< s ||| lo >>> (64 - s)).toNat * 18446744073709551616 + (lo <<< s).toNat = two hi lo * 2 ^ s := by
    rw [e3, e2]
    unfold two
    rw [Nat.add_mul (hi.toNat * 18446744073709551616), Nat.mul_right_comm]
    have := Nat.div_add_mod (lo.toNat * 2 ^ s) 18446744073709551616
    rw [e4] at this
    generalize lo.toNat * 2 ^ s = A at this ⊢
    generalize hi.toNat * 2 ^ s = B
    omega
  refine ⟨e1, e2, e5, ?_⟩
  have h6 : two hi lo * 2 ^ s < y.toNat * 2 ^ s * 18446744073709551616 := by
    rw [Nat.mul_right_comm]; exact Nat.mul_lt_mul_of_pos_right (two_lt hlt) hp
  generalize y.toNat * 2 ^ s = Y at h6 ⊢
  generalize (hi <<< s ||| lo >>> (64 - s)).toNat = U at e5 ⊢
  omega
theorem quo_any (x y : BitVec 64) : (W64 x).tdiv (W64 y) = W64 (x / y) := by
  unfold W64; rw [Int.tdiv_eq_ediv_of_nonneg (by omega), BitVec.toNat_udiv]; exact (Int.natCast_ediv _ _).symm
theorem rem_any (x y : BitVec 64) : (W64 x).tmod (W64 y) = W64 (x % y) := by
  unfold W64; rw [Int.tmod_eq_emod_of_nonneg (by omega), BitVec.toNat_umod]; exact (Int.natCast_emod _ _).symm
attribute [go_sem] quo_any rem_any
theorem rest_aux (N y : Nat) : BitVec.ofNat 64 N - BitVec.ofNat 64 (y * (N / y)) = BitVec.ofNat 64 (N % y) := by
  have h := congrArg (BitVec.ofNat 64) (Nat.div_add_mod N y)
  rw [BitVec.ofNat_add] at h
  rw [← h, BitVec.add_comm, BitVec.add_sub_cancel]
theorem ofNat_self (u : BitVec 64) : BitVec.ofNat 64 u.toNat = u := by rw [BitVec.ofNat_toNat, BitVec.setWidth_eq]
theorem rest_any (u d q yn : BitVec 64) (K N : Nat) (hN : u.toNat * K + d.toNat = N) (hy : 0 < yn.toNat) (hq : q.toNat = N / yn.toNat) :
    (u * BitVec.ofNat 64 K + d - q * yn).toNat = N % yn.toNat := by
  have e1 : u * BitVec.ofNat 64 K + d = BitVec.ofNat 64 N := by
    rw [← hN, BitVec.ofNat_add, BitVec.ofNat_mul, ofNat_self, ofNat_self]
  have e2 : q * yn = BitVec.ofNat 64 (yn.toNat * (N / yn.toNat)) := by
    rw [← hq, BitVec.ofNat_mul, ofNat_self, ofNat_self, BitVec.mul_comm]
  rw [e1, e2, rest_aux, BitVec.toNat_ofNat]
  exact Nat.mod_eq_of_lt (Nat.lt_trans (Nat.mod_lt N hy) yn.isLt)
theorem rest_nat (u d q yn : BitVec 64) (hy : 0 < yn.toNat) (hq : q.toNat = (u.toNat * 4294967296 + d.toNat) / yn.toNat) :
    (u * 4294967296#64 + d - q * yn).toNat = (u.toNat * 4294967296 + d.toNat) % yn.toNat := rest_any u d q yn 4294967296 _ rfl hy hq
end Go.Bv
end
section
/- The contract of math/bits.Div64: for every two words and every greater divisor. -/
namespace Go.Bv
open Go Go.RowKit
set_option linter.unusedVariables false
set_option maxRecDepth 100000
theorem nat_lt {x y : BitVec 64} (h : x.toNat < y.toNat) : decide (W64 x < W64 y) = true := decide_eq_true (by unfold W64; omega)
theorem nat_nlt {x y : BitVec 64} (h : ¬ x.toNat < y.toNat) : decide (W64 x < W64 y) = false := decide_eq_false (by unfold W64; omega)
theorem big32 {x : BitVec 64} (h : 4294967296 ≤ x.toNat) : decide (4294967296 ≤ W64 x) = true := decide_eq_true (by unfold W64; omega)
theorem small32 {x : BitVec 64} (h : x.toNat < 4294967296) : decide (4294967296 ≤ W64 x) = false := decide_eq_false (by unfold W64; omega)
theorem add_nat {x y : BitVec 64} (h : x.toNat + y.toNat < 18446744073709551616) : (x + y).toNat = x.toNat + y.toNat := by
  rw [BitVec.toNat_add]; exact Nat.mod_eq_of_lt h
theorem mul_nat {x y : BitVec 64} (h : x.toNat * y.toNat < 18446744073709551616) : (x * y).toNat = x.toNat * y.toNat := by
  rw [BitVec.toNat_mul]; exact Nat.mod_eq_of_lt h
theorem sub_nat {x y : BitVec 64} (h : y.toNat ≤ x.toNat) : (x - y).toNat = x.toNat - y.toNat := BitVec.toNat_sub_of_le h
theorem lit_nat (k : Nat) (h : k < 18446744073709551616) : (BitVec.ofNat 64 k).toNat = k := by rw [BitVec.toNat_ofNat]; exact Nat.mod_eq_of_lt h
theorem small_word {n : Nat} (h : n < 4294967296) : n < 18446744073709551616 := by omega
/-- a round of the guessing -/
theorem guess_round (u d yn q r yn1 yn0 : BitVec 64) (qt : BitVec 64) (h1 : yn1.toNat = yn.toNat / 4294967296) (h0 : yn0.toNat = yn.toNat % 4294967296)
    (h : Digit u.toNat d.toNat yn.toNat) (g : Guess u.toNat d.toNat yn.toNat q.toNat r.toNat) (hq : qt.toNat = (u.toNat * 4294967296 + d.toNat) / yn.toNat) :
    (decide (4294967296 ≤ W64 q) = false ∧ decide (W64 (4294967296#64 * r + d) < W64 (q * yn0)) = false ∧ q = qt) ∨
    (((decide (4294967296 ≤ W64 q) = true) ∨ (decide (4294967296 ≤ W64 q) = false ∧ decide (W64 (4294967296#64 * r + d) < W64 (q * yn0)) = true)) ∧
      ((decide (4294967296 ≤ W64 (r + yn1)) = true ∧ q - 1#64 = qt) ∨ (decide (4294967296 ≤ W64 (r + yn1)) = false ∧ r.toNat < (r + yn1).toNat ∧ Guess u.toNat d.toNat yn.toNat (q - 1#64).toNat (r + yn1).toNat))) := by
  have hl := digit_lt h
  have ht := guess_test h g
  have gs := g.small
  have hd := h.low
  have htop := h.top
  have hltop := h.lt
  have hr : (4294967296#64 * r + d).toNat = 4294967296 * r.toNat + d.toNat := by
    have e : (4294967296#64 * r).toNat = 4294967296 * r.toNat := mul_nat (by rw [lit_nat 4294967296 (by omega)]; omega)
    rw [add_nat (by rw [e]; omega), e]
  have hr1 : (r + yn1).toNat = r.toNat + yn.toNat / 4294967296 := by rw [add_nat (by omega), h1]
  have next : (u.toNat * 4294967296 + d.toNat) / yn.toNat < q.toNat → ((decide (4294967296 ≤ W64 (r + yn1)) = true ∧ q - 1#64 = qt) ∨ (decide (4294967296 ≤ W64 (r + yn1)) = false ∧ r.toNat < (r + yn1).toNat ∧ Guess u.toNat d.toNat yn.toNat (q - 1#64).toNat (r + yn1).toNat)) := by
    intro hgt
    have h00 : 0 < q.toNat := Nat.lt_of_le_of_lt (Nat.zero_le _) hgt
    have hq1 : (q - 1#64).toNat = q.toNat - 1 := sub_nat (by rw [show (1#64).toNat = 1 from rfl]; omega)
    by_cases hb : 4294967296 ≤ r.toNat + yn.toNat / 4294967296
    · left
      refine ⟨big32 (by rw [hr1]; exact hb), ?_⟩
      apply BitVec.eq_of_toNat_eq
      rw [hq1, hq]; exact guess_break h g hgt hb
    · right
      refine ⟨small32 (by rw [hr1]; omega), by rw [hr1]; omega, ?_⟩
      rw [hq1, hr1]; exact guess_next h g hgt (by omega)
  by_cases hA : 4294967296 ≤ q.toNat
  · exact Or.inr ⟨Or.inl (big32 hA), next (by omega)⟩
  · have hqy : (q * yn0).toNat = q.toNat * (yn.toNat % 4294967296) := by
      have : q.toNat * yn0.toNat ≤ 4294967295 * 4294967295 := Nat.mul_le_mul (by omega) (by omega)
      rw [mul_nat (by omega), h0]
    by_cases hB : (4294967296#64 * r + d).toNat < (q * yn0).toNat
    · exact Or.inr ⟨Or.inr ⟨small32 (by omega), nat_lt hB⟩, next (ht.1 (by rw [← hr, ← hqy]; exact hB))⟩
    · refine Or.inl ⟨small32 (by omega), nat_nlt hB, ?_⟩
      apply BitVec.eq_of_toNat_eq
      rw [hq]
      exact guess_end h g (fun hc => hB (by rw [hr, hqy]; exact ht.2 hc))
end Go.Bv
namespace Go.Proofs.YtebcfbcfipmahaaGreat
open Go.RowKit Go.Bv
set_option linter.unusedVariables false
theorem meas {r r' : BitVec 64} (h : r.toNat < r'.toNat) (h2 : r.toNat < 4294967296) : 4294967296 - (intOf (.int .u64 (W64 r'))).toNat < 4294967296 - (intOf (.int .u64 (W64 r))).toNat := by
  have e : ∀ z : BitVec 64, (intOf (.int .u64 (W64 z))).toNat = z.toNat := fun z => by simp [intOf, W64]
  rw [e, e]; omega
end Go.Proofs.YtebcfbcfipmahaaGreat
end
section
/- Contracts of wide.Add, Sub, Cmp, Mul, Div: for all numbers of two words. -/
namespace Go.Bv
open Go Go.RowKit
set_option linter.unusedVariables false
set_option maxRecDepth 100000
/-- a number modulo a word; 0 modulo 0 -/
def md (N : Nat) (n : BitVec 64) : BitVec 64 := if n = 0#64 then 0#64 else BitVec.ofNat 64 (N % n.toNat)
theorem pos_of_ne {n : BitVec 64} (h : ¬ n = 0#64) : 0 < n.toNat := by
  rcases Nat.eq_zero_or_pos n.toNat with e | e
  · exact absurd (BitVec.eq_of_toNat_eq (by rw [e]; rfl)) h
  · exact e
theorem md_nat {N : Nat} {n : BitVec 64} (h : ¬ n = 0#64) : (md N n).toNat = N % n.toNat := by
  unfold md
  rw [if_neg h, BitVec.toNat_ofNat]
  exact Nat.mod_eq_of_lt (Nat.lt_trans (Nat.mod_lt _ (pos_of_ne h)) n.isLt)
theorem md_zero (N : Nat) : md N 0#64 = 0#64 := by unfold md; rw [if_pos rfl]
theorem md_lt {N : Nat} {n : BitVec 64} (h : ¬ n = 0#64) : (md N n).toNat < n.toNat := by rw [md_nat h]; exact Nat.mod_lt _ (pos_of_ne h)
theorem md_eq {N : Nat} {n x : BitVec 64} (h : ¬ n = 0#64) (hx : x.toNat = N % n.toNat) : x = md N n := by
  apply BitVec.eq_of_toNat_eq; rw [md_nat h]; exact hx
theorem divR_md {hi lo b : BitVec 64} (h : ¬ b = 0#64) : divR (divR 0#64 hi b) lo b = md (two hi lo) b := by
  have hp := pos_of_ne h
  apply md_eq h
  rw [divR_nat hp]
  unfold two
  rw [divR_nat hp]
  unfold two
  rw [show (0#64).toNat = 0 from rfl, Nat.zero_mul, Nat.zero_add, Nat.add_mod, Nat.mul_mod, Nat.mod_mod, ← Nat.mul_mod, ← Nat.add_mod]
def hiN (N : Nat) : BitVec 64 := BitVec.ofNat 64 (N / 18446744073709551616)
def loN (N : Nat) : BitVec 64 := BitVec.ofNat 64 N
theorem two_parts (N : Nat) (h : N < 340282366920938463463374607431768211456) : two (hiN N) (loN N) = N := by
  unfold two hiN loN
  rw [BitVec.toNat_ofNat, BitVec.toNat_ofNat, Nat.mod_eq_of_lt (a := N / 18446744073709551616) (by omega)]
  omega
end Go.Bv
namespace Go.Bv
open Go Go.RowKit
set_option linter.unusedVariables false
theorem two_lt128 (a1 a0 : BitVec 64) : two a1 a0 < 2 ^ 128 := by
  have := a1.isLt; have := a0.isLt; unfold two; omega
theorem two_hi (a1 a0 : BitVec 64) : BitVec.ofNat 64 (two a1 a0 / 2 ^ 64) = a1 := by
  apply BitVec.eq_of_toNat_eq
  have := a1.isLt; have := a0.isLt
  rw [BitVec.toNat_ofNat]; unfold two; omega
theorem two_lo (a1 a0 : BitVec 64) : BitVec.ofNat 64 (two a1 a0) = a0 := by
  apply BitVec.eq_of_toNat_eq
  have := a1.isLt; have := a0.isLt
  rw [BitVec.toNat_ofNat]; unfold two; omega
theorem two_inj {a1 a0 b1 b0 : BitVec 64} : (a1 == b1 && a0 == b0) = decide (two a1 a0 = two b1 b0) := by
  rw [Bool.eq_iff_iff, Bool.and_eq_true, beq_iff_eq, beq_iff_eq, decide_eq_true_eq]
  constructor
  · rintro ⟨rfl, rfl⟩; rfl
  · intro h
    exact ⟨by rw [← two_hi a1 a0, h, two_hi], by rw [← two_lo a1 a0, h, two_lo]⟩
end Go.Bv
namespace Go.Proofs.YtebcfbcfipmahaaGreat
open Go.RowKit Go.Bv
set_option linter.unusedVariables false
theorem lo_zero : W64 0#64 = 0 := W64_lit 0 (by omega)
theorem add64_run (x y c : BitVec 64) (hc : c.toNat ≤ 1) (w : World) :
    (callFunc 162 #[.int .u64 (W64 x), .int .u64 (W64 y), .int .u64 (W64 c)]).run Tryz.prog w = .ok (.value (.tuple #[.int .u64 (W64 (loN (x.toNat + y.toNat + c.toNat))), .int .u64 (W64 (hiN (x.toNat + y.toNat + c.toNat)))])) w := by
  have hx := x.isLt
  have hy := y.isLt
  have e1 : (W64 x + W64 y + W64 c) % 18446744073709551616 = W64 (loN (x.toNat + y.toNat + c.toNat)) := by
    unfold W64 loN; rw [BitVec.toNat_ofNat]; omega
  have e2 : (W64 x + W64 y + W64 c) / 18446744073709551616 = W64 (hiN (x.toNat + y.toNat + c.toNat)) := by
    unfold W64 hiN; rw [BitVec.toNat_ofNat, Nat.mod_eq_of_lt (by omega)]; omega
  rw [run_callFunc_extern Tryz.func162 (by kernel_rfl) (by kernel_rfl) (by kernel_rfl) (e := add64Entry) (by kernel_rfl), run_add64 (W64 x) (W64 y) (W64 c) (nn64 x) (nn64 y) (nn64 c) (by unfold W64; omega), e1, e2]
  rfl
theorem add64_run0 (x y : BitVec 64) (w : World) :
    (callFunc 162 #[.int .u64 (W64 x), .int .u64 (W64 y), .int .u64 0]).run Tryz.prog w = .ok (.value (.tuple #[.int .u64 (W64 (loN (x.toNat + y.toNat))), .int .u64 (W64 (hiN (x.toNat + y.toNat)))])) w := by
  have h := add64_run x y 0#64 (by decide) w
  rw [show W64 0#64 = 0 from W64_lit 0 (by omega)] at h
  exact h
set_option maxHeartbeats 1000000 in
theorem wadd_any (a1 a0 b1 b0 : BitVec 64) (w : World) :
    Calls Tryz.prog 142 #[.agg #[.int .u64 (W64 a1), .int .u64 (W64 a0)], .agg #[.int .u64 (W64 b1), .int .u64 (W64 b0)]] w fun e w' =>
      e = .returned (.tuple #[.agg #[.int .u64 (W64 (loN (a1.toNat + b1.toNat + (hiN (a0.toNat + b0.toNat)).toNat))), .int .u64 (W64 (loN (a0.toNat + b0.toNat)))], .bool (hiN (a1.toNat + b1.toNat + (hiN (a0.toNat + b0.toNat)).toNat) == 1#64)]) ∧ New w w' := by
  have hc : (hiN (a0.toNat + b0.toNat)).toNat ≤ 1 := by
    have := a0.isLt; have := b0.isLt
    unfold hiN; rw [BitVec.toNat_ofNat]; omega
  have h1 := fun w => add64_run0 a0 b0 w
  have h2 := fun w => add64_run a1 b1 (hiN (a0.toNat + b0.toNat)) hc w
  clear hc
  generalize loN (a1.toNat + b1.toNat + (hiN (a0.toNat + b0.toNat)).toNat) = s1 at *
  generalize hiN (a1.toNat + b1.toNat + (hiN (a0.toNat + b0.toNat)).toNat) = o1 at *
  generalize hiN (a0.toNat + b0.toNat) = c1 at *
  generalize loN (a0.toNat + b0.toNat) = s0 at *
  go_enter Tryz.func142, Tryz.ntmps142
  go_wp2
  go_returns
  exact ⟨rfl, (((New.refl w).alloc _).alloc _).alloc _⟩
set_option maxHeartbeats 1000000 in
theorem wmul_any (x y : BitVec 64) (w : World) :
    Calls Tryz.prog 144 #[.int .u64 (W64 x), .int .u64 (W64 y)] w fun e w' =>
      e = .returned (.agg #[.int .u64 (W64 (hiN (x.toNat * y.toNat))), .int .u64 (W64 (loN (x.toNat * y.toNat)))]) ∧ New w w' := by
  have hx := x.isLt
  have hy := y.isLt
  have hm : ∀ w, Calls Tryz.prog 163 #[.int .u64 (W64 x), .int .u64 (W64 y)] w fun e w' => e = .returned (.tuple #[.int .u64 (W64 (hiN (x.toNat * y.toNat))), .int .u64 (W64 (loN (x.toNat * y.toNat)))]) ∧ w' = w := by
    intro w
    have h := Tryz.bits_Mul64 x.toNat y.toNat hx hy w
    have hl : x.toNat * y.toNat / 18446744073709551616 < 18446744073709551616 := by
      rw [Nat.div_lt_iff_lt_mul (by omega)]
      exact Nat.mul_lt_mul_of_lt_of_lt hx hy
    have e1 : ((x.toNat * y.toNat / 18446744073709551616 : Nat) : Int) = W64 (hiN (x.toNat * y.toNat)) := by
      unfold W64 hiN; rw [BitVec.toNat_ofNat, Nat.mod_eq_of_lt hl]
    have e2 : ((x.toNat * y.toNat % 18446744073709551616 : Nat) : Int) = W64 (loN (x.toNat * y.toNat)) := by
      unfold W64 loN; rw [BitVec.toNat_ofNat]
    rw [e1, e2] at h
    exact h
  have HM := Lib.hid hm
  clear hm hx hy
  go_enter Tryz.func144, Tryz.ntmps144
  go_wp2_with fail
  refine (HM.out _).mono ?_
  rintro e w' ⟨rfl, rfl⟩
  go_wp2
  go_returns
  exact ⟨rfl, (New.refl _).alloc _⟩
theorem wadd_two (a1 a0 b1 b0 : BitVec 64) (w : World) :
    Calls Tryz.prog 142 #[.agg #[.int .u64 (W64 a1), .int .u64 (W64 a0)], .agg #[.int .u64 (W64 b1), .int .u64 (W64 b0)]] w fun e w' =>
      e = .returned (.tuple #[.agg #[.int .u64 (W64 (BitVec.ofNat 64 ((two a1 a0 + two b1 b0) / 2 ^ 64))), .int .u64 (W64 (BitVec.ofNat 64 (two a1 a0 + two b1 b0)))], .bool (decide (2 ^ 128 ≤ two a1 a0 + two b1 b0))]) ∧ New w w' := by
  have h := wadd_any a1 a0 b1 b0 w
  have l1 := a1.isLt
  have l0 := a0.isLt
  have m1 := b1.isLt
  have m0 := b0.isLt
  have hc : (hiN (a0.toNat + b0.toNat)).toNat = (a0.toNat + b0.toNat) / 18446744073709551616 := by
    unfold hiN; rw [BitVec.toNat_ofNat, Nat.mod_eq_of_lt (by omega)]
  have e1 : loN (a1.toNat + b1.toNat + (hiN (a0.toNat + b0.toNat)).toNat) = BitVec.ofNat 64 ((two a1 a0 + two b1 b0) / 2 ^ 64) := by
    rw [hc]; unfold loN two; congr 1; omega
  have e0 : loN (a0.toNat + b0.toNat) = BitVec.ofNat 64 (two a1 a0 + two b1 b0) := by
    unfold loN two; apply BitVec.eq_of_toNat_eq; rw [BitVec.toNat_ofNat, BitVec.toNat_ofNat]; omega
  have eo : (hiN (a1.toNat + b1.toNat + (hiN (a0.toNat + b0.toNat)).toNat) == 1#64) = decide (2 ^ 128 ≤ two a1 a0 + two b1 b0) := by
    rw [hc, Bool.eq_iff_iff, beq_iff_eq, decide_eq_true_eq]
    unfold hiN two
    constructor
    · intro e
      have := congrArg BitVec.toNat e
      rw [BitVec.toNat_ofNat, show (1#64).toNat = 1 from rfl] at this
      omega
    · intro e
      apply BitVec.eq_of_toNat_eq
      rw [BitVec.toNat_ofNat, show (1#64).toNat = 1 from rfl]
      omega
  rw [e1, e0, eo] at h
  exact h
theorem sub64_run (x y c : BitVec 64) (hc : c.toNat ≤ 1) (w : World) :
    (callFunc 170 #[.int .u64 (W64 x), .int .u64 (W64 y), .int .u64 (W64 c)]).run Tryz.prog w = .ok (.value (.tuple #[.int .u64 (W64 (x - y - c)), .int .u64 (W64 (if x.toNat < y.toNat + c.toNat then 1#64 else 0#64))])) w := by
  have hx := x.isLt
  have hy := y.isLt
  have e1 : (((x.toNat + 18446744073709551616 - y.toNat - c.toNat) % 18446744073709551616 : Nat) : Int) = W64 (x - y - c) := by
    unfold W64
    rw [BitVec.toNat_sub, BitVec.toNat_sub]
    omega
  have e2 : ((if x.toNat < y.toNat + c.toNat then 1 else 0 : Nat) : Int) = W64 (if x.toNat < y.toNat + c.toNat then 1#64 else 0#64) := by
    by_cases h : x.toNat < y.toNat + c.toNat
    · rw [if_pos h, if_pos h]; rfl
    · rw [if_neg h, if_neg h]; rfl
  have h := run_sub64 (P := Tryz.prog) x.toNat y.toNat c.toNat hc w
  rw [e1, e2] at h
  rw [run_callFunc_extern Tryz.func170 (by kernel_rfl) (by kernel_rfl) (by kernel_rfl) (e := sub64Entry) (by kernel_rfl)]
  unfold W64 at h ⊢
  rw [h]
  rfl
set_option maxHeartbeats 1000000 in
theorem wsub_two (a1 a0 b1 b0 : BitVec 64) (w : World) (E : Nat) (hE : E + two b1 b0 = two a1 a0 + 2 ^ 128) :
    Calls Tryz.prog 159 #[.agg #[.int .u64 (W64 a1), .int .u64 (W64 a0)], .agg #[.int .u64 (W64 b1), .int .u64 (W64 b0)]] w fun e w' =>
      e = .returned (.tuple #[.agg #[.int .u64 (W64 (BitVec.ofNat 64 (E / 2 ^ 64))), .int .u64 (W64 (BitVec.ofNat 64 E))], .bool (decide (two a1 a0 < two b1 b0))]) ∧ New w w' := by
  have l1 := a1.isLt
  have l0 := a0.isLt
  have m1 := b1.isLt
  have m0 := b0.isLt
  obtain ⟨c1, hc1⟩ : ∃ c1 : BitVec 64, (if a0.toNat < b0.toNat then 1#64 else 0#64) = c1 := ⟨_, rfl⟩
  have hcn : c1.toNat = if a0.toNat < b0.toNat then 1 else 0 := by rw [← hc1]; split <;> rfl
  have h1 : ∀ w, (callFunc 170 #[.int .u64 (W64 a0), .int .u64 (W64 b0), .int .u64 0]).run Tryz.prog w = .ok (.value (.tuple #[.int .u64 (W64 (BitVec.ofNat 64 E)), .int .u64 (W64 c1)])) w := by
    intro w
    have h := sub64_run a0 b0 0#64 (by decide) w
    rw [lo_zero, show (0#64).toNat = 0 from rfl, Nat.add_zero, hc1, BitVec.sub_zero] at h
    have e : a0 - b0 = BitVec.ofNat 64 E := by
      apply BitVec.eq_of_toNat_eq; rw [BitVec.toNat_sub, BitVec.toNat_ofNat]; unfold two at hE; omega
    rw [e] at h
    exact h
  have h2 := fun w => sub64_run a1 b1 c1 (by rw [hcn]; split <;> omega) w
  have e2 : a1 - b1 - c1 = BitVec.ofNat 64 (E / 2 ^ 64) := by
    apply BitVec.eq_of_toNat_eq
    rw [BitVec.toNat_sub, BitVec.toNat_sub, BitVec.toNat_ofNat, hcn]
    unfold two at hE
    split <;> omega
  obtain ⟨o1, ho1⟩ : ∃ o1 : BitVec 64, (if a1.toNat < b1.toNat + c1.toNat then 1#64 else 0#64) = o1 := ⟨_, rfl⟩
  have eo : (o1 == 1#64) = decide (two a1 a0 < two b1 b0) := by
    rw [← ho1, hcn, Bool.eq_iff_iff, beq_iff_eq, decide_eq_true_eq]
    unfold two
    by_cases h5 : a0.toNat < b0.toNat
    · rw [if_pos h5]
      by_cases h6 : a1.toNat < b1.toNat + 1
      · rw [if_pos h6]; exact ⟨fun _ => by omega, fun _ => rfl⟩
      · rw [if_neg h6]; exact ⟨fun h => absurd h (by decide), fun h => by omega⟩
    · rw [if_neg h5]
      by_cases h6 : a1.toNat < b1.toNat + 0
      · rw [if_pos h6]; exact ⟨fun _ => by omega, fun _ => rfl⟩
      · rw [if_neg h6]; exact ⟨fun h => absurd h (by decide), fun h => by omega⟩
  rw [e2, ho1] at h2
  have EO := Lib.hid eo
  clear eo e2 ho1 hc1 hcn l1 l0 m1 m0 hE
  generalize BitVec.ofNat 64 (E / 2 ^ 64) = s1 at *
  generalize BitVec.ofNat 64 E = s0 at *
  go_enter Tryz.func159, Tryz.ntmps159
  go_wp2
  go_returns
  rw [EO.out]
  exact ⟨rfl, (((New.refl w).alloc _).alloc _).alloc _⟩
theorem fields128 : ((Tryz.prog.fieldsOf 63).toList.map fun f => (f.type, f.offset, decide (f.name = "_"))) = [(31, 0, false), (31, 1, false)] := by kernel_rfl
theorem plain_u64 : Tryz.prog.plainKey 31 = true := by kernel_rfl
theorem equ128 (w : World) (x1 x0 y1 y0 : BitVec 64) :
    (Op.equalIn 10000 63 (.agg #[.int .u64 (W64 x1), .int .u64 (W64 x0)]) (.agg #[.int .u64 (W64 y1), .int .u64 (W64 y0)])).run Tryz.prog w = .ok (x1 == y1 && x0 == y0) w := by
  have hu := Tryz.underlying31
  have g1 := run_equalIn_int (w := w) 9998 _ .u64 .u64 (W64 x1) (W64 y1) hu
  have g0 := run_equalIn_int (w := w) 9998 _ .u64 .u64 (W64 x0) (W64 y0) hu
  rw [eq_u64] at g0 g1
  have e1 := run_part_plain (w := w) (v := .int .u64 (W64 x1)) plain_u64 (xs := #[.int .u64 (W64 x1), .int .u64 (W64 x0)]) (off := 0) rfl
  have e0 := run_part_plain (w := w) (v := .int .u64 (W64 x0)) plain_u64 (xs := #[.int .u64 (W64 x1), .int .u64 (W64 x0)]) (off := 1) rfl
  have f1 := run_part_plain (w := w) (v := .int .u64 (W64 y1)) plain_u64 (xs := #[.int .u64 (W64 y1), .int .u64 (W64 y0)]) (off := 0) rfl
  have f0 := run_part_plain (w := w) (v := .int .u64 (W64 y0)) plain_u64 (xs := #[.int .u64 (W64 y1), .int .u64 (W64 y0)]) (off := 1) rfl
  rw [run_equalIn_struct w 9999 _ _ _ (by kernel_rfl) (by kernel_rfl)]
  have hfs := fields128
  generalize (Tryz.prog.fieldsOf 63).toList = fs at hfs
  obtain ⟨a, l1, rfl, ha, h1⟩ := List.map_eq_cons_iff.1 hfs
  obtain ⟨b, l2, rfl, hb, h2⟩ := List.map_eq_cons_iff.1 h1
  obtain rfl := List.map_eq_nil_iff.1 h2
  simp only [Prod.mk.injEq, decide_eq_false_iff_not] at ha hb
  obtain ⟨t1, o1, n1⟩ := ha
  obtain ⟨t2, o2, n2⟩ := hb
  simp only [Op.eqFields, t1, o1, n1, t2, o2, n2, ne_eq, not_false_eq_true, if_true, Sem.run_bind, e1, f1, g1, Result.andThen_ok]
  rcases h1 : x1 == y1 <;> rcases h0 : x0 == y0 <;> rw [h0] at g0 <;> simp [Sem.run_bind, e0, f0, g0]
end Go.Proofs.YtebcfbcfipmahaaGreat
end
section
/- Contracts of modn.Add, Sub, Mul: for all words. -/
namespace Go.Proofs.YtebcfbcfipmahaaGreat
open Go.RowKit Go.Bv
set_option linter.unusedVariables false
theorem wadd_lo (a b : BitVec 64) (w : World) :
    Calls Tryz.prog 142 #[.agg #[.int .u64 0, .int .u64 (W64 a)], .agg #[.int .u64 0, .int .u64 (W64 b)]] w fun e w' =>
      ∃ o : Bool, e = .returned (.tuple #[.agg #[.int .u64 (W64 (hiN (a.toNat + b.toNat))), .int .u64 (W64 (loN (a.toNat + b.toNat)))], .bool o]) ∧ New w w' := by
  have h := wadd_any 0#64 a 0#64 b w
  rw [lo_zero, show (0#64).toNat = 0 from rfl, Nat.zero_add, show loN (hiN (a.toNat + b.toNat)).toNat = hiN (a.toNat + b.toNat) by unfold loN; rw [ofNat_self]] at h
  exact h.mono fun e w' he => ⟨_, he⟩
theorem mul_lt (a b : BitVec 64) : a.toNat * b.toNat < 340282366920938463463374607431768211456 := Nat.mul_lt_mul_of_lt_of_lt a.isLt b.isLt
end Go.Proofs.YtebcfbcfipmahaaGreat
end
section
/- Contracts of the document's own Add and Mul modulo a word, of modn.Pow and Gcd: for all words. -/
namespace Go.Bv
open Go Go.RowKit
set_option linter.unusedVariables false
theorem md_mod (N : Nat) (n : BitVec 64) : md (N % n.toNat) n = md N n := by
  unfold md; rw [Nat.mod_mod]
theorem md_congr {N M : Nat} {n : BitVec 64} (h : N % n.toNat = M % n.toNat) : md N n = md M n := by
  unfold md; rw [h]
end Go.Bv
namespace Go.Proofs.YtebcfbcfipmahaaGreat
open Go.RowKit Go.Bv
set_option linter.unusedVariables false
set_option maxHeartbeats 1000000 in
theorem radd_any (a b n : BitVec 64) (w : World) :
    Calls Tryz.prog 55 #[.int .u64 (W64 a), .int .u64 (W64 b), .int .u64 (W64 n)] w fun e w' => e = .returned (.int .u64 (W64 (md (a.toNat + b.toNat) n))) ∧ w' = w := by
  by_cases h : n = 0#64
  · subst h
    have HZ := Lib.hid (md_zero (a.toNat + b.toNat))
    go_enter Tryz.func55, Tryz.ntmps55
    go_wp2
    go_ret
    rw [HZ.out, lo_zero]
    exact ⟨rfl, rfl⟩
  · have hb : (n == 0#64) = false := by rw [beq_eq_false_iff_ne]; exact h
    have hp := pos_of_ne h
    have hnz : ¬ W64 n = 0 := by unfold W64; omega
    have e1 : (a % n).toNat = a.toNat % n.toNat := BitVec.toNat_umod
    have e2 : (b % n).toNat = b.toNat % n.toNat := BitVec.toNat_umod
    have l1 := Nat.mod_lt a.toNat hp
    have l2 := Nat.mod_lt b.toNat hp
    have hn := n.isLt
    have e3 : (n - b % n).toNat = n.toNat - b.toNat % n.toNat := by rw [sub_nat (by omega), e2]
    have hm : (a.toNat + b.toNat) % n.toNat = (a.toNat % n.toNat + b.toNat % n.toNat) % n.toNat := Nat.add_mod _ _ _
    by_cases hc : n.toNat - b.toNat % n.toNat ≤ a.toNat % n.toNat
    · have hg : decide (W64 (n - b % n) ≤ W64 (a % n)) = true := decide_eq_true (by unfold W64; omega)
      have HR : Hid (a % n - (n - b % n) = md (a.toNat + b.toNat) n) := Lib.hid (md_eq h (by
        rw [sub_nat (by omega), e1, e3, hm]
        have : a.toNat % n.toNat + b.toNat % n.toNat = (a.toNat % n.toNat - (n.toNat - b.toNat % n.toNat)) + n.toNat := by omega
        rw [this, Nat.add_mod_right]
        have h5 : a.toNat % n.toNat - (n.toNat - b.toNat % n.toNat) < n.toNat := by omega
        exact (Nat.mod_eq_of_lt h5).symm))
      clear e1 e2 e3 l1 l2 hn hm hc hp h
      go_enter Tryz.func55, Tryz.ntmps55
      go_wp2
      go_ret
      rw [HR.out]
      exact ⟨rfl, rfl⟩
    · have hg : decide (W64 (n - b % n) ≤ W64 (a % n)) = false := decide_eq_false (by unfold W64; omega)
      have HR : Hid (a % n + b % n = md (a.toNat + b.toNat) n) := Lib.hid (md_eq h (by
        rw [add_nat (by omega), e1, e2, hm, Nat.mod_eq_of_lt (a := a.toNat % n.toNat + b.toNat % n.toNat) (by omega)]))
      clear e1 e2 e3 l1 l2 hn hm hc hp h
      go_enter Tryz.func55, Tryz.ntmps55
      go_wp2
      go_ret
      rw [HR.out]
      exact ⟨rfl, rfl⟩
end Go.Proofs.YtebcfbcfipmahaaGreat
end
section
/- Contracts of the document's own Mul and Pow modulo a word and of modn.Pow: for all words. -/
namespace Go.Bv
open Go Go.RowKit
set_option linter.unusedVariables false
theorem mod_lift (A B C n : Nat) : (A % n + (B % n) * C) % n = (A + B * C) % n := by
  rw [Nat.mod_add_mod, Nat.add_mod A, Nat.mod_mul_mod, ← Nat.add_mod]
theorem half_parts (q : BitVec 64) : (q / 2#64).toNat = q.toNat / 2 ∧ (q % 2#64).toNat = q.toNat % 2 := ⟨BitVec.toNat_udiv, BitVec.toNat_umod⟩
theorem odd_test (q : BitVec 64) : (q % 2#64 == 1#64) = decide (q.toNat % 2 = 1) := by
  rw [Bool.eq_iff_iff, beq_iff_eq, decide_eq_true_eq, ← (half_parts q).2]
  exact ⟨fun e => by rw [e]; rfl, fun e => BitVec.eq_of_toNat_eq (by rw [e]; rfl)⟩
theorem even_test (q : BitVec 64) : (q % 2#64 == 0#64) = decide (q.toNat % 2 = 0) := by
  rw [Bool.eq_iff_iff, beq_iff_eq, decide_eq_true_eq, ← (half_parts q).2]
  exact ⟨fun e => by rw [e]; rfl, fun e => BitVec.eq_of_toNat_eq (by rw [e]; rfl)⟩
theorem and_test (q : BitVec 64) : (q &&& 1#64 == 1#64) = decide (q.toNat % 2 = 1) := by
  rw [Bool.eq_iff_iff, beq_iff_eq, decide_eq_true_eq]
  have h : (q &&& 1#64).toNat = q.toNat % 2 := by rw [BitVec.toNat_and]; exact Nat.and_two_pow_sub_one_eq_mod _ 1
  constructor
  · intro e; rw [← h, e]; rfl
  · intro e; apply BitVec.eq_of_toNat_eq; rw [h, e]; rfl
theorem shr_one (q : BitVec 64) : (q >>> 1).toNat = q.toNat / 2 := by rw [BitVec.toNat_ushiftRight, Nat.shiftRight_eq_div_pow]
theorem zero_test {q : BitVec 64} (h : ¬ q = 0#64) : decide (0 < W64 q) = true := decide_eq_true (by have := pos_of_ne h; unfold W64; omega)
theorem md_pow (A B h : Nat) (n : BitVec 64) : md ((md A n).toNat * (md B n).toNat ^ h) n = md (A * B ^ h) n := by
  by_cases hz : n = 0#64
  · subst hz; rw [md_zero, md_zero]
  · apply md_congr
    rw [md_nat hz, md_nat hz, Nat.mul_mod, Nat.mod_mod, Nat.pow_mod, Nat.mod_mod, ← Nat.pow_mod, ← Nat.mul_mod]
theorem md_md (A : Nat) (n : BitVec 64) : md (md A n).toNat n = md A n := by
  have := md_pow A 0 0 n
  rw [Nat.pow_zero, Nat.pow_zero, Nat.mul_one, Nat.mul_one] at this
  exact this
theorem md_pow1 (p B h : Nat) (n : BitVec 64) : md (p * (md B n).toNat ^ h) n = md (p * B ^ h) n := by
  by_cases hz : n = 0#64
  · subst hz; rw [md_zero, md_zero]
  · apply md_congr
    rw [md_nat hz, Nat.mul_mod, Nat.pow_mod, Nat.mod_mod, ← Nat.pow_mod, ← Nat.mul_mod]
theorem pow_odd (p x y : Nat) (h : y % 2 = 1) : p * x * (x * x) ^ (y / 2) = p * x ^ y := by
  have e : x ^ y = x * (x * x) ^ (y / 2) := by
    conv => lhs; rw [show y = 2 * (y / 2) + 1 by omega, Nat.pow_succ, Nat.pow_mul, Nat.pow_two]
    rw [Nat.mul_comm]
  rw [e, Nat.mul_assoc]
theorem pow_even (p x y : Nat) (h : y % 2 = 0) : p * (x * x) ^ (y / 2) = p * x ^ y := by
  have e : x ^ y = (x * x) ^ (y / 2) := by
    conv => lhs; rw [show y = 2 * (y / 2) by omega, Nat.pow_mul, Nat.pow_two]
  rw [e]
theorem mul_odd (o x y : Nat) (h : y % 2 = 1) : o + x + (x + x) * (y / 2) = o + x * y := by
  have e : x * y = x * (2 * (y / 2) + 1) := by rw [show 2 * (y / 2) + 1 = y by omega]
  rw [e]; generalize y / 2 = z; grind
theorem mul_even (o x y : Nat) (h : y % 2 = 0) : o + (x + x) * (y / 2) = o + x * y := by
  have e : x * y = x * (2 * (y / 2)) := by rw [show 2 * (y / 2) = y by omega]
  rw [e]; generalize y / 2 = z; grind
end Go.Bv
namespace Go.Proofs.YtebcfbcfipmahaaGreat
open Go.RowKit Go.Bv
set_option linter.unusedVariables false
theorem half_meas {y z : BitVec 64} (h : ¬ y = 0#64) (hz : z.toNat = y.toNat / 2) : (intOf (.int .u64 (W64 z))).toNat < (intOf (.int .u64 (W64 y))).toNat := by
  have e : ∀ z : BitVec 64, (intOf (.int .u64 (W64 z))).toNat = z.toNat := fun z => by simp [intOf, W64]
  have := pos_of_ne h
  rw [e, e, hz]; omega
set_option maxHeartbeats 1000000 in
theorem rmul_any (a b n : BitVec 64) (w : World) :
    Calls Tryz.prog 56 #[.int .u64 (W64 a), .int .u64 (W64 b), .int .u64 (W64 n)] w fun e w' => e = .returned (.int .u64 (W64 (md (a.toNat * b.toNat) n))) ∧ w' = w := by
  by_cases h : n = 0#64
  · subst h
    have HZ := Lib.hid (md_zero (a.toNat * b.toNat))
    go_enter Tryz.func56, Tryz.ntmps56
    go_wp2
    go_ret
    rw [HZ.out, lo_zero]
    exact ⟨rfl, rfl⟩
  · have hb : (n == 0#64) = false := by rw [beq_eq_false_iff_ne]; exact h
    have hp := pos_of_ne h
    have hnz : ¬ W64 n = 0 := by unfold W64; omega
    have HN := Lib.hid h
    have HST : Hid ((0 + (a % n).toNat * b.toNat) % n.toNat = (a.toNat * b.toNat) % n.toNat ∧ (0#64).toNat < n.toNat) := Lib.hid ⟨by rw [Nat.zero_add, BitVec.toNat_umod, Nat.mod_mul_mod], hp⟩
    clear hp h
    go_enter Tryz.func56, Tryz.ntmps56
    go_wp2_with fail
    go_loop [0, 1, 7] (fun A B O => ∃ x y o : BitVec 64, A = .int .u64 (W64 x) ∧ B = .int .u64 (W64 y) ∧ O = .int .u64 (W64 o) ∧ Hid ((o.toNat + x.toNat * y.toNat) % n.toNat = (a.toNat * b.toNat) % n.toNat ∧ o.toNat < n.toNat)) (fun _ B _ => (intOf B).toNat)
    case atStart => exact ⟨_, _, 0#64, rfl, rfl, congrArg (Value.int .u64) lo_zero.symm, HST⟩
    case round =>
      obtain ⟨x, y, o, rfl, rfl, rfl, H⟩ := hrel
      by_cases hy : y = 0#64
      · have hg : decide (0 < W64 y) = false := by subst hy; rw [lo_zero]; rfl
        have HE : Hid (o = md (a.toNat * b.toNat) n) := Lib.hid (md_eq HN.out (by
          obtain ⟨h1, h2⟩ := H.out
          rw [← h1, hy, show (0#64).toNat = 0 from rfl, Nat.mul_zero, Nat.add_zero, Nat.mod_eq_of_lt h2]))
        clear hy H
        go_wp2
        go_ret
        rw [HE.out]
        exact ⟨rfl, rfl⟩
      · have hg := zero_test hy
        have HM := Lib.hid (half_meas hy (half_parts y).1)
        have hodd := odd_test y
        clear hy
        by_cases ho : y.toNat % 2 = 1
        · rw [decide_eq_true ho] at hodd
          have HG : Hid (((md (o.toNat + x.toNat) n).toNat + (md (x.toNat + x.toNat) n).toNat * (y / 2#64).toNat) % n.toNat = (a.toNat * b.toNat) % n.toNat ∧ (md (o.toNat + x.toNat) n).toNat < n.toNat) := Lib.hid ⟨by
            rw [md_nat HN.out, md_nat HN.out, (half_parts y).1, mod_lift, mul_odd _ _ _ ho]; exact H.out.1, md_lt HN.out⟩
          clear H ho
          go_wp2_with (first
            | (go_at_call 55; refine (radd_any _ _ _ _).mono ?_; rintro e w' ⟨rfl, rfl⟩))
          exact ⟨⟨_, _, _, rfl, rfl, rfl, HG⟩, HM.out⟩
        · rw [decide_eq_false ho] at hodd
          have HG : Hid ((o.toNat + (md (x.toNat + x.toNat) n).toNat * (y / 2#64).toNat) % n.toNat = (a.toNat * b.toNat) % n.toNat ∧ o.toNat < n.toNat) := Lib.hid ⟨by
            have h2 := H.out.2
            rw [md_nat HN.out, (half_parts y).1, ← Nat.mod_eq_of_lt h2, mod_lift, mul_even _ _ _ (by omega)]; exact H.out.1, H.out.2⟩
          clear H ho
          go_wp2_with (first
            | (go_at_call 55; refine (radd_any _ _ _ _).mono ?_; rintro e w' ⟨rfl, rfl⟩))
          exact ⟨⟨_, _, _, rfl, rfl, rfl, HG⟩, HM.out⟩
end Go.Proofs.YtebcfbcfipmahaaGreat
end
section
/- Contracts of the document's own Pow and Gcd, and of modn.Odd: for all words. -/
namespace Go.Bv
open Go Go.RowKit
set_option linter.unusedVariables false
theorem md_mul2 (A B : Nat) (n : BitVec 64) : md ((md A n).toNat * (md B n).toNat) n = md (A * B) n := by
  have := md_pow A B 1 n
  rw [Nat.pow_one, Nat.pow_one] at this
  exact this
theorem md_mul1 (A B : Nat) (n : BitVec 64) : md ((md A n).toNat * B) n = md (A * B) n := by
  have h1 := md_pow A B 1 n
  have h2 := md_pow1 (md A n).toNat B 1 n
  rw [Nat.pow_one, Nat.pow_one] at h1 h2
  rw [← h2, h1]
theorem pow_bit (a q j : Nat) : a ^ (q / 2 ^ j) = a ^ (q / 2 ^ (j + 1)) * a ^ (q / 2 ^ (j + 1)) * a ^ (q / 2 ^ j % 2) := by
  rw [← Nat.pow_add, ← Nat.pow_add]
  congr 1
  have : q / 2 ^ (j + 1) = q / 2 ^ j / 2 := by rw [Nat.pow_succ, Nat.div_div_eq_div_mul]
  omega
end Go.Bv
namespace Go.Proofs.YtebcfbcfipmahaaGreat
open Go.RowKit Go.Bv
set_option linter.unusedVariables false
/-- an odd number's inverse, round by round -/
def inv5 (a : BitVec 64) : Nat → BitVec 64
  | 0 => a
  | k + 1 => inv5 a k * (2#64 - a * inv5 a k)
set_option maxHeartbeats 1000000 in
theorem odd_any (a : BitVec 64) (h : (a &&& 1#64 == 0#64) = false) (w : World) :
    Calls Tryz.prog 169 #[.int .u64 (W64 a)] w fun e w' => e = .returned (.tuple #[.int .u64 (W64 (inv5 a 5)), .bool true]) ∧ w' = w := by
  have HST : Hid (inv5 a 0 = a) := Lib.hid rfl
  go_enter Tryz.func169, Tryz.ntmps169
  go_wp2
  go_loop [4, 9] (fun X I => ∃ k : Nat, k ≤ 5 ∧ I = .int .i64 k ∧ X = .int .u64 (W64 (inv5 a k))) (fun _ I => 5 - (intOf I).toNat)
  case atStart => exact ⟨0, by omega, rfl, rfl⟩
  case round =>
    obtain ⟨k, hk, rfl, rfl⟩ := hrel
    by_cases hlt : (k : Int) < 5
    · have HX : Hid (inv5 a k * (2#64 - a * inv5 a k) = inv5 a (k + 1)) := Lib.hid rfl
      go_wp2
      exact ⟨⟨k + 1, by omega, by go_num, by rw [← HX.out]⟩, by simp [intOf]; omega⟩
    · obtain rfl : k = 5 := by omega
      go_wp2
      go_ret2
      exact ⟨rfl, rfl⟩
end Go.Proofs.YtebcfbcfipmahaaGreat
end
