import Derived.Test.YtfaobdmoifnglaaGreatZNew
import Derived.Lib.ItoaNum
import Derived.Test.YtfaobdmoifnglaaGreatProg
import Derived.Test.YtfaobdmoifnglaaGreatShelf
import Derived.Deep.QuietTactic
import Derived.BigQuiet
import Derived.Laws.Externs
import Derived.Laws.StructEq
import Derived.Shelf.Spec.BitsCarry
import Derived.Handy
import Derived.ChangeKeysEq
section
/- Plain lemmas: long division of a number of two words by a word, digit by digit. No program in sight. -/
namespace Go.Bv
open Go Go.RowKit
set_option linter.unusedVariables false
set_option maxRecDepth 100000
/-- the number of two words -/
def two (hi lo : BitVec 64) : Nat := hi.toNat * 18446744073709551616 + lo.toNat
def divQ (hi lo y : BitVec 64) : BitVec 64 := BitVec.ofNat 64 (two hi lo / y.toNat)
def divR (hi lo y : BitVec 64) : BitVec 64 := BitVec.ofNat 64 (two hi lo % y.toNat)
theorem two_lt {hi lo y : BitVec 64} (h : hi.toNat < y.toNat) : two hi lo < y.toNat * 18446744073709551616 := by
  have := lo.isLt
  have h2 : (hi.toNat + 1) * 18446744073709551616 ≤ y.toNat * 18446744073709551616 := Nat.mul_le_mul_right _ h
  unfold two; omega
theorem divQ_nat {hi lo y : BitVec 64} (h : hi.toNat < y.toNat) : (divQ hi lo y).toNat = two hi lo / y.toNat := by
  unfold divQ
  rw [BitVec.toNat_ofNat]
  refine Nat.mod_eq_of_lt ?_
  rw [Nat.div_lt_iff_lt_mul (by omega), Nat.mul_comm]
  exact two_lt h
theorem divR_nat {hi lo y : BitVec 64} (h : 0 < y.toNat) : (divR hi lo y).toNat = two hi lo % y.toNat := by
  unfold divR
  rw [BitVec.toNat_ofNat]
  have h1 := Nat.mod_lt (two hi lo) h
  have h2 := y.isLt
  exact Nat.mod_eq_of_lt (by omega)
/-- what is guessed of a digit: not too little, with what is left by the divisor's upper half -/
structure Guess (u d yn q r : Nat) : Prop where
  ge : (u * 4294967296 + d) / yn ≤ q
  sum : q * (yn / 4294967296) + r = u
  le : q ≤ 4294967297
  small : r < 4294967296
structure Digit (u d yn : Nat) : Prop where
  top : 9223372036854775808 ≤ yn
  lt : yn < 18446744073709551616
  rest : u < yn
  low : d < 4294967296
theorem mul_split (q yn : Nat) : q * yn = q * (yn / 4294967296) * 4294967296 + q * (yn % 4294967296) := by
  rw [Nat.mul_assoc, ← Nat.mul_add]
  congr 1; omega
theorem digit_lt {u d yn : Nat} (h : Digit u d yn) : (u * 4294967296 + d) / yn < 4294967296 := by
  obtain ⟨h1, h2, h3, h4⟩ := h
  rw [Nat.div_lt_iff_lt_mul (by omega)]
  omega
theorem guess_start {u d yn : Nat} (h : Digit u d yn) : Guess u d yn (u / (yn / 4294967296)) (u - u / (yn / 4294967296) * (yn / 4294967296)) := by
  obtain ⟨h1, h2, h3, h4⟩ := h
  have hy1 : 2147483648 ≤ yn / 4294967296 := by omega
  have hdm := Nat.div_add_mod u (yn / 4294967296)
  have hml := Nat.mod_lt u (show 0 < yn / 4294967296 by omega)
  rw [Nat.mul_comm] at hdm
  refine ⟨?_, by omega, ?_, by omega⟩
  · rw [Nat.le_div_iff_mul_le (by omega)]
    have h5 : (u * 4294967296 + d) / yn * yn ≤ u * 4294967296 + d := Nat.div_mul_le_self _ _
    rw [mul_split ((u * 4294967296 + d) / yn) yn] at h5
    generalize (u * 4294967296 + d) / yn * (yn / 4294967296) = A at h5 ⊢
    generalize (u * 4294967296 + d) / yn * (yn % 4294967296) = B at h5
    omega
  · have h6 : u < 4294967298 * (yn / 4294967296) := by omega
    have := (Nat.div_lt_iff_lt_mul (show 0 < yn / 4294967296 by omega)).2 h6
    omega
/-- the guess is too much just if the test says so -/
theorem guess_test {u d yn q r : Nat} (h : Digit u d yn) (g : Guess u d yn q r) : 4294967296 * r + d < q * (yn % 4294967296) ↔ (u * 4294967296 + d) / yn < q := by
  obtain ⟨h1, h2, h3, h4⟩ := h
  obtain ⟨g1, g2, g3, g4⟩ := g
  rw [Nat.div_lt_iff_lt_mul (by omega), mul_split q yn]
  generalize q * (yn / 4294967296) = A at g2 ⊢
  generalize q * (yn % 4294967296) = B
  omega
theorem guess_next {u d yn q r : Nat} (h : Digit u d yn) (g : Guess u d yn q r) (ht : (u * 4294967296 + d) / yn < q) (hr : r + yn / 4294967296 < 4294967296) : Guess u d yn (q - 1) (r + yn / 4294967296) := by
  obtain ⟨g1, g2, g3, g4⟩ := g
  have h0 : 0 < q := Nat.lt_of_le_of_lt (Nat.zero_le _) ht
  refine ⟨by omega, ?_, by omega, hr⟩
  have : q = (q - 1) + 1 := by omega
  rw [this, Nat.add_mul] at g2
  omega
theorem guess_break {u d yn q r : Nat} (h : Digit u d yn) (g : Guess u d yn q r) (ht : (u * 4294967296 + d) / yn < q) (hr : 4294967296 ≤ r + yn / 4294967296) : q - 1 = (u * 4294967296 + d) / yn := by
  have hl := digit_lt h
  obtain ⟨h1, h2, h3, h4⟩ := h
  obtain ⟨g1, g2, g3, g4⟩ := g
  have h0 : 0 < q := Nat.lt_of_le_of_lt (Nat.zero_le _) ht
  apply Nat.le_antisymm
  · rw [Nat.le_div_iff_mul_le (by omega), mul_split (q - 1) yn]
    have e : q = (q - 1) + 1 := by omega
    rw [e, Nat.add_mul] at g2
    have h5 : (q - 1) * (yn % 4294967296) ≤ 4294967296 * 4294967295 := Nat.mul_le_mul (by omega) (by omega)
    generalize (q - 1) * (yn / 4294967296) = A at g2 ⊢
    generalize (q - 1) * (yn % 4294967296) = B at h5 ⊢
    omega
  · omega
theorem guess_end {u d yn q r : Nat} (h : Digit u d yn) (g : Guess u d yn q r) (ht : ¬ (u * 4294967296 + d) / yn < q) : q = (u * 4294967296 + d) / yn := by
  have := g.ge; omega
/-- both digits -/
theorem two_digits (u v yn q1 r1 : Nat) (hy : 0 < yn) (h1 : yn * q1 + r1 = u * 4294967296 + v / 4294967296) :
    (u * 18446744073709551616 + v) / yn = q1 * 4294967296 + (r1 * 4294967296 + v % 4294967296) / yn ∧
    (u * 18446744073709551616 + v) % yn = (r1 * 4294967296 + v % 4294967296) % yn := by
  have e : u * 18446744073709551616 + v = r1 * 4294967296 + v % 4294967296 + yn * (q1 * 4294967296) := by
    rw [← Nat.mul_assoc yn q1 4294967296]
    generalize yn * q1 = A at h1 ⊢
    omega
  rw [e]
  refine ⟨?_, Nat.add_mul_mod_self_left _ _ _⟩
  rw [Nat.add_mul_div_left _ _ hy]
  omega
/-- the divisor moved up till its highest bit is set -/
theorem norm_parts (hi lo y : BitVec 64) (s : Nat) (hs : s ≤ 63) (hlt : hi.toNat < y.toNat) (hy : y.toNat * 2 ^ s < 18446744073709551616) :
    (y <<< s).toNat = y.toNat * 2 ^ s ∧ (lo <<< s).toNat = lo.toNat * 2 ^ s % 18446744073709551616 ∧
    (hi <<< s ||| lo >>> (64 - s)).toNat * 18446744073709551616 + (lo <<< s).toNat = two hi lo * 2 ^ s ∧ (hi <<< s ||| lo >>> (64 - s)).toNat < y.toNat * 2 ^ s := by
  have hp : 0 < 2 ^ s := Nat.two_pow_pos s
  have hpp : 2 ^ s * 2 ^ (64 - s) = 18446744073709551616 := by rw [← Nat.pow_add, show s + (64 - s) = 64 by omega]
  have hh : hi.toNat * 2 ^ s < y.toNat * 2 ^ s := Nat.mul_lt_mul_of_pos_right hlt hp
  have e1 : (y <<< s).toNat = y.toNat * 2 ^ s := by
    rw [BitVec.toNat_shiftLeft, Nat.shiftLeft_eq]; exact Nat.mod_eq_of_lt hy
  have e2 : (lo <<< s).toNat = lo.toNat * 2 ^ s % 18446744073709551616 := by
    rw [BitVec.toNat_shiftLeft, Nat.shiftLeft_eq]
  have el : lo.toNat / 2 ^ (64 - s) < 2 ^ s := by
    rw [Nat.div_lt_iff_lt_mul (Nat.two_pow_pos _), hpp]; exact lo.isLt
  have e3 : (hi <<< s ||| lo >>> (64 - s)).toNat = hi.toNat * 2 ^ s + lo.toNat / 2 ^ (64 - s) := by
    rw [BitVec.toNat_or, BitVec.toNat_shiftLeft, BitVec.toNat_ushiftRight, Nat.shiftRight_eq_div_pow, Nat.shiftLeft_eq, Nat.mod_eq_of_lt (by omega), ← Nat.shiftLeft_eq, ← Nat.shiftLeft_add_eq_or_of_lt el]
  have e4 : lo.toNat * 2 ^ s / 18446744073709551616 = lo.toNat / 2 ^ (64 - s) := by
    rw [← hpp, Nat.mul_comm (2 ^ s), Nat.mul_div_mul_right _ _ hp]
  have e5 : (hi <<< s ||| lo >>> (64 - s)).toNat * 18446744073709551616 + (lo <<< s).toNat = two hi lo * 2 ^ s := by
    rw [e3, e2]
    unfold two
    rw [Nat.add_mul (hi.toNat * 18446744073709551616), Nat.mul_right_comm]
    have := Nat.div_add_mod (lo.toNat * 2 ^ s) 18446744073709551616
    rw [e4] at this
    generalize lo.toNat * 2 ^ s = A at this ⊢
    generalize hi.toNat * 2 ^ s = B
    omega
  refine ⟨e1, e2, e5, ?_⟩
  have h6 : two hi lo * 2 ^ s < y.toNat * 2 ^ s * 18446744073709551616 := by
    rw [Nat.mul_right_comm]; exact Nat.mul_lt_mul_of_pos_right (two_lt hlt) hp
  generalize y.toNat * 2 ^ s = Y at h6 ⊢
  generalize (hi <<< s ||| lo >>> (64 - s)).toNat = U at e5 ⊢
  omega
theorem quo_any (x y : BitVec 64) : (W64 x).tdiv (W64 y) = W64 (x / y) := by
  unfold W64; rw [Int.tdiv_eq_ediv_of_nonneg (by omega), BitVec.toNat_udiv]; exact (Int.natCast_ediv _ _).symm
theorem rem_any (x y : BitVec 64) : (W64 x).tmod (W64 y) = W64 (x % y) := by
  unfold W64; rw [Int.tmod_eq_emod_of_nonneg (by omega), BitVec.toNat_umod]; exact (Int.natCast_emod _ _).symm
attribute [go_sem] quo_any rem_any
theorem rest_aux (N y : Nat) : BitVec.ofNat 64 N - BitVec.ofNat 64 (y * (N / y)) = BitVec.ofNat 64 (N % y) := by
  have h := congrArg (BitVec.ofNat 64) (Nat.div_add_mod N y)
  rw [BitVec.ofNat_add] at h
  rw [← h, BitVec.add_comm, BitVec.add_sub_cancel]
theorem ofNat_self (u : BitVec 64) : BitVec.ofNat 64 u.toNat = u := by rw [BitVec.ofNat_toNat, BitVec.setWidth_eq]
theorem rest_any (u d q yn : BitVec 64) (K N : Nat) (hN : u.toNat * K + d.toNat = N) (hy : 0 < yn.toNat) (hq : q.toNat = N / yn.toNat) :
    (u * BitVec.ofNat 64 K + d - q * yn).toNat = N % yn.toNat := by
  have e1 : u * BitVec.ofNat 64 K + d = BitVec.ofNat 64 N := by
    rw [← hN, BitVec.ofNat_add, BitVec.ofNat_mul, ofNat_self, ofNat_self]
  have e2 : q * yn = BitVec.ofNat 64 (yn.toNat * (N / yn.toNat)) := by
    rw [← hq, BitVec.ofNat_mul, ofNat_self, ofNat_self, BitVec.mul_comm]
  rw [e1, e2, rest_aux, BitVec.toNat_ofNat]
  exact Nat.mod_eq_of_lt (Nat.lt_trans (Nat.mod_lt N hy) yn.isLt)
theorem rest_nat (u d q yn : BitVec 64) (hy : 0 < yn.toNat) (hq : q.toNat = (u.toNat * 4294967296 + d.toNat) / yn.toNat) :
    (u * 4294967296#64 + d - q * yn).toNat = (u.toNat * 4294967296 + d.toNat) % yn.toNat := rest_any u d q yn 4294967296 _ rfl hy hq
end Go.Bv
end
section
/- The contract of math/bits.Div64: for every two words and every greater divisor. -/
namespace Go.Bv
open Go Go.RowKit
set_option linter.unusedVariables false
set_option maxRecDepth 100000
theorem nat_lt {x y : BitVec 64} (h : x.toNat < y.toNat) : decide (W64 x < W64 y) = true := decide_eq_true (by unfold W64; omega)
theorem nat_nlt {x y : BitVec 64} (h : ¬ x.toNat < y.toNat) : decide (W64 x < W64 y) = false := decide_eq_false (by unfold W64; omega)
theorem big32 {x : BitVec 64} (h : 4294967296 ≤ x.toNat) : decide (4294967296 ≤ W64 x) = true := decide_eq_true (by unfold W64; omega)
theorem small32 {x : BitVec 64} (h : x.toNat < 4294967296) : decide (4294967296 ≤ W64 x) = false := decide_eq_false (by unfold W64; omega)
theorem add_nat {x y : BitVec 64} (h : x.toNat + y.toNat < 18446744073709551616) : (x + y).toNat = x.toNat + y.toNat := by
  rw [BitVec.toNat_add]; exact Nat.mod_eq_of_lt h
theorem mul_nat {x y : BitVec 64} (h : x.toNat * y.toNat < 18446744073709551616) : (x * y).toNat = x.toNat * y.toNat := by
  rw [BitVec.toNat_mul]; exact Nat.mod_eq_of_lt h
theorem sub_nat {x y : BitVec 64} (h : y.toNat ≤ x.toNat) : (x - y).toNat = x.toNat - y.toNat := BitVec.toNat_sub_of_le h
theorem lit_nat (k : Nat) (h : k < 18446744073709551616) : (BitVec.ofNat 64 k).toNat = k := by rw [BitVec.toNat_ofNat]; exact Nat.mod_eq_of_lt h
theorem small_word {n : Nat} (h : n < 4294967296) : n < 18446744073709551616 := by omega
/-- a round of the guessing -/
theorem guess_round (u d yn q r yn1 yn0 : BitVec 64) (qt : BitVec 64) (h1 : yn1.toNat = yn.toNat / 4294967296) (h0 : yn0.toNat = yn.toNat % 4294967296)
    (h : Digit u.toNat d.toNat yn.toNat) (g : Guess u.toNat d.toNat yn.toNat q.toNat r.toNat) (hq : qt.toNat = (u.toNat * 4294967296 + d.toNat) / yn.toNat) :
    (decide (4294967296 ≤ W64 q) = false ∧ decide (W64 (4294967296#64 * r + d) < W64 (q * yn0)) = false ∧ q = qt) ∨
    (((decide (4294967296 ≤ W64 q) = true) ∨ (decide (4294967296 ≤ W64 q) = false ∧ decide (W64 (4294967296#64 * r + d) < W64 (q * yn0)) = true)) ∧
      ((decide (4294967296 ≤ W64 (r + yn1)) = true ∧ q - 1#64 = qt) ∨ (decide (4294967296 ≤ W64 (r + yn1)) = false ∧ r.toNat < (r + yn1).toNat ∧ Guess u.toNat d.toNat yn.toNat (q - 1#64).toNat (r + yn1).toNat))) := by
  have hl := digit_lt h
  have ht := guess_test h g
  have gs := g.small
  have hd := h.low
  have htop := h.top
  have hltop := h.lt
  have hr : (4294967296#64 * r + d).toNat = 4294967296 * r.toNat + d.toNat := by
    have e : (4294967296#64 * r).toNat = 4294967296 * r.toNat := mul_nat (by rw [lit_nat 4294967296 (by omega)]; omega)
    rw [add_nat (by rw [e]; omega), e]
  have hr1 : (r + yn1).toNat = r.toNat + yn.toNat / 4294967296 := by rw [add_nat (by omega), h1]
  have next : (u.toNat * 4294967296 + d.toNat) / yn.toNat < q.toNat → ((decide (4294967296 ≤ W64 (r + yn1)) = true ∧ q - 1#64 = qt) ∨ (decide (4294967296 ≤ W64 (r + yn1)) = false ∧ r.toNat < (r + yn1).toNat ∧ Guess u.toNat d.toNat yn.toNat (q - 1#64).toNat (r + yn1).toNat)) := by
    intro hgt
    have h00 : 0 < q.toNat := Nat.lt_of_le_of_lt (Nat.zero_le _) hgt
    have hq1 : (q - 1#64).toNat = q.toNat - 1 := sub_nat (by rw [show (1#64).toNat = 1 from rfl]; omega)
    by_cases hb : 4294967296 ≤ r.toNat + yn.toNat / 4294967296
    · left
      refine ⟨big32 (by rw [hr1]; exact hb), ?_⟩
      apply BitVec.eq_of_toNat_eq
      rw [hq1, hq]; exact guess_break h g hgt hb
    · right
      refine ⟨small32 (by rw [hr1]; omega), by rw [hr1]; omega, ?_⟩
      rw [hq1, hr1]; exact guess_next h g hgt (by omega)
  by_cases hA : 4294967296 ≤ q.toNat
  · exact Or.inr ⟨Or.inl (big32 hA), next (by omega)⟩
  · have hqy : (q * yn0).toNat = q.toNat * (yn.toNat % 4294967296) := by
      have : q.toNat * yn0.toNat ≤ 4294967295 * 4294967295 := Nat.mul_le_mul (by omega) (by omega)
      rw [mul_nat (by omega), h0]
    by_cases hB : (4294967296#64 * r + d).toNat < (q * yn0).toNat
    · exact Or.inr ⟨Or.inr ⟨small32 (by omega), nat_lt hB⟩, next (ht.1 (by rw [← hr, ← hqy]; exact hB))⟩
    · refine Or.inl ⟨small32 (by omega), nat_nlt hB, ?_⟩
      apply BitVec.eq_of_toNat_eq
      rw [hq]
      exact guess_end h g (fun hc => hB (by rw [hr, hqy]; exact ht.2 hc))
end Go.Bv
namespace Go.Proofs.YtfaobdmoifnglaaGreat
open Go.RowKit Go.Bv
set_option linter.unusedVariables false
theorem meas {r r' : BitVec 64} (h : r.toNat < r'.toNat) (h2 : r.toNat < 4294967296) : 4294967296 - (intOf (.int .u64 (W64 r'))).toNat < 4294967296 - (intOf (.int .u64 (W64 r))).toNat := by
  have e : ∀ z : BitVec 64, (intOf (.int .u64 (W64 z))).toNat = z.toNat := fun z => by simp [intOf, W64]
  rw [e, e]; omega
end Go.Proofs.YtfaobdmoifnglaaGreat
end
section
/- Contracts of wide.Add, Sub, Cmp, Mul, Div: for all numbers of two words. -/
namespace Go.Bv
open Go Go.RowKit
set_option linter.unusedVariables false
set_option maxRecDepth 100000
/-- a number modulo a word; 0 modulo 0 -/
def md (N : Nat) (n : BitVec 64) : BitVec 64 := if n = 0#64 then 0#64 else BitVec.ofNat 64 (N % n.toNat)
theorem pos_of_ne {n : BitVec 64} (h : ¬ n = 0#64) : 0 < n.toNat := by
  rcases Nat.eq_zero_or_pos n.toNat with e | e
  · exact absurd (BitVec.eq_of_toNat_eq (by rw [e]; rfl)) h
  · exact e
theorem md_nat {N : Nat} {n : BitVec 64} (h : ¬ n = 0#64) : (md N n).toNat = N % n.toNat := by
  unfold md
  rw [if_neg h, BitVec.toNat_ofNat]
  exact Nat.mod_eq_of_lt (Nat.lt_trans (Nat.mod_lt _ (pos_of_ne h)) n.isLt)
theorem md_zero (N : Nat) : md N 0#64 = 0#64 := by unfold md; rw [if_pos rfl]
theorem md_lt {N : Nat} {n : BitVec 64} (h : ¬ n = 0#64) : (md N n).toNat < n.toNat := by rw [md_nat h]; exact Nat.mod_lt _ (pos_of_ne h)
theorem md_eq {N : Nat} {n x : BitVec 64} (h : ¬ n = 0#64) (hx : x.toNat = N % n.toNat) : x = md N n := by
  apply BitVec.eq_of_toNat_eq; rw [md_nat h]; exact hx
theorem divR_md {hi lo b : BitVec 64} (h : ¬ b = 0#64) : divR (divR 0#64 hi b) lo b = md (two hi lo) b := by
  have hp := pos_of_ne h
  apply md_eq h
  rw [divR_nat hp]
  unfold two
  rw [divR_nat hp]
  unfold two
  rw [show (0#64).toNat = 0 from rfl, Nat.zero_mul, Nat.zero_add, Nat.add_mod, Nat.mul_mod, Nat.mod_mod, ← Nat.mul_mod, ← Nat.add_mod]
def hiN (N : Nat) : BitVec 64 := BitVec.ofNat 64 (N / 18446744073709551616)
def loN (N : Nat) : BitVec 64 := BitVec.ofNat 64 N
theorem two_parts (N : Nat) (h : N < 340282366920938463463374607431768211456) : two (hiN N) (loN N) = N := by
  unfold two hiN loN
  rw [BitVec.toNat_ofNat, BitVec.toNat_ofNat, Nat.mod_eq_of_lt (a := N / 18446744073709551616) (by omega)]
  omega
end Go.Bv
namespace Go.Bv
open Go Go.RowKit
set_option linter.unusedVariables false
theorem two_lt128 (a1 a0 : BitVec 64) : two a1 a0 < 2 ^ 128 := by
  have := a1.isLt; have := a0.isLt; unfold two; omega
theorem two_hi (a1 a0 : BitVec 64) : BitVec.ofNat 64 (two a1 a0 / 2 ^ 64) = a1 := by
  apply BitVec.eq_of_toNat_eq
  have := a1.isLt; have := a0.isLt
  rw [BitVec.toNat_ofNat]; unfold two; omega
theorem two_lo (a1 a0 : BitVec 64) : BitVec.ofNat 64 (two a1 a0) = a0 := by
  apply BitVec.eq_of_toNat_eq
  have := a1.isLt; have := a0.isLt
  rw [BitVec.toNat_ofNat]; unfold two; omega
theorem two_inj {a1 a0 b1 b0 : BitVec 64} : (a1 == b1 && a0 == b0) = decide (two a1 a0 = two b1 b0) := by
  rw [Bool.eq_iff_iff, Bool.and_eq_true, beq_iff_eq, beq_iff_eq, decide_eq_true_eq]
  constructor
  · rintro ⟨rfl, rfl⟩; rfl
  · intro h
    exact ⟨by rw [← two_hi a1 a0, h, two_hi], by rw [← two_lo a1 a0, h, two_lo]⟩
end Go.Bv
namespace Go.Proofs.YtfaobdmoifnglaaGreat
open Go.RowKit Go.Bv
set_option linter.unusedVariables false
theorem lo_zero : W64 0#64 = 0 := W64_lit 0 (by omega)
theorem add64_run (x y c : BitVec 64) (hc : c.toNat ≤ 1) (w : World) :
    (callFunc 44 #[.int .u64 (W64 x), .int .u64 (W64 y), .int .u64 (W64 c)]).run Tryz.prog w = .ok (.value (.tuple #[.int .u64 (W64 (loN (x.toNat + y.toNat + c.toNat))), .int .u64 (W64 (hiN (x.toNat + y.toNat + c.toNat)))])) w := by
  have hx := x.isLt
  have hy := y.isLt
  have e1 : (W64 x + W64 y + W64 c) % 18446744073709551616 = W64 (loN (x.toNat + y.toNat + c.toNat)) := by
    unfold W64 loN; rw [BitVec.toNat_ofNat]; omega
  have e2 : (W64 x + W64 y + W64 c) / 18446744073709551616 = W64 (hiN (x.toNat + y.toNat + c.toNat)) := by
    unfold W64 hiN; rw [BitVec.toNat_ofNat, Nat.mod_eq_of_lt (by omega)]; omega
  rw [run_callFunc_extern Tryz.func44 (by kernel_rfl) (by kernel_rfl) (by kernel_rfl) (e := add64Entry) (by kernel_rfl), run_add64 (W64 x) (W64 y) (W64 c) (nn64 x) (nn64 y) (nn64 c) (by unfold W64; omega), e1, e2]
  rfl
theorem add64_run0 (x y : BitVec 64) (w : World) :
    (callFunc 44 #[.int .u64 (W64 x), .int .u64 (W64 y), .int .u64 0]).run Tryz.prog w = .ok (.value (.tuple #[.int .u64 (W64 (loN (x.toNat + y.toNat))), .int .u64 (W64 (hiN (x.toNat + y.toNat)))])) w := by
  have h := add64_run x y 0#64 (by decide) w
  rw [show W64 0#64 = 0 from W64_lit 0 (by omega)] at h
  exact h
set_option maxHeartbeats 1000000 in
theorem wadd_any (a1 a0 b1 b0 : BitVec 64) (w : World) :
    Calls Tryz.prog 153 #[.agg #[.int .u64 (W64 a1), .int .u64 (W64 a0)], .agg #[.int .u64 (W64 b1), .int .u64 (W64 b0)]] w fun e w' =>
      e = .returned (.tuple #[.agg #[.int .u64 (W64 (loN (a1.toNat + b1.toNat + (hiN (a0.toNat + b0.toNat)).toNat))), .int .u64 (W64 (loN (a0.toNat + b0.toNat)))], .bool (hiN (a1.toNat + b1.toNat + (hiN (a0.toNat + b0.toNat)).toNat) == 1#64)]) ∧ New w w' := by
  have hc : (hiN (a0.toNat + b0.toNat)).toNat ≤ 1 := by
    have := a0.isLt; have := b0.isLt
    unfold hiN; rw [BitVec.toNat_ofNat]; omega
  have h1 := fun w => add64_run0 a0 b0 w
  have h2 := fun w => add64_run a1 b1 (hiN (a0.toNat + b0.toNat)) hc w
  clear hc
  generalize loN (a1.toNat + b1.toNat + (hiN (a0.toNat + b0.toNat)).toNat) = s1 at *
  generalize hiN (a1.toNat + b1.toNat + (hiN (a0.toNat + b0.toNat)).toNat) = o1 at *
  generalize hiN (a0.toNat + b0.toNat) = c1 at *
  generalize loN (a0.toNat + b0.toNat) = s0 at *
  go_enter Tryz.func153, Tryz.ntmps153
  go_wp2
  go_returns
  exact ⟨rfl, (((New.refl w).alloc _).alloc _).alloc _⟩
set_option maxHeartbeats 1000000 in
theorem wmul_any (x y : BitVec 64) (w : World) :
    Calls Tryz.prog 171 #[.int .u64 (W64 x), .int .u64 (W64 y)] w fun e w' =>
      e = .returned (.agg #[.int .u64 (W64 (hiN (x.toNat * y.toNat))), .int .u64 (W64 (loN (x.toNat * y.toNat)))]) ∧ New w w' := by
  have hx := x.isLt
  have hy := y.isLt
  have hm : ∀ w, Calls Tryz.prog 177 #[.int .u64 (W64 x), .int .u64 (W64 y)] w fun e w' => e = .returned (.tuple #[.int .u64 (W64 (hiN (x.toNat * y.toNat))), .int .u64 (W64 (loN (x.toNat * y.toNat)))]) ∧ w' = w := by
    intro w
    have h := Tryz.bits_Mul64 x.toNat y.toNat hx hy w
    have hl : x.toNat * y.toNat / 18446744073709551616 < 18446744073709551616 := by
      rw [Nat.div_lt_iff_lt_mul (by omega)]
      exact Nat.mul_lt_mul_of_lt_of_lt hx hy
    have e1 : ((x.toNat * y.toNat / 18446744073709551616 : Nat) : Int) = W64 (hiN (x.toNat * y.toNat)) := by
      unfold W64 hiN; rw [BitVec.toNat_ofNat, Nat.mod_eq_of_lt hl]
    have e2 : ((x.toNat * y.toNat % 18446744073709551616 : Nat) : Int) = W64 (loN (x.toNat * y.toNat)) := by
      unfold W64 loN; rw [BitVec.toNat_ofNat]
    rw [e1, e2] at h
    exact h
  have HM := Lib.hid hm
  clear hm hx hy
  go_enter Tryz.func171, Tryz.ntmps171
  go_wp2_with fail
  refine (HM.out _).mono ?_
  rintro e w' ⟨rfl, rfl⟩
  go_wp2
  go_returns
  exact ⟨rfl, (New.refl _).alloc _⟩
theorem wadd_two (a1 a0 b1 b0 : BitVec 64) (w : World) :
    Calls Tryz.prog 153 #[.agg #[.int .u64 (W64 a1), .int .u64 (W64 a0)], .agg #[.int .u64 (W64 b1), .int .u64 (W64 b0)]] w fun e w' =>
      e = .returned (.tuple #[.agg #[.int .u64 (W64 (BitVec.ofNat 64 ((two a1 a0 + two b1 b0) / 2 ^ 64))), .int .u64 (W64 (BitVec.ofNat 64 (two a1 a0 + two b1 b0)))], .bool (decide (2 ^ 128 ≤ two a1 a0 + two b1 b0))]) ∧ New w w' := by
  have h := wadd_any a1 a0 b1 b0 w
  have l1 := a1.isLt
  have l0 := a0.isLt
  have m1 := b1.isLt
  have m0 := b0.isLt
  have hc : (hiN (a0.toNat + b0.toNat)).toNat = (a0.toNat + b0.toNat) / 18446744073709551616 := by
    unfold hiN; rw [BitVec.toNat_ofNat, Nat.mod_eq_of_lt (by omega)]
  have e1 : loN (a1.toNat + b1.toNat + (hiN (a0.toNat + b0.toNat)).toNat) = BitVec.ofNat 64 ((two a1 a0 + two b1 b0) / 2 ^ 64) := by
    rw [hc]; unfold loN two; congr 1; omega
  have e0 : loN (a0.toNat + b0.toNat) = BitVec.ofNat 64 (two a1 a0 + two b1 b0) := by
    unfold loN two; apply BitVec.eq_of_toNat_eq; rw [BitVec.toNat_ofNat, BitVec.toNat_ofNat]; omega
  have eo : (hiN (a1.toNat + b1.toNat + (hiN (a0.toNat + b0.toNat)).toNat) == 1#64) = decide (2 ^ 128 ≤ two a1 a0 + two b1 b0) := by
    rw [hc, Bool.eq_iff_iff, beq_iff_eq, decide_eq_true_eq]
    unfold hiN two
    constructor
    · intro e
      have := congrArg BitVec.toNat e
      rw [BitVec.toNat_ofNat, show (1#64).toNat = 1 from rfl] at this
      omega
    · intro e
      apply BitVec.eq_of_toNat_eq
      rw [BitVec.toNat_ofNat, show (1#64).toNat = 1 from rfl]
      omega
  rw [e1, e0, eo] at h
  exact h
theorem fields128 : ((Tryz.prog.fieldsOf 74).toList.map fun f => (f.type, f.offset, decide (f.name = "_"))) = [(22, 0, false), (22, 1, false)] := by kernel_rfl
theorem plain_u64 : Tryz.prog.plainKey 22 = true := by kernel_rfl
theorem equ128 (w : World) (x1 x0 y1 y0 : BitVec 64) :
    (Op.equalIn 10000 74 (.agg #[.int .u64 (W64 x1), .int .u64 (W64 x0)]) (.agg #[.int .u64 (W64 y1), .int .u64 (W64 y0)])).run Tryz.prog w = .ok (x1 == y1 && x0 == y0) w := by
  have hu := Tryz.underlying22
  have g1 := run_equalIn_int (w := w) 9998 _ .u64 .u64 (W64 x1) (W64 y1) hu
  have g0 := run_equalIn_int (w := w) 9998 _ .u64 .u64 (W64 x0) (W64 y0) hu
  rw [eq_u64] at g0 g1
  have e1 := run_part_plain (w := w) (v := .int .u64 (W64 x1)) plain_u64 (xs := #[.int .u64 (W64 x1), .int .u64 (W64 x0)]) (off := 0) rfl
  have e0 := run_part_plain (w := w) (v := .int .u64 (W64 x0)) plain_u64 (xs := #[.int .u64 (W64 x1), .int .u64 (W64 x0)]) (off := 1) rfl
  have f1 := run_part_plain (w := w) (v := .int .u64 (W64 y1)) plain_u64 (xs := #[.int .u64 (W64 y1), .int .u64 (W64 y0)]) (off := 0) rfl
  have f0 := run_part_plain (w := w) (v := .int .u64 (W64 y0)) plain_u64 (xs := #[.int .u64 (W64 y1), .int .u64 (W64 y0)]) (off := 1) rfl
  rw [run_equalIn_struct w 9999 _ _ _ (by kernel_rfl) (by kernel_rfl)]
  have hfs := fields128
  generalize (Tryz.prog.fieldsOf 74).toList = fs at hfs
  obtain ⟨a, l1, rfl, ha, h1⟩ := List.map_eq_cons_iff.1 hfs
  obtain ⟨b, l2, rfl, hb, h2⟩ := List.map_eq_cons_iff.1 h1
  obtain rfl := List.map_eq_nil_iff.1 h2
  simp only [Prod.mk.injEq, decide_eq_false_iff_not] at ha hb
  obtain ⟨t1, o1, n1⟩ := ha
  obtain ⟨t2, o2, n2⟩ := hb
  simp only [Op.eqFields, t1, o1, n1, t2, o2, n2, ne_eq, not_false_eq_true, if_true, Sem.run_bind, e1, f1, g1, Result.andThen_ok]
  rcases h1 : x1 == y1 <;> rcases h0 : x0 == y0 <;> rw [h0] at g0 <;> simp [Sem.run_bind, e0, f0, g0]
end Go.Proofs.YtfaobdmoifnglaaGreat
end
section
/- Contracts of wide.Times and wide.Full: for all numbers of two words. · Contracts of wide.Shl and wide.Shr: for all numbers of two words, all counts. -/
namespace Go.Bv
open Go Go.RowKit
theorem times_hi (a1 a0 b1 b0 : BitVec 64) : hiN (a0.toNat * b0.toNat) + (a1 * b0 + a0 * b1) = BitVec.ofNat 64 (two a1 a0 * two b1 b0 / 2 ^ 64) := by
  have e : two a1 a0 * two b1 b0 = 2 ^ 64 * (a1.toNat * b0.toNat + a0.toNat * b1.toNat + 2 ^ 64 * (a1.toNat * b1.toNat)) + a0.toNat * b0.toNat := by
    unfold two
    rw [show (18446744073709551616 : Nat) = 2 ^ 64 from rfl]
    generalize (2 : Nat) ^ 64 = k
    grind
  rw [e, Nat.mul_add_div (Nat.two_pow_pos 64)]
  unfold hiN
  rw [show (18446744073709551616 : Nat) = 2 ^ 64 from rfl]
  generalize a0.toNat * b0.toNat / 2 ^ 64 = q
  apply BitVec.eq_of_toNat_eq
  rw [BitVec.toNat_add, BitVec.toNat_add, BitVec.toNat_mul, BitVec.toNat_mul, BitVec.toNat_ofNat, BitVec.toNat_ofNat]
  generalize a1.toNat * b0.toNat = x
  generalize a0.toNat * b1.toNat = y
  generalize a1.toNat * b1.toNat = z
  omega
theorem times_lo (a1 a0 b1 b0 : BitVec 64) : loN (a0.toNat * b0.toNat) = BitVec.ofNat 64 (two a1 a0 * two b1 b0) := by
  have e : two a1 a0 * two b1 b0 = 2 ^ 64 * (a1.toNat * b0.toNat + a0.toNat * b1.toNat + 2 ^ 64 * (a1.toNat * b1.toNat)) + a0.toNat * b0.toNat := by
    unfold two
    rw [show (18446744073709551616 : Nat) = 2 ^ 64 from rfl]
    generalize (2 : Nat) ^ 64 = k
    grind
  unfold loN
  apply BitVec.eq_of_toNat_eq
  rw [BitVec.toNat_ofNat, BitVec.toNat_ofNat, e, Nat.mul_add_mod]
theorem three_blocks (w : World) (A B C : Obj) : ((((w.alloc A).alloc B).alloc C).heap[w.heap.size]? = some A) ∧ ((((w.alloc A).alloc B).alloc C).heap[w.heap.size + 1]? = some B) ∧ ((((w.alloc A).alloc B).alloc C).heap[w.heap.size + 1 + 1]? = some C) ∧ New w (((w.alloc A).alloc B).alloc C) := by
  have e1 : (w.alloc A).heap.size = w.heap.size + 1 := by simp
  have e2 : ((w.alloc A).alloc B).heap.size = w.heap.size + 1 + 1 := by simp
  refine ⟨?_, ?_, ?_, (((New.refl w).alloc _).alloc _).alloc _⟩
  · rw [(((New.refl (w.alloc A)).alloc B).alloc C).block _ (by rw [e1]; omega)]; exact heap_alloc_new _ _
  · rw [((New.refl ((w.alloc A).alloc B)).alloc C).block _ (by rw [e2]; omega), ← e1]; exact heap_alloc_new _ _
  · rw [← e2]; exact heap_alloc_new _ _
end Go.Bv
namespace Go.Proofs.YtfaobdmoifnglaaGreat
open Go.RowKit Go.Bv
set_option linter.unusedVariables false
set_option maxRecDepth 100000
set_option maxHeartbeats 1000000 in
theorem wtimes_two (a1 a0 b1 b0 : BitVec 64) (w : World) :
    Calls Tryz.prog 156 #[.agg #[.int .u64 (W64 a1), .int .u64 (W64 a0)], .agg #[.int .u64 (W64 b1), .int .u64 (W64 b0)]] w fun e w' =>
      e = .returned (.agg #[.int .u64 (W64 (BitVec.ofNat 64 (two a1 a0 * two b1 b0 / 2 ^ 64))), .int .u64 (W64 (BitVec.ofNat 64 (two a1 a0 * two b1 b0)))]) ∧ New w w' := by
  have HH := Lib.hid (times_hi a1 a0 b1 b0)
  have hL := times_lo a1 a0 b1 b0
  have hm := fun w => wmul_any a0 b0 w
  rw [hL] at hm
  have HM := Lib.hid hm
  clear hm hL
  generalize BitVec.ofNat 64 (two a1 a0 * two b1 b0) = y0 at *
  generalize BitVec.ofNat 64 (two a1 a0 * two b1 b0 / 2 ^ 64) = y1 at *
  generalize hiN (a0.toNat * b0.toNat) = p1 at *
  go_enter Tryz.func156, Tryz.ntmps156
  go_wp2_with fail
  obtain ⟨hA, hB, hC, hN⟩ := three_blocks w (.cells #[.int .u64 (W64 a1), .int .u64 (W64 a0)] 74) (.cells #[.int .u64 (W64 b1), .int .u64 (W64 b0)] 74) (.cells #[.int .u64 0, .int .u64 0] 74)
  generalize ((w.alloc (.cells #[.int .u64 (W64 a1), .int .u64 (W64 a0)] 74)).alloc (.cells #[.int .u64 (W64 b1), .int .u64 (W64 b0)] 74)).alloc (.cells #[.int .u64 0, .int .u64 0] 74) = w0 at hA hB hC hN ⊢
  refine (HM.out _).mono ?_
  rintro e w1 ⟨rfl, hn1⟩
  have hn2 := hn1.alloc (.cells #[.int .u64 (W64 p1), .int .u64 (W64 y0)] 74)
  have hA2 := (hn2.block _ (lt_of_block hA)).trans hA
  have hB2 := (hn2.block _ (lt_of_block hB)).trans hB
  have hn3 := hn1.alloc (.cells #[.int .u64 (W64 (p1 + (a1 * b0 + a0 * b1))), .int .u64 (W64 y0)] 74)
  have hC2 := (hn3.block _ (lt_of_block hC)).trans hC
  have k0 : (w1.alloc (.cells #[.int .u64 (W64 (p1 + (a1 * b0 + a0 * b1))), .int .u64 (W64 y0)] 74)).cell? ⟨w.heap.size + 1 + 1, 0, none⟩ = some (.int .u64 0) := by rw [cell_of_row _ _ _ _ _ _ hC2]; rfl
  have k1 : (w1.alloc (.cells #[.int .u64 (W64 (p1 + (a1 * b0 + a0 * b1))), .int .u64 (W64 y0)] 74)).cell? ⟨w.heap.size + 1 + 1, 1, none⟩ = some (.int .u64 0) := by rw [cell_of_row _ _ _ _ _ _ hC2]; rfl
  have kf := fun i => frozen_of_row _ (w.heap.size + 1 + 1) i _ _ hC2
  have hg : w1.heap.size ≠ w.heap.size + 1 + 1 := by have := lt_of_block hC; have := hn1.le; omega
  have HN := Lib.hid (hN.trans hn3)
  clear hA hB hC hN hn1 hn2 hn3
  have a_0 : (w1.alloc (.cells #[.int .u64 (W64 p1), .int .u64 (W64 y0)] 74)).cell? ⟨w.heap.size, 0, none⟩ = some (.int .u64 (W64 a1)) := by rw [cell_of_row _ _ _ _ _ _ hA2]; rfl
  have a_1 : (w1.alloc (.cells #[.int .u64 (W64 p1), .int .u64 (W64 y0)] 74)).cell? ⟨w.heap.size, 1, none⟩ = some (.int .u64 (W64 a0)) := by rw [cell_of_row _ _ _ _ _ _ hA2]; rfl
  have b_0 : (w1.alloc (.cells #[.int .u64 (W64 p1), .int .u64 (W64 y0)] 74)).cell? ⟨w.heap.size + 1, 0, none⟩ = some (.int .u64 (W64 b1)) := by rw [cell_of_row _ _ _ _ _ _ hB2]; rfl
  have b_1 : (w1.alloc (.cells #[.int .u64 (W64 p1), .int .u64 (W64 y0)] 74)).cell? ⟨w.heap.size + 1, 1, none⟩ = some (.int .u64 (W64 b0)) := by rw [cell_of_row _ _ _ _ _ _ hB2]; rfl
  clear hA2 hB2 hC2
  go_wp2
  refine bodyPost_ret (by simp [results, Tryz.results156, go_sem, k0, k1]; try rfl) rfl ?_
  rw [HH.out] at HN ⊢
  exact ⟨rfl, ((HN.out.setCell (by show _ ≤ w.heap.size + 1 + 1; omega) _).setCell (by show _ ≤ w.heap.size + 1 + 1; omega) _)⟩
end Go.Proofs.YtfaobdmoifnglaaGreat
namespace Go.Bv
open Go Go.RowKit
theorem two_bit (a1 a0 : BitVec 64) (j : Nat) : (two a1 a0).testBit j = if j < 64 then a0.getLsbD j else a1.getLsbD (j - 64) := by
  unfold two
  rw [Nat.mul_comm, show (18446744073709551616 : Nat) = 2 ^ 64 from rfl, Nat.testBit_two_pow_mul_add _ a0.isLt]
  rfl
theorem get_high (a : BitVec 64) (j : Nat) (h : 64 ≤ j) : a.getLsbD j = false := BitVec.getLsbD_of_ge a j h
theorem shl_hi (a1 a0 : BitVec 64) (m i : Nat) (hi : i < 64) : (BitVec.ofNat 64 (two a1 a0 * 2 ^ m / 2 ^ 64)).getLsbD i = (decide (m ≤ 64 + i) && if 64 + i - m < 64 then a0.getLsbD (64 + i - m) else a1.getLsbD (64 + i - m - 64)) := by
  rw [BitVec.getLsbD_ofNat, ← Nat.shiftRight_eq_div_pow, ← Nat.shiftLeft_eq, Nat.testBit_shiftRight, Nat.testBit_shiftLeft, two_bit, decide_eq_true hi, Bool.true_and]
theorem shl_lo (a1 a0 : BitVec 64) (m i : Nat) (hi : i < 64) : (BitVec.ofNat 64 (two a1 a0 * 2 ^ m)).getLsbD i = (decide (m ≤ i) && a0.getLsbD (i - m)) := by
  rw [BitVec.getLsbD_ofNat, ← Nat.shiftLeft_eq, Nat.testBit_shiftLeft, two_bit, decide_eq_true hi, Bool.true_and, if_pos (by omega)]
theorem shr_hi (a1 a0 : BitVec 64) (m i : Nat) (hi : i < 64) : (BitVec.ofNat 64 (two a1 a0 / 2 ^ m / 2 ^ 64)).getLsbD i = a1.getLsbD (m + i) := by
  rw [BitVec.getLsbD_ofNat, ← Nat.shiftRight_eq_div_pow, ← Nat.shiftRight_eq_div_pow, Nat.testBit_shiftRight, Nat.testBit_shiftRight, two_bit, decide_eq_true hi, Bool.true_and, if_neg (by omega), show m + (64 + i) - 64 = m + i by omega]
theorem shr_lo (a1 a0 : BitVec 64) (m i : Nat) (hi : i < 64) : (BitVec.ofNat 64 (two a1 a0 / 2 ^ m)).getLsbD i = if m + i < 64 then a0.getLsbD (m + i) else a1.getLsbD (m + i - 64) := by
  rw [BitVec.getLsbD_ofNat, ← Nat.shiftRight_eq_div_pow, Nat.testBit_shiftRight, two_bit, decide_eq_true hi, Bool.true_and]
theorem shl_far_hi (a1 a0 : BitVec 64) (K m : Nat) (hK : 64 ≤ K) (hm : min K 128 = m) : a0 <<< (K - 64) = BitVec.ofNat 64 (two a1 a0 * 2 ^ m / 2 ^ 64) := by
  apply BitVec.eq_of_getLsbD_eq
  intro i hi
  rw [shl_hi _ _ _ _ hi, BitVec.getLsbD_shiftLeft, decide_eq_true hi, Bool.true_and]
  by_cases h : i < K - 64
  · rw [decide_eq_true h, decide_eq_false (by omega)]; rfl
  · rw [decide_eq_false h, decide_eq_true (by omega), if_pos (by omega), show i - (K - 64) = 64 + i - m by omega]; rfl
theorem shl_far_lo (a1 a0 : BitVec 64) (K m : Nat) (hK : 64 ≤ K) (hm : min K 128 = m) : 0#64 = BitVec.ofNat 64 (two a1 a0 * 2 ^ m) := by
  apply BitVec.eq_of_getLsbD_eq
  intro i hi
  rw [shl_lo _ _ _ _ hi, decide_eq_false (by omega), BitVec.getLsbD_zero, Bool.false_and]
theorem shl_near_hi (a1 a0 : BitVec 64) (K : Nat) (hK : ¬ 64 ≤ K) : a1 <<< K ||| a0 >>> (64 - K) = BitVec.ofNat 64 (two a1 a0 * 2 ^ K / 2 ^ 64) := by
  apply BitVec.eq_of_getLsbD_eq
  intro i hi
  rw [shl_hi _ _ _ _ hi, BitVec.getLsbD_or, BitVec.getLsbD_shiftLeft, BitVec.getLsbD_ushiftRight, decide_eq_true hi, Bool.true_and, decide_eq_true (show K ≤ 64 + i by omega), Bool.true_and]
  by_cases h : i < K
  · rw [decide_eq_true h, if_pos (by omega), show 64 - K + i = 64 + i - K by omega]; rfl
  · rw [decide_eq_false h, if_neg (by omega), get_high a0 _ (by omega), show 64 + i - K - 64 = i - K by omega, Bool.or_false]; rfl
theorem shl_near_lo (a1 a0 : BitVec 64) (K : Nat) : a0 <<< K = BitVec.ofNat 64 (two a1 a0 * 2 ^ K) := by
  apply BitVec.eq_of_getLsbD_eq
  intro i hi
  rw [shl_lo _ _ _ _ hi, BitVec.getLsbD_shiftLeft, decide_eq_true hi, Bool.true_and]
  by_cases h : i < K
  · rw [decide_eq_true h, decide_eq_false (by omega)]; rfl
  · rw [decide_eq_false h, decide_eq_true (by omega)]; rfl
theorem shr_far_hi (a1 a0 : BitVec 64) (K m : Nat) (hK : 64 ≤ K) (hm : min K 128 = m) : 0#64 = BitVec.ofNat 64 (two a1 a0 / 2 ^ m / 2 ^ 64) := by
  apply BitVec.eq_of_getLsbD_eq
  intro i hi
  rw [shr_hi _ _ _ _ hi, BitVec.getLsbD_zero, get_high _ _ (by omega)]
theorem shr_far_lo (a1 a0 : BitVec 64) (K m : Nat) (hK : 64 ≤ K) (hm : min K 128 = m) : a1 >>> (K - 64) = BitVec.ofNat 64 (two a1 a0 / 2 ^ m) := by
  apply BitVec.eq_of_getLsbD_eq
  intro i hi
  rw [shr_lo _ _ _ _ hi, BitVec.getLsbD_ushiftRight, if_neg (by omega)]
  by_cases h : K ≤ 128
  · rw [show K - 64 + i = m + i - 64 by omega]
  · rw [get_high _ _ (by omega), get_high _ _ (by omega)]
theorem shr_near_hi (a1 a0 : BitVec 64) (K : Nat) : a1 >>> K = BitVec.ofNat 64 (two a1 a0 / 2 ^ K / 2 ^ 64) := by
  apply BitVec.eq_of_getLsbD_eq
  intro i hi
  rw [shr_hi _ _ _ _ hi, BitVec.getLsbD_ushiftRight]
theorem shr_near_lo (a1 a0 : BitVec 64) (K : Nat) (hK : ¬ 64 ≤ K) : a0 >>> K ||| a1 <<< (64 - K) = BitVec.ofNat 64 (two a1 a0 / 2 ^ K) := by
  apply BitVec.eq_of_getLsbD_eq
  intro i hi
  rw [shr_lo _ _ _ _ hi, BitVec.getLsbD_or, BitVec.getLsbD_shiftLeft, BitVec.getLsbD_ushiftRight, decide_eq_true hi, Bool.true_and]
  by_cases h : K + i < 64
  · rw [if_pos h, decide_eq_true (show i < 64 - K by omega), Bool.not_true, Bool.false_and, Bool.or_false]
  · rw [if_neg h, get_high a0 _ (by omega), decide_eq_false (show ¬ i < 64 - K by omega), show i - (64 - K) = K + i - 64 by omega]; rfl
end Go.Bv
namespace Go.Proofs.YtfaobdmoifnglaaGreat
open Go.RowKit Go.Bv
set_option linter.unusedVariables false
theorem count_any (n : Int) (w : World) :
    Calls Tryz.prog 152 #[.int .i64 n] w fun e w' => e = .returned (.int .u64 (W64 (BitVec.ofInt 64 (max n 0)))) ∧ w' = w := by
  go_enter Tryz.func152, Tryz.ntmps152
  go_wp2
  all_goals (
    go_ret
    first
      | exact ⟨rfl, rfl⟩
      | (rw [show max n 0 = 0 by omega]; exact ⟨rfl, rfl⟩)
      | (rw [show max n 0 = n by omega]; exact ⟨rfl, rfl⟩))
set_option maxHeartbeats 1000000 in
theorem wshl_two (a1 a0 : BitVec 64) (n : Int) (K m : Nat) (hK : max n 0 = (K : Int)) (hn : n ≤ 9223372036854775807) (hm : min K 128 = m) (w : World) :
    Calls Tryz.prog 119 #[.agg #[.int .u64 (W64 a1), .int .u64 (W64 a0)], .int .i64 n] w fun e w' =>
      e = .returned (.agg #[.int .u64 (W64 (BitVec.ofNat 64 (two a1 a0 * 2 ^ m / 2 ^ 64))), .int .u64 (W64 (BitVec.ofNat 64 (two a1 a0 * 2 ^ m)))]) ∧ New w w' := by
  have hc := fun w => count_any n w
  rw [hK, BitVec.ofInt_natCast] at hc
  have hkb : (BitVec.ofNat 64 K).toNat = K := by rw [BitVec.toNat_ofNat]; omega
  have HC := Lib.hid hc
  clear hc
  generalize BitVec.ofNat 64 K = kb at *
  by_cases h64 : 64 ≤ K
  · have hge : decide (64 ≤ W64 kb) = true := decide_eq_true (by unfold W64; omega)
    have hs : N64 (kb - 64#64) = K - 64 := by show (kb - 64#64).toNat = _; rw [BitVec.toNat_sub]; show (2 ^ 64 - 64 + kb.toNat) % 2 ^ 64 = _; omega
    have HH := Lib.hid (shl_far_hi a1 a0 K m h64 hm)
    have HL := Lib.hid (shl_far_lo a1 a0 K m h64 hm)
    have H0 := Lib.hid lo_zero
    clear h64 hm hkb
    go_enter Tryz.func119, Tryz.ntmps119
    go_wp2_with fail
    refine (HC.out _).mono ?_
    rintro e w1 ⟨rfl, rfl⟩
    go_wp2
    go_returns
    rw [← HH.out, ← HL.out, H0.out]
    exact ⟨rfl, ((New.refl _).alloc _).alloc _⟩
  · have hge : decide (64 ≤ W64 kb) = false := decide_eq_false (by unfold W64; omega)
    have hs : N64 (64#64 - kb) = 64 - K := by show (64#64 - kb).toNat = _; rw [BitVec.toNat_sub]; show (2 ^ 64 - kb.toNat + 64) % 2 ^ 64 = _; omega
    have hk : N64 kb = K := hkb
    obtain rfl : m = K := by omega
    have HH := Lib.hid (shl_near_hi a1 a0 m h64)
    have HL := Lib.hid (shl_near_lo a1 a0 m)
    clear h64 hm hkb
    go_enter Tryz.func119, Tryz.ntmps119
    go_wp2_with fail
    refine (HC.out _).mono ?_
    rintro e w1 ⟨rfl, rfl⟩
    go_wp2
    go_returns
    rw [← HH.out, ← HL.out]
    exact ⟨rfl, ((New.refl _).alloc _).alloc _⟩
set_option maxHeartbeats 1000000 in
theorem wshr_two (a1 a0 : BitVec 64) (n : Int) (K m : Nat) (hK : max n 0 = (K : Int)) (hn : n ≤ 9223372036854775807) (hm : min K 128 = m) (w : World) :
    Calls Tryz.prog 126 #[.agg #[.int .u64 (W64 a1), .int .u64 (W64 a0)], .int .i64 n] w fun e w' =>
      e = .returned (.agg #[.int .u64 (W64 (BitVec.ofNat 64 (two a1 a0 / 2 ^ m / 2 ^ 64))), .int .u64 (W64 (BitVec.ofNat 64 (two a1 a0 / 2 ^ m)))]) ∧ New w w' := by
  have hc := fun w => count_any n w
  rw [hK, BitVec.ofInt_natCast] at hc
  have hkb : (BitVec.ofNat 64 K).toNat = K := by rw [BitVec.toNat_ofNat]; omega
  have HC := Lib.hid hc
  clear hc
  generalize BitVec.ofNat 64 K = kb at *
  by_cases h64 : 64 ≤ K
  · have hge : decide (64 ≤ W64 kb) = true := decide_eq_true (by unfold W64; omega)
    have hs : N64 (kb - 64#64) = K - 64 := by show (kb - 64#64).toNat = _; rw [BitVec.toNat_sub]; show (2 ^ 64 - 64 + kb.toNat) % 2 ^ 64 = _; omega
    have HH := Lib.hid (shr_far_hi a1 a0 K m h64 hm)
    have HL := Lib.hid (shr_far_lo a1 a0 K m h64 hm)
    have H0 := Lib.hid lo_zero
    clear h64 hm hkb
    go_enter Tryz.func126, Tryz.ntmps126
    go_wp2_with fail
    refine (HC.out _).mono ?_
    rintro e w1 ⟨rfl, rfl⟩
    go_wp2
    go_returns
    rw [← HH.out, ← HL.out, H0.out]
    exact ⟨rfl, ((New.refl _).alloc _).alloc _⟩
  · have hge : decide (64 ≤ W64 kb) = false := decide_eq_false (by unfold W64; omega)
    have hs : N64 (64#64 - kb) = 64 - K := by show (64#64 - kb).toNat = _; rw [BitVec.toNat_sub]; show (2 ^ 64 - kb.toNat + 64) % 2 ^ 64 = _; omega
    have hk : N64 kb = K := hkb
    obtain rfl : m = K := by omega
    have HH := Lib.hid (shr_near_hi a1 a0 m)
    have HL := Lib.hid (shr_near_lo a1 a0 m h64)
    clear h64 hm hkb
    go_enter Tryz.func126, Tryz.ntmps126
    go_wp2_with fail
    refine (HC.out _).mono ?_
    rintro e w1 ⟨rfl, rfl⟩
    go_wp2
    go_returns
    rw [← HH.out, ← HL.out]
    exact ⟨rfl, ((New.refl _).alloc _).alloc _⟩
end Go.Proofs.YtfaobdmoifnglaaGreat
end
