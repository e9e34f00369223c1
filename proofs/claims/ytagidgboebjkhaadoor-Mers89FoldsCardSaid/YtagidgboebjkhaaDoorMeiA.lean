/- Contracts of mers89: P, Is, plus, reduce, Add, Sub, Fold, Mul: for all numbers. -/
import Derived.Test.YtagidgboebjkhaaDoorNum
import Derived.Test.YtagidgboebjkhaaDoorWidG
import Derived.Test.YtagidgboebjkhaaDoorFer
import Derived.Test.YtagidgboebjkhaaDoorClass
import Derived.Deep.RegionLaw
import Derived.Deep.RegionWith
namespace Go.Bv
open Go Go.RowKit
set_option linter.unusedVariables false
set_option linter.unusedSimpArgs false
def p89 : BitVec 128 := 618970019642690137449562111#128
/-- a number modulo the prime -/
def m89 (N : Nat) : BitVec 128 := BitVec.ofNat 128 (N % 618970019642690137449562111)
theorem p89_nat : p89.toNat = 618970019642690137449562111 := by decide +kernel
theorem m89_nat (N : Nat) : (m89 N).toNat = N % 618970019642690137449562111 := by
  unfold m89; rw [BitVec.toNat_ofNat]; exact Nat.mod_eq_of_lt (by omega)
theorem m89_lt (N : Nat) : (m89 N).toNat < 618970019642690137449562111 := by rw [m89_nat]; omega
theorem m89_mod (N : Nat) : m89 (N % 618970019642690137449562111) = m89 N := by unfold m89; rw [Nat.mod_mod]
theorem m89_congr {N M : Nat} (h : N % 618970019642690137449562111 = M % 618970019642690137449562111) : m89 N = m89 M := by unfold m89; rw [h]
theorem p89_hi : W64 (hi128 p89) = 33554431 := by unfold W64; decide +kernel
theorem p89_lo : W64 (lo128 p89) = 18446744073709551615 := by unfold W64; decide +kernel
theorem zhi : W64 (hi128 0#128) = 0 := by unfold W64; decide +kernel
theorem zlo : W64 (lo128 0#128) = 0 := by unfold W64; decide +kernel
/-- the lowest 89 bits -/
def low89 (x : BitVec 128) : BitVec 128 := x &&& p89
theorem low89_nat (x : BitVec 128) : (low89 x).toNat = x.toNat % 618970019642690137449562112 := by
  unfold low89
  rw [BitVec.toNat_and, p89_nat, show (618970019642690137449562111 : Nat) = 2 ^ 89 - 1 from by decide +kernel, Nat.and_two_pow_sub_one_eq_mod]
theorem hi_and (x y : BitVec 128) : hi128 (x &&& y) = hi128 x &&& hi128 y := by
  unfold hi128; apply BitVec.eq_of_getLsbD_eq; intro i hi; simp [hi]
theorem lo_and (x y : BitVec 128) : lo128 (x &&& y) = lo128 x &&& lo128 y := by
  unfold lo128; apply BitVec.eq_of_getLsbD_eq; intro i hi; simp [hi]
theorem low_hi (x : BitVec 128) : hi128 x &&& 33554431#64 = hi128 (low89 x) := by
  unfold low89; rw [hi_and, show hi128 p89 = 33554431#64 by decide +kernel]
theorem low_lo (x : BitVec 128) : lo128 (low89 x) = lo128 x := by
  unfold low89; rw [lo_and, show lo128 p89 = BitVec.allOnes 64 by decide +kernel, BitVec.and_allOnes]
theorem red_sum (x : BitVec 128) : (low89 x + x >>> 89).toNat % 618970019642690137449562111 = x.toNat % 618970019642690137449562111 ∧ (low89 x + x >>> 89).toNat < 2 * 618970019642690137449562111 := by
  have h := x.isLt
  have e : (low89 x + x >>> 89).toNat = x.toNat % 618970019642690137449562112 + x.toNat / 618970019642690137449562112 := by
    rw [BitVec.toNat_add, low89_nat, BitVec.toNat_ushiftRight, Nat.shiftRight_eq_div_pow, show (2 : Nat) ^ 89 = 618970019642690137449562112 from by decide +kernel]
    apply Nat.mod_eq_of_lt
    omega
  rw [e]
  constructor
  · have h1 := Nat.div_add_mod x.toNat 618970019642690137449562112
    omega
  · omega
/-- a part of a number of 256 bits -/
def part89 (X : BitVec 256) (i : Nat) : BitVec 128 := (X.extractLsb' (89 * i) 89).setWidth 128
theorem part_nat (X : BitVec 256) (i : Nat) : (part89 X i).toNat = X.toNat / 2 ^ (89 * i) % 618970019642690137449562112 := by
  unfold part89
  rw [BitVec.toNat_setWidth, BitVec.extractLsb'_toNat, Nat.shiftRight_eq_div_pow, show (2 : Nat) ^ 89 = 618970019642690137449562112 from by decide +kernel]
  apply Nat.mod_eq_of_lt; omega
theorem parts_sum (X : BitVec 256) : m89 (part89 X 0 + part89 X 1 + part89 X 2).toNat = m89 X.toNat := by
  apply m89_congr
  have h := X.isLt
  have e0 := part_nat X 0
  have e1 := part_nat X 1
  have e2 := part_nat X 2
  rw [show (2 : Nat) ^ (89 * 0) = 1 from rfl, Nat.div_one] at e0
  rw [show (2 : Nat) ^ (89 * 1) = 618970019642690137449562112 from by decide +kernel] at e1
  rw [show (2 : Nat) ^ (89 * 2) = 618970019642690137449562112 * 618970019642690137449562112 from by decide +kernel, ← Nat.div_div_eq_div_mul] at e2
  have hd : X.toNat / 618970019642690137449562112 / 618970019642690137449562112 < 618970019642690137449562112 := by
    apply Nat.div_lt_of_lt_mul; apply Nat.div_lt_of_lt_mul; omega
  rw [Nat.mod_eq_of_lt hd] at e2
  have hx : X.toNat = 618970019642690137449562112 * (618970019642690137449562112 * (X.toNat / 618970019642690137449562112 / 618970019642690137449562112) + X.toNat / 618970019642690137449562112 % 618970019642690137449562112) + X.toNat % 618970019642690137449562112 := by
    rw [Nat.div_add_mod, Nat.div_add_mod]
  rw [← e0, ← e1, ← e2] at hx
  have hl0 : (part89 X 0).toNat < 618970019642690137449562112 := by rw [e0]; omega
  have hl1 : (part89 X 1).toNat < 618970019642690137449562112 := by rw [e1]; omega
  have hl2 : (part89 X 2).toNat < 618970019642690137449562112 := by rw [e2]; exact hd
  clear e0 e1 e2 hd h
  rw [BitVec.toNat_add, BitVec.toNat_add]
  generalize (part89 X 0).toNat = a at *
  generalize (part89 X 1).toNat = b at *
  generalize (part89 X 2).toNat = c at *
  have e : 618970019642690137449562112 * (618970019642690137449562112 * c + b) + a = (a + b + c) + 618970019642690137449562111 * (b + 618970019642690137449562113 * c) := by omega
  have hs : ((a + b) % 2 ^ 128 + c) % 2 ^ 128 = a + b + c := by
    rw [Nat.mod_eq_of_lt (a := a + b) (by omega)]; exact Nat.mod_eq_of_lt (by omega)
  rw [hs, hx, e, Nat.add_mul_mod_self_left]
theorem part_hi0 (X : BitVec 256) : (X.extractLsb' 64 64 >>> 0 ||| X.extractLsb' 128 64 <<< 64) &&& 33554431#64 = hi128 (part89 X 0) := by
  apply BitVec.eq_of_getLsbD_eq
  intro j hj
  have hm : (33554431#64).getLsbD j = decide (j < 25) := by
    rw [show (33554431#64) = BitVec.ofNat 64 (2 ^ 25 - 1) from by decide +kernel, BitVec.getLsbD_ofNat, Nat.testBit_two_pow_sub_one]; simp [hj]
  unfold hi128 part89
  rw [BitVec.getLsbD_and, hm, BitVec.getLsbD_or, BitVec.getLsbD_ushiftRight, BitVec.getLsbD_shiftLeft]
  simp only [BitVec.getLsbD_extractLsb', BitVec.getLsbD_setWidth, BitVec.getLsbD_zero, hj, decide_true, Bool.true_and, Bool.and_true, Bool.and_false, Bool.or_false]
  by_cases h25 : j < 25
  · simp only [h25, decide_true, Bool.and_true]
    by_cases hc : 0 + j < 64
    · have h2 : j < 64 := by omega
      simp only [hc, h2, show 64 + j < 89 by omega, show 64 + j < 128 by omega, decide_true, decide_false, Bool.true_and, Bool.false_and, Bool.not_true, Bool.or_false, Bool.and_true, Bool.not_false]
      try congr 1
      try omega
    · have h2 : ¬ j < 64 := by omega
      simp only [hc, h2, show 64 + j < 89 by omega, show 64 + j < 128 by omega, show j - 64 < 64 by omega, decide_true, decide_false, Bool.true_and, Bool.false_and, Bool.not_true, Bool.not_false, Bool.false_or, Bool.and_true]
      try congr 1
      try omega
      try exact (BitVec.getLsbD_of_ge _ _ (by omega)).symm
  · simp only [h25, decide_false, Bool.and_false, show ¬ 64 + j < 89 by omega, Bool.false_and]
theorem part_hi1 (X : BitVec 256) : (X.extractLsb' 128 64 >>> 25 ||| X.extractLsb' 192 64 <<< 39) &&& 33554431#64 = hi128 (part89 X 1) := by
  apply BitVec.eq_of_getLsbD_eq
  intro j hj
  have hm : (33554431#64).getLsbD j = decide (j < 25) := by
    rw [show (33554431#64) = BitVec.ofNat 64 (2 ^ 25 - 1) from by decide +kernel, BitVec.getLsbD_ofNat, Nat.testBit_two_pow_sub_one]; simp [hj]
  unfold hi128 part89
  rw [BitVec.getLsbD_and, hm, BitVec.getLsbD_or, BitVec.getLsbD_ushiftRight, BitVec.getLsbD_shiftLeft]
  simp only [BitVec.getLsbD_extractLsb', BitVec.getLsbD_setWidth, BitVec.getLsbD_zero, hj, decide_true, Bool.true_and, Bool.and_true, Bool.and_false, Bool.or_false]
  by_cases h25 : j < 25
  · simp only [h25, decide_true, Bool.and_true]
    by_cases hc : 25 + j < 64
    · have h2 : j < 39 := by omega
      simp only [hc, h2, show 64 + j < 89 by omega, show 64 + j < 128 by omega, decide_true, decide_false, Bool.true_and, Bool.false_and, Bool.not_true, Bool.or_false, Bool.and_true, Bool.not_false]
      try congr 1
      try omega
    · have h2 : ¬ j < 39 := by omega
      simp only [hc, h2, show 64 + j < 89 by omega, show 64 + j < 128 by omega, show j - 39 < 64 by omega, decide_true, decide_false, Bool.true_and, Bool.false_and, Bool.not_true, Bool.not_false, Bool.false_or, Bool.and_true]
      try congr 1
      try omega
      try exact (BitVec.getLsbD_of_ge _ _ (by omega)).symm
  · simp only [h25, decide_false, Bool.and_false, show ¬ 64 + j < 89 by omega, Bool.false_and]
theorem part_hi2 (X : BitVec 256) : (X.extractLsb' 192 64 >>> 50 ||| 0#64 <<< 14) &&& 33554431#64 = hi128 (part89 X 2) := by
  apply BitVec.eq_of_getLsbD_eq
  intro j hj
  have hm : (33554431#64).getLsbD j = decide (j < 25) := by
    rw [show (33554431#64) = BitVec.ofNat 64 (2 ^ 25 - 1) from by decide +kernel, BitVec.getLsbD_ofNat, Nat.testBit_two_pow_sub_one]; simp [hj]
  unfold hi128 part89
  rw [BitVec.getLsbD_and, hm, BitVec.getLsbD_or, BitVec.getLsbD_ushiftRight, BitVec.getLsbD_shiftLeft]
  simp only [BitVec.getLsbD_extractLsb', BitVec.getLsbD_setWidth, BitVec.getLsbD_zero, hj, decide_true, Bool.true_and, Bool.and_true, Bool.and_false, Bool.or_false]
  by_cases h25 : j < 25
  · simp only [h25, decide_true, Bool.and_true]
    by_cases hc : 50 + j < 64
    · have h2 : j < 14 := by omega
      simp only [hc, h2, show 64 + j < 89 by omega, show 64 + j < 128 by omega, decide_true, decide_false, Bool.true_and, Bool.false_and, Bool.not_true, Bool.or_false, Bool.and_true, Bool.not_false]
      try congr 1
      try omega
    · have h2 : ¬ j < 14 := by omega
      simp only [hc, h2, show 64 + j < 89 by omega, show 64 + j < 128 by omega, show j - 14 < 64 by omega, decide_true, decide_false, Bool.true_and, Bool.false_and, Bool.not_true, Bool.not_false, Bool.false_or, Bool.and_true]
      try congr 1
      try omega
      try exact (BitVec.getLsbD_of_ge _ _ (by omega)).symm
  · simp only [h25, decide_false, Bool.and_false, show ¬ 64 + j < 89 by omega, Bool.false_and]
theorem part_lo0 (X : BitVec 256) : X.extractLsb' 0 64 >>> 0 ||| X.extractLsb' 64 64 <<< 64 = lo128 (part89 X 0) := by
  apply BitVec.eq_of_getLsbD_eq
  intro j hj
  unfold lo128 part89
  rw [BitVec.getLsbD_or, BitVec.getLsbD_ushiftRight, BitVec.getLsbD_shiftLeft]
  simp only [BitVec.getLsbD_extractLsb', BitVec.getLsbD_setWidth, BitVec.getLsbD_zero, hj, decide_true, Bool.true_and, Bool.and_true, Bool.and_false, Bool.or_false]
  by_cases hc : 0 + j < 64
  · have h2 : j < 64 := by omega
    simp only [hc, h2, show j < 89 by omega, show j < 128 by omega, decide_true, decide_false, Bool.true_and, Bool.false_and, Bool.not_true, Bool.or_false, Bool.and_true, Bool.not_false]
    try congr 1
    try omega
  · have h2 : ¬ j < 64 := by omega
    simp only [hc, h2, show j < 89 by omega, show j < 128 by omega, show j - 64 < 64 by omega, decide_true, decide_false, Bool.true_and, Bool.false_and, Bool.not_true, Bool.not_false, Bool.false_or, Bool.and_true]
    try congr 1
    try omega
theorem part_lo1 (X : BitVec 256) : X.extractLsb' 64 64 >>> 25 ||| X.extractLsb' 128 64 <<< 39 = lo128 (part89 X 1) := by
  apply BitVec.eq_of_getLsbD_eq
  intro j hj
  unfold lo128 part89
  rw [BitVec.getLsbD_or, BitVec.getLsbD_ushiftRight, BitVec.getLsbD_shiftLeft]
  simp only [BitVec.getLsbD_extractLsb', BitVec.getLsbD_setWidth, BitVec.getLsbD_zero, hj, decide_true, Bool.true_and, Bool.and_true, Bool.and_false, Bool.or_false]
  by_cases hc : 25 + j < 64
  · have h2 : j < 39 := by omega
    simp only [hc, h2, show j < 89 by omega, show j < 128 by omega, decide_true, decide_false, Bool.true_and, Bool.false_and, Bool.not_true, Bool.or_false, Bool.and_true, Bool.not_false]
    try congr 1
    try omega
  · have h2 : ¬ j < 39 := by omega
    simp only [hc, h2, show j < 89 by omega, show j < 128 by omega, show j - 39 < 64 by omega, decide_true, decide_false, Bool.true_and, Bool.false_and, Bool.not_true, Bool.not_false, Bool.false_or, Bool.and_true]
    try congr 1
    try omega
theorem part_lo2 (X : BitVec 256) : X.extractLsb' 128 64 >>> 50 ||| X.extractLsb' 192 64 <<< 14 = lo128 (part89 X 2) := by
  apply BitVec.eq_of_getLsbD_eq
  intro j hj
  unfold lo128 part89
  rw [BitVec.getLsbD_or, BitVec.getLsbD_ushiftRight, BitVec.getLsbD_shiftLeft]
  simp only [BitVec.getLsbD_extractLsb', BitVec.getLsbD_setWidth, BitVec.getLsbD_zero, hj, decide_true, Bool.true_and, Bool.and_true, Bool.and_false, Bool.or_false]
  by_cases hc : 50 + j < 64
  · have h2 : j < 14 := by omega
    simp only [hc, h2, show j < 89 by omega, show j < 128 by omega, decide_true, decide_false, Bool.true_and, Bool.false_and, Bool.not_true, Bool.or_false, Bool.and_true, Bool.not_false]
    try congr 1
    try omega
  · have h2 : ¬ j < 14 := by omega
    simp only [hc, h2, show j < 89 by omega, show j < 128 by omega, show j - 14 < 64 by omega, decide_true, decide_false, Bool.true_and, Bool.false_and, Bool.not_true, Bool.not_false, Bool.false_or, Bool.and_true]
    try congr 1
    try omega
end Go.Bv
