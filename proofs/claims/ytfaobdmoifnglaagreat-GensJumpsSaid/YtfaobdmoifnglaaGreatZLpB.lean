import Derived.Test.YtfaobdmoifnglaaGreatZGf2M
import Derived.Test.YtfaobdmoifnglaaGreatZGf2P
/- Plain lemmas: the rule of a row of bits as numbers, and its values on the generators' bits; powers of x modulo the generators' polynomials, by the kernel. -/
namespace Go.G2
open Go.Proofs.YtfaobdmoifnglaaGreat
set_option linter.unusedVariables false
/-- the parity of the recurrence's first bits and the row's last, both true -/
def dfB (R V n : Nat) : Nat → Bool
  | 0 => false
  | i + 1 => dfB R V n i != (R.testBit i && V.testBit (n - i))
structure BM where
  R : Nat
  F : Nat
  d : Nat
  e : Nat
deriving DecidableEq
/-- one round of the rule -/
def bmStep (N V n : Nat) (s : BM) : BM :=
  if dfB s.R V n (s.d + 1) = true then
    (if 2 * s.d > n then ⟨(s.R ^^^ s.F * 2 ^ s.e) % 2 ^ (N + 1), s.F, s.d, s.e + 1⟩
     else ⟨(s.R ^^^ s.F * 2 ^ s.e) % 2 ^ (N + 1), s.R, n + 1 - s.d, 1⟩)
  else ⟨s.R, s.F, s.d, s.e + 1⟩
def bmRun (N V : Nat) : Nat → BM
  | 0 => ⟨1, 1, 0, 1⟩
  | n + 1 => bmStep N V n (bmRun N V n)
/-- the lowest bits of n states from s, and the state behind them -/
def bits4 : Nat → N4 → Nat → Nat → Nat
  | 0, _, _, acc => acc
  | n + 1, s, i, acc => bits4 n (stN4 s) (i + 1) (acc + (s.a % 2) * 2 ^ i)
def bits2 (A B C : Nat) : Nat → N2 → Nat → Nat → Nat
  | 0, _, _, acc => acc
  | n + 1, s, i, acc => bits2 A B C n (stN2 A B C s) (i + 1) (acc + (s.a % 2) * 2 ^ i)
def row4 : Nat := 3672185413922841380426159084289319319235163553367299679233001295318479060742229245832979438291838707015816121150709552150499151198473756766304273099548107
def rowS : Nat := 49212315630190979371285339476949108097638618239689545313966256919846290872447
def rowP : Nat := 40094596955121024908448931239992089043099020902548585482598098760850545250303
set_option maxRecDepth 100000 in
theorem row4_is : bits4 512 ⟨1, 0, 0, 0⟩ 0 0 = row4 := by decide +kernel
set_option maxRecDepth 100000 in
theorem rowS_is : bits2 24 16 37 256 ⟨1, 0⟩ 0 0 = rowS := by decide +kernel
set_option maxRecDepth 100000 in
theorem rowP_is : bits2 49 21 28 256 ⟨1, 0⟩ 0 0 = rowP := by decide +kernel
/-- the recurrences -/
def rec4 : Nat := 115845302447463812159983040983481652597560204436439340618025510266067881525249
def recS : Nat := 340337937305884787107657753985944788993
def recP : Nat := 343076103087419002380692122492018038785
set_option maxRecDepth 100000 in
theorem bm4 : (bmRun 512 row4 512).R = rec4 ∧ (bmRun 512 row4 512).d = 256 := by decide +kernel
set_option maxRecDepth 100000 in
theorem bmS : (bmRun 256 rowS 256).R = recS ∧ (bmRun 256 rowS 256).d = 128 := by decide +kernel
set_option maxRecDepth 100000 in
theorem bmP : (bmRun 256 rowP 256).R = recP ∧ (bmRun 256 rowP 256).d = 128 := by decide +kernel
/-- the first d + 1 bits in reverse order -/
def revB (R d : Nat) : Nat → Nat
  | 0 => 0
  | i + 1 => revB R d i ^^^ (if R.testBit i then 2 ^ (d - i) else 0)
set_option maxRecDepth 100000 in
theorem rev4 : revB rec4 256 257 = pol4 := by decide +kernel
set_option maxRecDepth 100000 in
theorem revS : revB recS 128 129 = polS := by decide +kernel
set_option maxRecDepth 100000 in
theorem revP : revB recP 128 129 = polP := by decide +kernel
theorem bl_of {P n : Nat} (h1 : 2 ^ n ≤ P) (h2 : P < 2 ^ (n + 1)) : bl P = n + 1 := by
  have ha : bl P ≤ n + 1 := bl_le.2 h2
  have hb : ¬ bl P ≤ n := fun h => by have := bl_le.1 h; omega
  omega
theorem bl_pol4 : bl pol4 = 257 := bl_of (by decide +kernel) (by decide +kernel)
theorem bl_polS : bl polS = 129 := bl_of (by decide +kernel) (by decide +kernel)
theorem bl_polP : bl polP = 129 := bl_of (by decide +kernel) (by decide +kernel)
/-- twice b modulo P, where P has n + 1 bits -/
def dbF (P top b : Nat) : Nat := if 2 * b < top then 2 * b else 2 * b ^^^ P
theorem db_is {P n b : Nat} (hP : bl P = n + 1) (hb : b < 2 ^ n) : dbF P (2 ^ n) b = rmG (2 * b) P ∧ dbF P (2 ^ n) b < 2 ^ n := by
  have h0 : P ≠ 0 := fun h => by rw [h, bl_zero] at hP; omega
  unfold dbF
  by_cases h : 2 * b < 2 ^ n
  · rw [if_pos h]
    have hl := bl_le.2 h
    exact ⟨(rm_small (by omega)).symm, h⟩
  · rw [if_neg h]
    obtain ⟨k, hk, ht, hlt⟩ := bl_pos h0
    obtain rfl : k = n := by omega
    have h2 : 2 * b < 2 ^ (k + 1) := by rw [Nat.pow_succ]; omega
    have htb : (2 * b).testBit k = true := by
      cases hc : (2 * b).testBit k with
      | true => rfl
      | false => exact absurd (lt_less h2 hc) h
    have hr : 2 * b ^^^ P < 2 ^ k := xor_top h2 hlt (by rw [htb, ht])
    refine ⟨?_, hr⟩
    have hd := dv_is (a := 2 * b) (q := 1) h0 (by rw [one_mulG, Nat.xor_comm (2 * b) P, xor_self2]) (show bl (2 * b ^^^ P) < bl P by have := bl_le.2 hr; omega)
    show _ = (dvG (2 * b) P).2
    rw [hd]
/-- acc and the product of a and b modulo P -/
def mmF (P top : Nat) : Nat → Nat → Nat → Nat → Nat
  | 0, _, _, acc => acc
  | f + 1, a, b, acc => mmF P top f (a / 2) (dbF P top b) (if a % 2 = 1 then acc ^^^ b else acc)
theorem mm_is {P n : Nat} (hP : bl P = n + 1) : ∀ (f a b acc : Nat), a < 2 ^ f → b < 2 ^ n → mmF P (2 ^ n) f a b acc = acc ^^^ rmG (mulG a b) P
  | 0, a, b, acc, ha, hb => by
    have h0 : P ≠ 0 := fun h => by rw [h, bl_zero] at hP; omega
    rw [Nat.pow_zero] at ha
    rw [show a = 0 by omega, mulG_zero, rm_small (by rw [bl_zero]; omega), Nat.xor_zero]
    rfl
  | f + 1, a, b, acc, ha, hb => by
    have h0 : P ≠ 0 := fun h => by rw [h, bl_zero] at hP; omega
    obtain ⟨hd, hl⟩ := db_is hP hb
    have hbs : rmG b P = b := rm_small (by have := bl_le.2 hb; omega)
    show mmF P (2 ^ n) f (a / 2) (dbF P (2 ^ n) b) (if a % 2 = 1 then acc ^^^ b else acc) = _
    rw [mm_is hP f (a / 2) _ _ (by rw [Nat.pow_succ] at ha; omega) hl, hd, rm_mul_r h0, mulG_two, mulG_step a b, rm_add h0]
    by_cases h : a % 2 = 1
    · rw [if_pos h, if_pos h, hbs, Nat.xor_assoc]
    · rw [if_neg h, if_neg h, rm_small (a := 0) (by rw [bl_zero]; omega), Nat.zero_xor]
/-- x to the power of E's first k bits -/
def pwF (P top n : Nat) : Nat → Nat → Nat
  | 0, _ => 1
  | k + 1, E => if E % 2 = 1 then dbF P top (mmF P top n (pwF P top n k (E / 2)) (pwF P top n k (E / 2)) 0) else mmF P top n (pwF P top n k (E / 2)) (pwF P top n k (E / 2)) 0
theorem pw_is {P n : Nat} (hn : 0 < n) (hP : bl P = n + 1) : ∀ k E, E < 2 ^ k → pwF P (2 ^ n) n k E = xpG E P ∧ pwF P (2 ^ n) n k E < 2 ^ n
  | 0, E, h => by
    have h1 : 1 < 2 ^ n := Nat.one_lt_two_pow (by omega)
    rw [Nat.pow_zero] at h
    rw [show E = 0 by omega]
    have hl := bl_le.2 h1
    refine ⟨?_, h1⟩
    show 1 = rmG 1 P
    exact (rm_small (by omega)).symm
  | k + 1, E, h => by
    have h0 : P ≠ 0 := fun h => by rw [h, bl_zero] at hP; omega
    obtain ⟨hv, hl⟩ := pw_is hn hP k (E / 2) (by rw [Nat.pow_succ] at h; omega)
    have hm : mmF P (2 ^ n) n (pwF P (2 ^ n) n k (E / 2)) (pwF P (2 ^ n) n k (E / 2)) 0 = xpG (2 * (E / 2)) P := by
      rw [mm_is hP n _ _ _ hl hl, Nat.zero_xor, hv, xp_two h0]
    have hml : xpG (2 * (E / 2)) P < 2 ^ n := by
      have := rm_lt (a := 2 ^ (2 * (E / 2))) h0
      exact bl_le.1 (show bl (rmG _ P) ≤ n by omega)
    show (if E % 2 = 1 then dbF P (2 ^ n) (mmF P (2 ^ n) n (pwF P (2 ^ n) n k (E / 2)) (pwF P (2 ^ n) n k (E / 2)) 0) else mmF P (2 ^ n) n (pwF P (2 ^ n) n k (E / 2)) (pwF P (2 ^ n) n k (E / 2)) 0) = _ ∧ (if E % 2 = 1 then _ else _) < _
    rw [hm]
    by_cases hE : E % 2 = 1
    · rw [if_pos hE]
      obtain ⟨hd, hdl⟩ := db_is hP hml
      refine ⟨?_, hdl⟩
      have h1 := xp_one (k := 2 * (E / 2)) h0
      rw [mulG_comm, show mulG 2 (xpG (2 * (E / 2)) P) = 2 * xpG (2 * (E / 2)) P from mulG_pow _ 1] at h1
      rw [hd, h1, show 2 * (E / 2) + 1 = E by omega]
    · rw [if_neg hE]
      refine ⟨?_, hml⟩
      rw [show 2 * (E / 2) = E by omega]
set_option maxRecDepth 100000 in
theorem jump4a : xpG 340282366920938463463374607431768211456 pol4 = 26085483466146683437729584433416940748010083220905283300336438352164092185274 := by
  rw [← (pw_is (by decide) bl_pol4 129 _ (by decide +kernel)).1]; decide +kernel
set_option maxRecDepth 100000 in
theorem jump4b : xpG 6277101735386680763835789423207666416102355444464034512896 pol4 = 25811176442423999780181185644399983503438179793072507392953026632622368738239 := by
  rw [← (pw_is (by decide) bl_pol4 193 _ (by decide +kernel)).1]; decide +kernel
set_option maxRecDepth 100000 in
theorem jumpSa : xpG 18446744073709551616 polS = 30615848492443384612112888152731243685 := by
  rw [← (pw_is (by decide) bl_polS 65 _ (by decide +kernel)).1]; decide +kernel
set_option maxRecDepth 100000 in
theorem jumpSb : xpG 79228162514264337593543950336 polS = 294920414353830779217769284518757199483 := by
  rw [← (pw_is (by decide) bl_polS 97 _ (by decide +kernel)).1]; decide +kernel
set_option maxRecDepth 100000 in
theorem jumpPa : xpG 18446744073709551616 polP = 12725278812838468447387518175580794332 := by
  rw [← (pw_is (by decide) bl_polP 65 _ (by decide +kernel)).1]; decide +kernel
set_option maxRecDepth 100000 in
theorem jumpPb : xpG 79228162514264337593543950336 polP = 207932838831357501058245856048802782617 := by
  rw [← (pw_is (by decide) bl_polP 97 _ (by decide +kernel)).1]; decide +kernel
set_option maxRecDepth 100000 in
theorem round4 : xpG (2 ^ 256 - 1) pol4 = 1 := by
  rw [← (pw_is (by decide) bl_pol4 256 _ (by decide +kernel)).1]; decide +kernel
set_option maxRecDepth 100000 in
theorem roundS : xpG (2 ^ 128 - 1) polS = 1 := by
  rw [← (pw_is (by decide) bl_polS 128 _ (by decide +kernel)).1]; decide +kernel
set_option maxRecDepth 100000 in
theorem roundP : xpG (2 ^ 128 - 1) polP = 1 := by
  rw [← (pw_is (by decide) bl_polP 128 _ (by decide +kernel)).1]; decide +kernel
end Go.G2
