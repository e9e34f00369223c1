/- madd.Shift as a whole, and MaddStays. -/
import Derived.Test.YtfiihbknkglggaaMadO
namespace Go.Bv
open Go Go.RowKit
theorem sl_high {wd a k inv r : Nat} : slN wd a k inv r / 2 ^ (wd - k) = a / 2 ^ (wd - k) := by
  unfold slN
  have hP := Nat.two_pow_pos (wd - k)
  generalize 2 ^ (wd - k) = P at *
  generalize r / 2 ^ k * inv = s
  have h1 := Nat.mod_lt s hP
  have h2 := Nat.div_add_mod a P
  rw [show a - a % P = P * (a / P) by omega, Nat.add_mul_div_left _ _ hP, Nat.div_eq_of_lt h1, Nat.zero_add]
theorem inv2_low {o : Nat} (ho : o % 2 = 1) {n : Nat} (hn : n ≤ 128) : o * inv2 o % 2 ^ n = 1 % 2 ^ n := by
  have h := inv2_one o (by unfold loN; rw [BitVec.toNat_ofNat]; omega)
  rw [← mod_small (n := o * inv2 o) hn, h]
theorem ad_lt (wd at' a x : Nat) : adN wd at' a x < 2 ^ wd := Nat.mod_lt _ (Nat.two_pow_pos _)
end Go.Bv
namespace Go.Proofs.Ytfiihbknkglggaa
open Go Go.RowKit Go.Bv
set_option linter.unusedVariables false
theorem shift_right (A B wd kd j : Nat) (hA : A < 2 ^ wd) (hB : B < 2 ^ wd) (hwk : wd = 2 * kd) (hkd : kd ≤ 64) (hjk : j ≤ kd) (hj1 : 1 ≤ j) (x y u v : BitVec 64) (hx : x.toNat < 2 ^ kd) (hy : y.toNat < 2 ^ kd) (hu : u.toNat < 2 ^ j) (hv : v.toNat < 2 ^ j) (hne : x ≠ y) (kind : Int) (HS : Hid (∀ w : World, Calls Try.prog 17 #[.int .i64 kind] w fun e w' => e = .returned (.tuple #[.agg #[.int .i64 (wd : Int), .int .i64 (kd : Int), .int .i64 (kd : Int)], .bool true]) ∧ New w w')) :
    ∃ C D, C < 2 ^ wd ∧ D < 2 ^ wd ∧ lnN wd C D x.toNat = hdN wd j (lnN wd A B x.toNat) u.toNat ∧ lnN wd C D y.toNat = hdN wd j (lnN wd A B y.toNat) v.toNat ∧
      (∀ w : World, Calls Try.prog 14 #[.int .i64 kind, .int .i64 (j : Int), .agg #[.int .u64 (W64 (hiN (A))), .int .u64 (W64 (loN (A)))], .agg #[.int .u64 (W64 (hiN (B))), .int .u64 (W64 (loN (B)))], .int .u64 (W64 x), .int .u64 (W64 y), .int .u64 (W64 u), .int .u64 (W64 v)] w fun e w' => e = .returned (.tuple #[.agg #[.int .u64 (W64 (hiN (C))), .int .u64 (W64 (loN (C)))], .agg #[.int .u64 (W64 (hiN (D))), .int .u64 (W64 (loN (D)))], .int .i64 0]) ∧ New w w') ∧
      (∀ w : World, Calls Try.prog 14 #[.int .i64 kind, .int .i64 (j : Int), .agg #[.int .u64 (W64 (hiN (C))), .int .u64 (W64 (loN (C)))], .agg #[.int .u64 (W64 (hiN (D))), .int .u64 (W64 (loN (D)))], .int .u64 (W64 x), .int .u64 (W64 y), .int .u64 (W64 (loN (lnN wd A B x.toNat / 2 ^ (wd - j)))), .int .u64 (W64 (loN (lnN wd A B y.toNat / 2 ^ (wd - j))))] w fun e w' => e = .returned (.tuple #[.agg #[.int .u64 (W64 (hiN (A))), .int .u64 (W64 (loN (A)))], .agg #[.int .u64 (W64 (hiN (B))), .int .u64 (W64 (loN (B)))], .int .i64 0]) ∧ New w w') := by
  have hwd : wd ≤ 128 := by omega
  have hjw : j ≤ wd := by omega
  have hP : 2 ^ wd ≤ 2 ^ 128 := Nat.pow_le_pow_right (by decide) hwd
  have hQ : 2 ^ j ≤ 2 ^ 64 := Nat.pow_le_pow_right (by decide) (by omega)
  have hxy : (x == y) = false := beq_false_of_ne hne
  have hnn : x.toNat ≠ y.toNat := fun e => hne (BitVec.eq_of_toNat_eq e)
  obtain ⟨k, o, hrun, ho, hk, hlow⟩ := run_parts hkd hx hy hnn
  have hx128 : x.toNat < 2 ^ 128 := by have := x.isLt; omega
  have hy128 : y.toNat < 2 ^ 128 := by have := y.isLt; omega
  have hinv := inv2_low ho (show wd - k ≤ 128 by omega)
  have fit : ∀ (z : BitVec 64) (n : Nat), z.toNat < 2 ^ n → Hid (∀ w : World, Calls Try.prog 18 #[.int .u64 (W64 z), .int .i64 (n : Int)] w fun e w' => e = .returned (.bool true) ∧ New w w') := fun z n h => Lib.hid fun w => by
    have := fits_a z n w
    rw [shr_none, decide_eq_true h] at this
    exact this
  have hA2 : A < 2 ^ 128 := by omega
  have hB2 : B < 2 ^ 128 := by omega
  have s1 := shift_ok A B wd kd j k o hA hB hwd hjw hkd (by omega) x y u v hrun ho hk hu hv hxy kind (Lib.hid (check_ok A B wd kd hA2 hB2 hwd kind (j : Int) (by omega) (by omega) hA hB HS)) HS (fit x kd hx) (fit y kd hy) (fit u j hu) (fit v j hv)
  obtain ⟨t1, t2⟩ := shift_there (A := A) (B := B) (x := x.toNat) (y := y.toNat) hwd hjw (show k ≤ wd - j by omega) hu hv hx128 hy128 hrun hlow hinv A
  have hc := sl_high (wd := wd) (a := A) (k := k) (inv := inv2 o) (r := dfN (hdN wd j (lnN wd A B x.toNat) u.toNat) (hdN wd j (lnN wd A B y.toNat) v.toNat))
  have hC := sl_lt A k (inv2 o) (dfN (hdN wd j (lnN wd A B x.toNat) u.toNat) (hdN wd j (lnN wd A B y.toNat) v.toNat)) (show k ≤ wd by omega) hA
  have hD := ad_lt wd (hdN wd j (lnN wd A B x.toNat) u.toNat) (slN wd A k (inv2 o) (dfN (hdN wd j (lnN wd A B x.toNat) u.toNat) (hdN wd j (lnN wd A B y.toNat) v.toNat))) x.toNat
  generalize adN wd (hdN wd j (lnN wd A B x.toNat) u.toNat) (slN wd A k (inv2 o) (dfN (hdN wd j (lnN wd A B x.toNat) u.toNat) (hdN wd j (lnN wd A B y.toNat) v.toNat))) x.toNat = D at *
  generalize slN wd A k (inv2 o) (dfN (hdN wd j (lnN wd A B x.toNat) u.toNat) (hdN wd j (lnN wd A B y.toNat) v.toNat)) = C at *
  refine ⟨C, D, hC, hD, t1, t2, s1, ?_⟩
  have word : ∀ z : Nat, (loN (lnN wd A B z / 2 ^ (wd - j))).toNat = lnN wd A B z / 2 ^ (wd - j) ∧ lnN wd A B z / 2 ^ (wd - j) < 2 ^ j := fun z => by
    have h1 := ln_lt wd A B z
    have h2 : lnN wd A B z / 2 ^ (wd - j) < 2 ^ j := by
      rw [Nat.div_lt_iff_lt_mul (Nat.two_pow_pos _), ← Nat.pow_add, show j + (wd - j) = wd by omega]; exact h1
    refine ⟨?_, h2⟩
    unfold loN
    rw [BitVec.toNat_ofNat, Nat.mod_eq_of_lt (by omega)]
  have wx := word x.toNat
  have wy := word y.toNat
  have hC2 : C < 2 ^ 128 := by omega
  have hD2 : D < 2 ^ 128 := by omega
  have s2 := shift_ok C D wd kd j k o hC hD hwd hjw hkd (by omega) x y (loN (lnN wd A B x.toNat / 2 ^ (wd - j))) (loN (lnN wd A B y.toNat / 2 ^ (wd - j))) hrun ho hk (by rw [wx.1]; exact wx.2) (by rw [wy.1]; exact wy.2) hxy kind (Lib.hid (check_ok C D wd kd hC2 hD2 hwd kind (j : Int) (by omega) (by omega) hC hD HS)) HS (fit x kd hx) (fit y kd hy) (fit _ j (by rw [wx.1]; exact wx.2)) (fit _ j (by rw [wy.1]; exact wy.2))
  have b1 : hdN wd j (lnN wd C D x.toNat) (loN (lnN wd A B x.toNat / 2 ^ (wd - j))).toNat = lnN wd A B x.toNat := by
    rw [wx.1, t1]; exact hd_back _ hd_mod
  have b2 : hdN wd j (lnN wd C D y.toNat) (loN (lnN wd A B y.toNat / 2 ^ (wd - j))).toNat = lnN wd A B y.toNat := by
    rw [wy.1, t2]; exact hd_back _ hd_mod
  rw [b1, b2] at s2
  obtain ⟨r1, r2⟩ := shift_back (A := A) (B := B) (x := x.toNat) (y := y.toNat) hwd (show k ≤ wd by omega) hB hx128 hy128 hrun hlow hinv C hc
  rw [r1, r2] at s2
  exact s2
end Go.Proofs.Ytfiihbknkglggaa
