/- The mathematics of a shift: lines through two points modulo a power of 2, there and back. -/
import Derived.Test.YtfiihbknkglggaaMadI
namespace Go.Bv
open Go Go.RowKit
theorem mod_cancel {W r s t : Nat} (h : (r + s) % W = (r + t) % W) : s % W = t % W := by
  have h1 : ((r + s : Nat) : Int) % (W : Int) = ((r + t : Nat) : Int) % (W : Int) := by exact_mod_cast h
  rw [Int.emod_eq_emod_iff_emod_sub_eq_zero] at h1
  have h2 : ((s : Int) % (W : Int)) = ((t : Int) % (W : Int)) := by
    rw [Int.emod_eq_emod_iff_emod_sub_eq_zero]
    rw [← h1]; congr 1; omega
  exact_mod_cast h2
theorem odd_part : ∀ n : Nat, n ≠ 0 → ∃ k o, n = 2 ^ k * o ∧ o % 2 = 1 := by
  intro n
  induction n using Nat.strongRecOn with
  | ind n ih =>
    intro h
    by_cases h2 : n % 2 = 1
    · exact ⟨0, n, by rw [Nat.pow_zero, Nat.one_mul], h2⟩
    · obtain ⟨k, o, h3, h4⟩ := ih (n / 2) (by omega) (by omega)
      refine ⟨k + 1, o, ?_, h4⟩
      rw [Nat.pow_succ, Nat.mul_comm (2 ^ k) 2, Nat.mul_assoc, ← h3]; omega
/-- the difference modulo 2^128 -/
def dfN (x y : Nat) : Nat := (x + 2 ^ 128 - y) % 2 ^ 128
theorem df_add {x y : Nat} (hx : x < 2 ^ 128) (hy : y < 2 ^ 128) : (dfN x y + y) % 2 ^ 128 = x := by unfold dfN; omega
theorem df_lt (x y : Nat) : dfN x y < 2 ^ 128 := Nat.mod_lt _ (Nat.two_pow_pos _)
theorem df_cases {x y : Nat} (hx : x < 2 ^ 128) (hy : y < 2 ^ 128) : (y ≤ x ∧ dfN x y = x - y) ∨ (x < y ∧ dfN x y = 2 ^ 128 - (y - x)) := by unfold dfN; omega
theorem df_dvd {x y k : Nat} (hx : x < 2 ^ 128) (hy : y < 2 ^ 128) (hk : k ≤ 128) (h : x % 2 ^ k = y % 2 ^ k) : 2 ^ k ∣ dfN x y := by
  rcases df_cases hx hy with ⟨h1, h2⟩ | ⟨h1, h2⟩
  · rw [h2]; exact Nat.dvd_of_mod_eq_zero (Nat.sub_mod_eq_zero_of_mod_eq h)
  · rw [h2]; exact Nat.dvd_sub (Nat.pow_dvd_pow 2 hk) (Nat.dvd_of_mod_eq_zero (Nat.sub_mod_eq_zero_of_mod_eq h.symm))
/-- the difference of two keys: so many factors 2, and an odd number -/
theorem run_parts {x y kd : Nat} (hk : kd ≤ 64) (hx : x < 2 ^ kd) (hy : y < 2 ^ kd) (hne : x ≠ y) : ∃ k o, dfN x y = 2 ^ k * o ∧ o % 2 = 1 ∧ k < kd ∧ x % 2 ^ k = y % 2 ^ k := by
  have hp : 2 ^ kd ≤ 2 ^ 64 := Nat.pow_le_pow_right (by decide) hk
  have hx2 : x < 2 ^ 128 := by omega
  have hy2 : y < 2 ^ 128 := by omega
  have h0 : dfN x y ≠ 0 := by rcases df_cases hx2 hy2 with ⟨h1, h2⟩ | ⟨h1, h2⟩ <;> omega
  obtain ⟨k, o, h1, h2⟩ := odd_part _ h0
  have hlt := df_lt x y
  have ho : 0 < o := by omega
  have hk128 : k < 128 := by
    have h3 : 2 ^ k * 1 ≤ 2 ^ k * o := Nat.mul_le_mul_left _ ho
    have h4 : 2 ^ k < 2 ^ 128 := by omega
    exact (Nat.pow_lt_pow_iff_right (by decide)).1 h4
  have hd : 2 ^ k ∣ dfN x y := ⟨o, h1⟩
  have hd2 : 2 ^ k ∣ 2 ^ 128 := Nat.pow_dvd_pow 2 (by omega)
  have key : ∀ d, 0 < d → d < 2 ^ kd → 2 ^ k ∣ d → k < kd := fun d d0 d1 d2 => by
    have := Nat.le_of_dvd d0 d2
    exact (Nat.pow_lt_pow_iff_right (by decide)).1 (Nat.lt_of_le_of_lt this d1)
  rcases df_cases hx2 hy2 with ⟨h3, h4⟩ | ⟨h3, h4⟩
  · rw [h4] at hd
    refine ⟨k, o, h1, h2, key _ (by omega) (by omega) hd, ?_⟩
    obtain ⟨e, he⟩ := hd
    rw [show x = y + 2 ^ k * e by omega, Nat.add_mul_mod_self_left]
  · rw [h4] at hd
    have hd3 : 2 ^ k ∣ y - x := by
      have h5 := Nat.dvd_sub hd2 hd
      rw [show 2 ^ 128 - (2 ^ 128 - (y - x)) = y - x by omega] at h5
      exact h5
    refine ⟨k, o, h1, h2, key _ (by omega) (by omega) hd3, ?_⟩
    obtain ⟨e, he⟩ := hd3
    rw [show y = x + 2 ^ k * e by omega, Nat.add_mul_mod_self_left]
/-- a line's value -/
def lnN (wd a b x : Nat) : Nat := (a * x + b) % 2 ^ wd
/-- a number with another head -/
def hdN (wd j n u : Nat) : Nat := n % 2 ^ (wd - j) + u * 2 ^ (wd - j)
/-- the slope -/
def slN (wd a k inv rise : Nat) : Nat := rise / 2 ^ k * inv % 2 ^ (wd - k) + (a - a % 2 ^ (wd - k))
/-- what is added -/
def adN (wd at' a x : Nat) : Nat := dfN at' (a * x % 2 ^ 128) % 2 ^ wd
theorem ln_lt (wd a b x : Nat) : lnN wd a b x < 2 ^ wd := Nat.mod_lt _ (Nat.two_pow_pos _)
theorem hd_lt {wd j n u : Nat} (hj : j ≤ wd) (hu : u < 2 ^ j) : hdN wd j n u < 2 ^ wd := by
  unfold hdN
  have h1 : n % 2 ^ (wd - j) < 2 ^ (wd - j) := Nat.mod_lt _ (Nat.two_pow_pos _)
  have h2 : (u + 1) * 2 ^ (wd - j) ≤ 2 ^ j * 2 ^ (wd - j) := Nat.mul_le_mul_right _ hu
  rw [← Nat.pow_add, Nat.add_sub_cancel' hj, Nat.add_mul, Nat.one_mul] at h2
  omega
theorem hd_div {wd j n u : Nat} : hdN wd j n u / 2 ^ (wd - j) = u := by
  unfold hdN
  rw [Nat.add_mul_div_right _ _ (Nat.two_pow_pos _), Nat.div_eq_of_lt (Nat.mod_lt _ (Nat.two_pow_pos _)), Nat.zero_add]
theorem hd_mod {wd j n u : Nat} : hdN wd j n u % 2 ^ (wd - j) = n % 2 ^ (wd - j) := by
  unfold hdN
  rw [Nat.add_mul_mod_self_right, Nat.mod_mod]
theorem hd_back {wd j n : Nat} (m : Nat) (h : m % 2 ^ (wd - j) = n % 2 ^ (wd - j)) : hdN wd j m (n / 2 ^ (wd - j)) = n := by
  unfold hdN
  rw [h, Nat.mul_comm]
  exact Nat.mod_add_div n _
theorem mod_small {n a b : Nat} (h : a ≤ b) : n % 2 ^ b % 2 ^ a = n % 2 ^ a := Nat.mod_mod_of_dvd n (Nat.pow_dvd_pow 2 h)
section
variable {wd kd j A B x y : Nat}
theorem sl_lt (a k inv rise : Nat) (hk : k ≤ wd) (ha : a < 2 ^ wd) : slN wd a k inv rise < 2 ^ wd := by
  unfold slN
  have h1 : rise / 2 ^ k * inv % 2 ^ (wd - k) < 2 ^ (wd - k) := Nat.mod_lt _ (Nat.two_pow_pos _)
  have h2 := slope_high a (rise / 2 ^ k * inv % 2 ^ (wd - k)) (2 ^ (wd - k)) h1
  have h3 : a / 2 ^ (wd - k) < 2 ^ k := by
    apply Nat.div_lt_of_lt_mul
    rw [← Nat.pow_add, Nat.sub_add_cancel hk]; exact ha
  rw [← h2] at h3
  have h4 := (Nat.div_lt_iff_lt_mul (Nat.two_pow_pos _)).1 h3
  rw [← Nat.pow_add, Nat.add_sub_cancel' hk] at h4
  exact h4
/-- a line through a point -/
theorem ln_first (hw : wd ≤ 128) (a at' : Nat) (hat : at' < 2 ^ wd) (x : Nat) : lnN wd a (adN wd at' a x) x = at' := by
  have hP : 2 ^ wd ≤ 2 ^ 128 := Nat.pow_le_pow_right (by decide) hw
  unfold lnN adN
  have hz : a * x % 2 ^ 128 < 2 ^ 128 := Nat.mod_lt _ (Nat.two_pow_pos _)
  have h1 : a * x % 2 ^ wd = a * x % 2 ^ 128 % 2 ^ wd := (mod_small hw).symm
  have h2 := df_add (x := at') (y := a * x % 2 ^ 128) (by omega) hz
  rw [Nat.add_mod, h1, Nat.mod_mod, ← Nat.add_mod, Nat.add_comm, ← mod_small hw, h2, Nat.mod_eq_of_lt hat]
/-- and through another one, by the slope -/
theorem ln_second (hw : wd ≤ 128) (a aX aY : Nat) (hX : aX < 2 ^ wd) (hY : aY < 2 ^ wd) (hx : x < 2 ^ 128) (hy : y < 2 ^ 128) (hs : a * dfN x y % 2 ^ wd = dfN aX aY % 2 ^ wd) : lnN wd a (adN wd aX a x) y = aY := by
  have hP : 2 ^ wd ≤ 2 ^ 128 := Nat.pow_le_pow_right (by decide) hw
  have h1 := ln_first hw a aX hX x
  unfold lnN at h1 ⊢
  generalize adN wd aX a x = b at *
  have h2 := df_add hx hy
  have h3 := df_add (x := aX) (y := aY) (by omega) (by omega)
  have h4 : a * x % 2 ^ wd = a * (dfN x y + y) % 2 ^ wd := by
    rw [Nat.mul_mod, Nat.mul_mod a (dfN x y + y)]
    congr 2
    rw [← mod_small (n := dfN x y + y) hw, h2]
  have h5 : (dfN aX aY + (a * y + b)) % 2 ^ wd = (dfN aX aY + aY) % 2 ^ wd := by
    have h6 : (dfN aX aY + aY) % 2 ^ wd = aX := by rw [← mod_small hw, h3, Nat.mod_eq_of_lt hX]
    generalize dfN aX aY = G at *
    rw [h6, ← h1, Nat.add_mod (a * x) b, h4, ← Nat.add_mod, Nat.mul_add, Nat.add_mod G, ← hs, ← Nat.add_mod, Nat.add_assoc]
  have h7 := mod_cancel h5
  rw [h7, Nat.mod_eq_of_lt hY]
theorem rise_dvd (hw : wd ≤ 128) (hj : j ≤ wd) {k u v : Nat} (hk : k ≤ wd - j) (hu : u < 2 ^ j) (hv : v < 2 ^ j) (hxy : x % 2 ^ k = y % 2 ^ k) : 2 ^ k ∣ dfN (hdN wd j (lnN wd A B x) u) (hdN wd j (lnN wd A B y) v) := by
  have hP : 2 ^ wd ≤ 2 ^ 128 := Nat.pow_le_pow_right (by decide) hw
  have h1 := hd_lt (n := lnN wd A B x) hj hu
  have h2 := hd_lt (n := lnN wd A B y) hj hv
  refine df_dvd (by omega) (by omega) (by omega) ?_
  rw [← mod_small (n := hdN wd j (lnN wd A B x) u) hk, hd_mod, mod_small hk, ← mod_small (n := hdN wd j (lnN wd A B y) v) hk, hd_mod, mod_small hk]
  unfold lnN
  rw [mod_small (show k ≤ wd by omega), mod_small (show k ≤ wd by omega), Nat.add_mod, Nat.mul_mod, hxy, ← Nat.mul_mod, ← Nat.add_mod]
/-- what a shift makes of a and b -/
theorem shift_there (hw : wd ≤ 128) (hj : j ≤ wd) {k o inv u v : Nat} (hk : k ≤ wd - j) (hu : u < 2 ^ j) (hv : v < 2 ^ j) (hx : x < 2 ^ 128) (hy : y < 2 ^ 128) (hrun : dfN x y = 2 ^ k * o) (hxy : x % 2 ^ k = y % 2 ^ k) (hinv : o * inv % 2 ^ (wd - k) = 1 % 2 ^ (wd - k)) (a : Nat) :
    lnN wd (slN wd a k inv (dfN (hdN wd j (lnN wd A B x) u) (hdN wd j (lnN wd A B y) v))) (adN wd (hdN wd j (lnN wd A B x) u) (slN wd a k inv (dfN (hdN wd j (lnN wd A B x) u) (hdN wd j (lnN wd A B y) v))) x) x = hdN wd j (lnN wd A B x) u ∧
    lnN wd (slN wd a k inv (dfN (hdN wd j (lnN wd A B x) u) (hdN wd j (lnN wd A B y) v))) (adN wd (hdN wd j (lnN wd A B x) u) (slN wd a k inv (dfN (hdN wd j (lnN wd A B x) u) (hdN wd j (lnN wd A B y) v))) x) y = hdN wd j (lnN wd A B y) v := by
  obtain ⟨r, hr⟩ := rise_dvd (A := A) (B := B) hw hj hk hu hv hxy
  have h1 := hd_lt (n := lnN wd A B x) hj hu
  have h2 := hd_lt (n := lnN wd A B y) hj hv
  refine ⟨ln_first hw _ _ h1 x, ln_second hw _ _ _ h1 h2 hx hy ?_⟩
  have hs := slope_ok (dfN x y) (dfN (hdN wd j (lnN wd A B x) u) (hdN wd j (lnN wd A B y) v)) a inv k wd o r hrun hr (by omega) hinv
  unfold slN
  rw [hr, Nat.mul_div_cancel_left _ (Nat.two_pow_pos _)] at *
  exact hs
/-- aimed back -/
theorem shift_back (hw : wd ≤ 128) {k o inv : Nat} (hk : k ≤ wd) (hB : B < 2 ^ wd) (hx : x < 2 ^ 128) (hy : y < 2 ^ 128) (hrun : dfN x y = 2 ^ k * o) (hxy : x % 2 ^ k = y % 2 ^ k) (hinv : o * inv % 2 ^ (wd - k) = 1 % 2 ^ (wd - k)) (c : Nat) (hc : c / 2 ^ (wd - k) = A / 2 ^ (wd - k)) :
    slN wd c k inv (dfN (lnN wd A B x) (lnN wd A B y)) = A ∧ adN wd (lnN wd A B x) A x = B := by
  have hP : 2 ^ wd ≤ 2 ^ 128 := Nat.pow_le_pow_right (by decide) hw
  have hlx := ln_lt wd A B x
  have hly := ln_lt wd A B y
  constructor
  · have hd : 2 ^ k ∣ dfN (lnN wd A B x) (lnN wd A B y) := by
      refine df_dvd (by omega) (by omega) (by omega) ?_
      unfold lnN
      rw [mod_small hk, mod_small hk, Nat.add_mod, Nat.mul_mod, hxy, ← Nat.mul_mod, ← Nat.add_mod]
    obtain ⟨r, hr⟩ := hd
    have h2 := df_add hx hy
    have h3 := df_add (x := lnN wd A B x) (y := lnN wd A B y) (by omega) (by omega)
    have h4 : (dfN (lnN wd A B x) (lnN wd A B y) + lnN wd A B y) % 2 ^ wd = lnN wd A B x := by rw [← mod_small hw, h3, Nat.mod_eq_of_lt hlx]
    have h5 : (lnN wd A B y + A * dfN x y) % 2 ^ wd = lnN wd A B x := by
      unfold lnN
      rw [Nat.add_mod, Nat.mod_mod, ← Nat.add_mod, show A * y + B + A * dfN x y = A * (dfN x y + y) + B by rw [Nat.mul_add]; omega, Nat.add_mod, Nat.mul_mod, ← mod_small (n := dfN x y + y) hw, h2, ← Nat.mul_mod, ← Nat.add_mod]
    have h6 : A * dfN x y % 2 ^ wd = dfN (lnN wd A B x) (lnN wd A B y) % 2 ^ wd := mod_cancel (r := lnN wd A B y) (by rw [h5, Nat.add_comm (lnN wd A B y)]; exact h4.symm)
    have h7 : A * o % 2 ^ (wd - k) = r % 2 ^ (wd - k) := by
      rw [hrun, hr, Nat.mul_left_comm, show 2 ^ wd = 2 ^ k * 2 ^ (wd - k) by rw [← Nat.pow_add, Nat.add_sub_cancel' hk], Nat.mul_mod_mul_left, Nat.mul_mod_mul_left] at h6
      exact Nat.eq_of_mul_eq_mul_left (Nat.two_pow_pos k) h6
    have h8 := slope_back A c inv (2 ^ (wd - k)) o hinv hc
    unfold slN
    rw [hr, Nat.mul_div_cancel_left _ (Nat.two_pow_pos _), Nat.mul_mod, ← h7, ← Nat.mul_mod]
    exact h8
  · have hz : A * x % 2 ^ 128 < 2 ^ 128 := Nat.mod_lt _ (Nat.two_pow_pos _)
    have h2 := df_add (x := lnN wd A B x) (y := A * x % 2 ^ 128) (by omega) hz
    have h3 : (A * x % 2 ^ 128 + dfN (lnN wd A B x) (A * x % 2 ^ 128)) % 2 ^ wd = (A * x % 2 ^ 128 + B) % 2 ^ wd := by
      rw [Nat.add_comm, ← mod_small hw, h2, Nat.mod_eq_of_lt hlx]
      unfold lnN
      rw [Nat.add_mod (A * x % 2 ^ 128), mod_small hw, ← Nat.add_mod]
    have h4 := mod_cancel h3
    unfold adN
    rw [h4, Nat.mod_eq_of_lt hB]
end
end Go.Bv
