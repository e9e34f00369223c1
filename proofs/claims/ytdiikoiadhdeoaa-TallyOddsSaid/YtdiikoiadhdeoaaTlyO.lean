/- Odd multipliers that bring two keys to the same highest bits: how many there are at most. -/
import Derived.Test.YtdiikoiadhdeoaaTlyM
namespace Go.Tly
set_option linter.unusedVariables false
theorem cnt_mono {p q : Nat → Bool} : ∀ (N : Nat), (∀ x, x < N → p x = true → q x = true) → cntN p N ≤ cntN q N
  | 0, _ => Nat.le_refl 0
  | N + 1, h => by
    have := cnt_mono N fun x hx => h x (by omega)
    have h2 := h N (by omega)
    rw [cntN, cntN]
    rcases hp : p N <;> rcases hq : q N <;> simp_all <;> omega
/-- what is told one for one is no more than the places -/
theorem cnt_inj (p : Nat → Bool) (f : Nat → Nat) (K : Nat) : ∀ (N : Nat), (∀ x, x < N → p x = true → f x < K) → (∀ x y, x < N → y < N → p x = true → p y = true → f x = f y → x = y) → cntN p N ≤ K := by
  suffices H : ∀ (N : Nat), ∀ (p : Nat → Bool) (f : Nat → Nat) (K : Nat), (∀ x, x < N → p x = true → f x < K) → (∀ x y, x < N → y < N → p x = true → p y = true → f x = f y → x = y) → cntN p N ≤ K from fun N h1 h2 => H N p f K h1 h2
  intro N
  induction N with
  | zero => intro p f K _ _; exact Nat.zero_le _
  | succ N ih =>
    intro p f K h1 h2
    rcases hp : p N with _ | _
    · have := ih p f K (fun x hx => h1 x (by omega)) (fun x y hx hy => h2 x y (by omega) (by omega))
      rw [cntN, hp]; simpa using this
    · have hK : f N < K := h1 N (by omega) hp
      have := ih p (fun x => if f x = K - 1 then f N else f x) (K - 1) (fun x hx hpx => by
        have hx1 := h1 x (by omega) hpx
        have hne : f x ≠ f N := fun e => by have := h2 x N (by omega) (by omega) hpx hp e; omega
        show (if f x = K - 1 then f N else f x) < K - 1
        split
        · omega
        · omega) (fun x y hx hy hpx hpy e => by
        have hnx : f x ≠ f N := fun e => by have := h2 x N (by omega) (by omega) hpx hp e; omega
        have hny : f y ≠ f N := fun e => by have := h2 y N (by omega) (by omega) hpy hp e; omega
        have e2 : (if f x = K - 1 then f N else f x) = (if f y = K - 1 then f N else f y) := e
        apply h2 x y (by omega) (by omega) hpx hpy
        split at e2 <;> split at e2 <;> omega)
      rw [cntN, hp]
      have : K - 1 + 1 = K := by omega
      simp; omega
end Go.Tly
namespace Go.Tly
theorem odd_cancel (u : Int) (hu : u % 2 = 1) : ∀ (k : Nat) (b : Int), (2 ^ k : Int) ∣ b * u → (2 ^ k : Int) ∣ b
  | 0, b, _ => by simp
  | k + 1, b, h => by
    obtain ⟨c, hc⟩ := h
    have h2 : b % 2 = 0 := by
      rcases Int.emod_two_eq b with h0 | h0
      · exact h0
      · exfalso
        have e : b * u % 2 = 1 := by rw [Int.mul_emod, h0, hu]; rfl
        rw [hc, Int.pow_succ, Int.mul_comm (2 ^ k) 2, Int.mul_assoc, Int.mul_emod_right] at e
        omega
    obtain ⟨b', rfl⟩ : ∃ b', b = 2 * b' := ⟨b / 2, by omega⟩
    have h3 : b' * u = 2 ^ k * c := by
      rw [Int.pow_succ, Int.mul_comm (2 ^ k) 2, Int.mul_assoc, Int.mul_assoc] at hc
      omega
    obtain ⟨d, hd⟩ := odd_cancel u hu k b' ⟨c, h3⟩
    exact ⟨d, by rw [Int.pow_succ, Int.mul_comm (2 ^ k) 2, Int.mul_assoc, ← hd]⟩
theorem two_part : ∀ (n : Nat) (z : Int), z.natAbs ≤ n → z ≠ 0 → ∃ (t : Nat) (u : Int), z = 2 ^ t * u ∧ u % 2 = 1
  | 0, z, h, h0 => by omega
  | n + 1, z, h, h0 => by
    rcases Int.emod_two_eq z with h1 | h1
    · obtain ⟨z', rfl⟩ : ∃ z', z = 2 * z' := ⟨z / 2, by omega⟩
      obtain ⟨t, u, hz, hu⟩ := two_part n z' (by omega) (by omega)
      exact ⟨t + 1, u, by rw [hz, Int.pow_succ, Int.mul_comm (2 ^ t) 2, Int.mul_assoc], hu⟩
    · exact ⟨0, z, by simp, h1⟩
theorem pow_int (n : Nat) : ((2 ^ n : Nat) : Int) = (2 : Int) ^ n := by simp
/-- how far apart two keys' products lie -/
def dO (w x y a : Nat) : Int := ((a * x % 2 ^ w : Nat) : Int) - ((a * y % 2 ^ w : Nat) : Int)
theorem dO_is {w t x y : Nat} {u : Int} (hz : (x : Int) - y = 2 ^ t * u) (ht : t ≤ w) (a : Nat) : ∃ c : Int, dO w x y a = 2 ^ t * (a * u + 2 ^ (w - t) * c) := by
  refine ⟨((a * y / 2 ^ w : Nat) : Int) - ((a * x / 2 ^ w : Nat) : Int), ?_⟩
  have h1 := Nat.div_add_mod (a * x) (2 ^ w)
  have h2 := Nat.div_add_mod (a * y) (2 ^ w)
  have h1' : (2 : Int) ^ w * ((a * x / 2 ^ w : Nat) : Int) + ((a * x % 2 ^ w : Nat) : Int) = (a : Int) * x := by rw [← pow_int]; exact_mod_cast h1
  have h2' : (2 : Int) ^ w * ((a * y / 2 ^ w : Nat) : Int) + ((a * y % 2 ^ w : Nat) : Int) = (a : Int) * y := by rw [← pow_int]; exact_mod_cast h2
  have hw : (2 : Int) ^ w = 2 ^ t * 2 ^ (w - t) := by rw [← Int.pow_add]; congr 1; omega
  have hax : (a : Int) * x - a * y = 2 ^ t * (a * u) := by rw [← Int.mul_sub, hz]; grind
  unfold dO
  generalize ((a * x % 2 ^ w : Nat) : Int) = r1 at *
  generalize ((a * y % 2 ^ w : Nat) : Int) = r2 at *
  generalize ((a * x / 2 ^ w : Nat) : Int) = q1 at *
  generalize ((a * y / 2 ^ w : Nat) : Int) = q2 at *
  rw [Int.mul_add, ← hax, ← Int.mul_assoc, ← hw, Int.mul_sub]
  omega
def fO (w p t x y a : Nat) : Nat := ((dO w x y a / 2 ^ t + 2 ^ (p - t)) / 2).toNat * 2 ^ t + a / 2 ^ (w - t)
theorem eO {w t x y : Nat} {u : Int} (hz : (x : Int) - y = 2 ^ t * u) (hu : u % 2 = 1) (ht : t < w) (a : Nat) (ha : a % 2 = 1) : ∃ c : Int, dO w x y a = 2 ^ t * (dO w x y a / 2 ^ t) ∧ dO w x y a / 2 ^ t = a * u + 2 ^ (w - t) * c ∧ (dO w x y a / 2 ^ t) % 2 = 1 := by
  obtain ⟨c, hc⟩ := dO_is (t := t) (w := w) hz (by omega) a
  have h2 : (2 : Int) ^ t ≠ 0 := by
    have : (0 : Int) < 2 ^ t := Int.pow_pos (by omega)
    omega
  have h3 : dO w x y a / 2 ^ t = a * u + 2 ^ (w - t) * c := by rw [hc, Int.mul_ediv_cancel_left _ h2]
  refine ⟨c, by rw [h3, hc], h3, ?_⟩
  rw [h3]
  obtain ⟨k, hk⟩ : ∃ k, w - t = k + 1 := ⟨w - t - 1, by omega⟩
  rw [hk, Int.pow_succ, Int.mul_comm (2 ^ k) 2, Int.mul_assoc, Int.add_mul_emod_self_left, Int.mul_emod, hu]
  have : (a : Int) % 2 = 1 := by omega
  rw [this]; rfl
theorem digit_one {q b q' b' T : Nat} (hb : b < T) (hb' : b' < T) (e : q * T + b = q' * T + b') : q = q' := by
  have h1 : (q * T + b) / T = q := by rw [Nat.mul_comm, Nat.mul_add_div (by omega), Nat.div_eq_of_lt hb, Nat.add_zero]
  have h2 : (q' * T + b') / T = q' := by rw [Nat.mul_comm, Nat.mul_add_div (by omega), Nat.div_eq_of_lt hb', Nat.add_zero]
  rw [← h1, ← h2, e]
/-- no more than 2 to the p odd multipliers bring two unlike keys to the same highest bits -/
theorem odds_le {w p x y : Nat} (hp : p ≤ w) (hw : 0 < w) (hx : x < 2 ^ w) (hy : y < 2 ^ w) (hne : x ≠ y) :
    cntN (fun h => (2 * h + 1) * x % 2 ^ w / 2 ^ p == (2 * h + 1) * y % 2 ^ w / 2 ^ p) (2 ^ (w - 1)) ≤ 2 ^ p := by
  obtain ⟨t, u, hz, hu⟩ := two_part _ ((x : Int) - y) (Nat.le_refl _) (by omega)
  have hX : (x : Int) < 2 ^ w := by rw [← pow_int]; exact_mod_cast hx
  have hY : (y : Int) < 2 ^ w := by rw [← pow_int]; exact_mod_cast hy
  have htw : t < w := by
    rcases Nat.lt_or_ge t w with h | h
    · exact h
    · exfalso
      have h1 : (2 : Int) ^ w ∣ (x : Int) - y := by
        refine ⟨2 ^ (t - w) * u, ?_⟩
        rw [hz, ← Int.mul_assoc, ← Int.pow_add]; congr 2; omega
      obtain ⟨c, hc⟩ := h1
      have h3 : (0 : Int) < 2 ^ w := Int.pow_pos (by omega)
      rcases Int.lt_trichotomy c 0 with h4 | h4 | h4
      · have : (2 : Int) ^ w * c ≤ 2 ^ w * (-1) := Int.mul_le_mul_of_nonneg_left (by omega) (by omega)
        omega
      · subst h4; omega
      · have : (2 : Int) ^ w * 1 ≤ 2 ^ w * c := Int.mul_le_mul_of_nonneg_left (by omega) (by omega)
        omega
  -- what one multiplier's place is
  have key : ∀ a : Nat, a % 2 = 1 → a < 2 ^ w → a * x % 2 ^ w / 2 ^ p = a * y % 2 ^ w / 2 ^ p →
      t < p ∧ 0 ≤ (dO w x y a / 2 ^ t + 2 ^ (p - t)) / 2 ∧ (dO w x y a / 2 ^ t + 2 ^ (p - t)) / 2 < 2 ^ (p - t) ∧ a / 2 ^ (w - t) < 2 ^ t := by
    intro a ha haw hq
    obtain ⟨c, h1, h2, h3⟩ := eO hz hu htw a ha
    have hd1 := Nat.div_add_mod (a * x % 2 ^ w) (2 ^ p)
    have hd2 := Nat.div_add_mod (a * y % 2 ^ w) (2 ^ p)
    have hm1 := Nat.mod_lt (a * x % 2 ^ w) (Nat.two_pow_pos p)
    have hm2 := Nat.mod_lt (a * y % 2 ^ w) (Nat.two_pow_pos p)
    rw [hq] at hd1
    have hlt : dO w x y a < 2 ^ p ∧ -(2 ^ p : Int) < dO w x y a := by
      rw [← pow_int]; unfold dO; omega
    have htp : t < p := by
      rcases Nat.lt_or_ge t p with h | h
      · exact h
      · exfalso
        have hpt : (2 : Int) ^ p ≤ 2 ^ t := by rw [← pow_int, ← pow_int]; exact_mod_cast Nat.pow_le_pow_right (by omega) h
        generalize dO w x y a / 2 ^ t = e at *
        have hp0 : (0 : Int) < 2 ^ t := Int.pow_pos (by omega)
        rcases Int.lt_trichotomy e 0 with h4 | h4 | h4
        · have : (2 : Int) ^ t * e ≤ 2 ^ t * (-1) := Int.mul_le_mul_of_nonneg_left (by omega) (by omega)
          omega
        · omega
        · have : (2 : Int) ^ t * 1 ≤ 2 ^ t * e := Int.mul_le_mul_of_nonneg_left (by omega) (by omega)
          omega
    have hpp : (2 : Int) ^ p = 2 ^ t * 2 ^ (p - t) := by rw [← Int.pow_add]; congr 1; omega
    have hp0 : (0 : Int) < 2 ^ t := Int.pow_pos (by omega)
    have hm0 : (0 : Int) < 2 ^ (p - t) := Int.pow_pos (by omega)
    have he : dO w x y a / 2 ^ t < 2 ^ (p - t) ∧ -(2 ^ (p - t) : Int) < dO w x y a / 2 ^ t := by
      rw [hpp] at hlt
      generalize dO w x y a / 2 ^ t = e at *
      rw [h1] at hlt
      constructor
      · exact Int.lt_of_mul_lt_mul_left hlt.1 (by omega)
      · have h5 := hlt.2
        rw [← Int.mul_neg] at h5
        exact Int.lt_of_mul_lt_mul_left h5 (by omega)
    refine ⟨htp, by omega, by omega, ?_⟩
    rw [Nat.div_lt_iff_lt_mul (Nat.two_pow_pos _), ← Nat.pow_add]
    have : t + (w - t) = w := by omega
    rw [this]; exact haw
  have h2w : 2 ^ w = 2 * 2 ^ (w - 1) := by
    obtain ⟨k, rfl⟩ : ∃ k, w = k + 1 := ⟨w - 1, by omega⟩
    rw [Nat.pow_succ, Nat.add_sub_cancel]; omega
  refine cnt_inj _ (fun h => fO w p t x y (2 * h + 1)) _ _ (fun h hh hp => ?_) (fun h h' hh hh' hp hp' e => ?_)
  · obtain ⟨k1, k2, k3, k4⟩ := key (2 * h + 1) (by omega) (by omega) (by simpa using hp)
    show fO w p t x y (2 * h + 1) < 2 ^ p
    unfold fO
    have hpp : 2 ^ p = 2 ^ (p - t) * 2 ^ t := by rw [← Nat.pow_add]; congr 1; omega
    have k5 : ((dO w x y (2 * h + 1) / 2 ^ t + 2 ^ (p - t)) / 2).toNat < 2 ^ (p - t) := by
      have := pow_int (p - t); omega
    rw [hpp]
    have k6 : (((dO w x y (2 * h + 1) / 2 ^ t + 2 ^ (p - t)) / 2).toNat + 1) * 2 ^ t ≤ 2 ^ (p - t) * 2 ^ t := Nat.mul_le_mul_right _ k5
    rw [Nat.add_mul] at k6
    omega
  · obtain ⟨k1, k2, k3, k4⟩ := key (2 * h + 1) (by omega) (by omega) (by simpa using hp)
    obtain ⟨l1, l2, l3, l4⟩ := key (2 * h' + 1) (by omega) (by omega) (by simpa using hp')
    obtain ⟨c, a1, a2, a3⟩ := eO hz hu htw (2 * h + 1) (by omega)
    obtain ⟨c', b1, b2, b3⟩ := eO hz hu htw (2 * h' + 1) (by omega)
    have e2 : fO w p t x y (2 * h + 1) = fO w p t x y (2 * h' + 1) := e
    unfold fO at e2
    have hT := Nat.two_pow_pos t
    have q1 : ((dO w x y (2 * h + 1) / 2 ^ t + 2 ^ (p - t)) / 2).toNat = ((dO w x y (2 * h' + 1) / 2 ^ t + 2 ^ (p - t)) / 2).toNat := digit_one k4 l4 e2
    have q2 : (2 * h + 1) / 2 ^ (w - t) = (2 * h' + 1) / 2 ^ (w - t) := by rw [q1] at e2; omega
    have hev : ∃ m' : Int, (2 : Int) ^ (p - t) = 2 * m' := by
      obtain ⟨k, hk⟩ : ∃ k, p - t = k + 1 := ⟨p - t - 1, by omega⟩
      exact ⟨2 ^ k, by rw [hk, Int.pow_succ, Int.mul_comm]⟩
    obtain ⟨m', hm'⟩ := hev
    have q3 : dO w x y (2 * h + 1) / 2 ^ t = dO w x y (2 * h' + 1) / 2 ^ t := by rw [hm'] at q1 k2 l2; omega
    rw [a2, b2] at q3
    have hdv : (2 : Int) ^ (w - t) ∣ (((2 * h + 1 : Nat) : Int) - ((2 * h' + 1 : Nat) : Int)) * u := ⟨c' - c, by rw [Int.sub_mul, Int.mul_sub]; omega⟩
    obtain ⟨z, hzz⟩ := odd_cancel u hu _ _ hdv
    have r1 := Nat.div_add_mod (2 * h + 1) (2 ^ (w - t))
    have r2 := Nat.div_add_mod (2 * h' + 1) (2 ^ (w - t))
    have r3 := Nat.mod_lt (2 * h + 1) (Nat.two_pow_pos (w - t))
    have r4 := Nat.mod_lt (2 * h' + 1) (Nat.two_pow_pos (w - t))
    rw [q2] at r1
    have hpi := pow_int (w - t)
    rw [← hpi] at hzz
    have hpos : (0 : Int) < ((2 ^ (w - t) : Nat) : Int) := by have := Nat.two_pow_pos (w - t); omega
    rcases Int.lt_trichotomy z 0 with h4 | h4 | h4
    · have : ((2 ^ (w - t) : Nat) : Int) * z ≤ ((2 ^ (w - t) : Nat) : Int) * (-1) := Int.mul_le_mul_of_nonneg_left (by omega) (by omega)
      omega
    · subst h4; omega
    · have : ((2 ^ (w - t) : Nat) : Int) * 1 ≤ ((2 ^ (w - t) : Nat) : Int) * z := Int.mul_le_mul_of_nonneg_left (by omega) (by omega)
      omega
end Go.Tly
