/- The example of modn (awake); the walks of the statements ModnReckons and ModnOnly: for all words. -/
import Derived.Test.YtadaaihbeapibaaDoorModE
import Derived.Deep.RegionWith
namespace Go.Proofs.YtadaaihbeapibaaDoor
open Go.RowKit Go.Bv
set_option linter.unusedVariables false
set_option maxHeartbeats 1000000 in
theorem awake03 (w : World) :
    Calls Tryd.prog 5 #[] w fun e w' => e = .returned (.bool true) ∧ New w w' := by
  have h1 : ∀ w, Calls Tryd.prog 25 #[.int .u64 3, .int .u64 10] w fun e w' => e = .returned (.tuple #[.int .u64 7, .bool true]) ∧ New w w' := by
    intro w
    have h := inv_any 3#64 10#64 (by decide) w
    rw [show W64 3#64 = 3 from W64_lit 3 (by omega), show W64 10#64 = 10 from W64_lit 10 (by omega)] at h
    refine h.mono ?_
    rintro e w' ⟨v, ok, rfl, hn, ⟨rfl, h1, h2, h3⟩ | ⟨rfl, h1, h2⟩⟩
    · have hv : v = 7#64 := BitVec.eq_of_toNat_eq (by
        rw [show (3#64).toNat = 3 from rfl, show (10#64).toNat = 10 from rfl] at *
        rw [show (7#64).toNat = 7 from rfl]
        omega)
      rw [hv, show W64 7#64 = 7 from W64_lit 7 (by omega)]
      exact ⟨rfl, hn⟩
    · exact absurd (by decide) h2
  have h2 : ∀ w, Calls Tryd.prog 25 #[.int .u64 2, .int .u64 10] w fun e w' => e = .returned (.tuple #[.int .u64 0, .bool false]) ∧ New w w' := by
    intro w
    have h := inv_any 2#64 10#64 (by decide) w
    rw [show W64 2#64 = 2 from W64_lit 2 (by omega), show W64 10#64 = 10 from W64_lit 10 (by omega)] at h
    refine h.mono ?_
    rintro e w' ⟨v, ok, rfl, hn, ⟨rfl, h1, h2, h3⟩ | ⟨rfl, h1, h2⟩⟩
    · exact absurd h1 (by decide)
    · rw [h1, lo_zero]
      exact ⟨rfl, hn⟩
  have h3 : ∀ w, Calls Tryd.prog 6 #[.int .u64 3] w fun e w' => e = .returned (.tuple #[.int .u64 12297829382473034411, .bool true]) ∧ w' = w := by
    intro w
    have h := odd_any 3#64 (by decide) w
    rw [show inv5 3#64 5 = 12297829382473034411#64 by decide +kernel, show W64 3#64 = 3 from W64_lit 3 (by omega), show W64 12297829382473034411#64 = 12297829382473034411 from W64_lit 12297829382473034411 (by omega)] at h
    exact h
  have H1 := Lib.hid h1
  have H2 := Lib.hid h2
  have H3 := Lib.hid h3
  clear h1 h2 h3
  go_enter Tryd.func5, Tryd.ntmps5
  go_wp2_with fail
  refine (H1.out _).mono ?_
  rintro e w1 ⟨rfl, hn1⟩
  go_wp2_with fail
  refine (H2.out _).mono ?_
  rintro e w2 ⟨rfl, hn2⟩
  go_wp2_with fail
  refine (H3.out _).mono ?_
  rintro e w3 ⟨rfl, rfl⟩
  go_wp2
  go_ret
  exact ⟨rfl, hn1.trans hn2⟩
theorem gcd_one_of_mul {a b n : Nat} (h : a * b % n = 1 % n) : Nat.gcd a n = 1 := by
  have h1 : Nat.gcd a n ∣ a * b := Nat.dvd_trans (Nat.gcd_dvd_left a n) (Nat.dvd_mul_right a b)
  have h2 : Nat.gcd a n ∣ n := Nat.gcd_dvd_right a n
  have h3 : Nat.gcd a n ∣ 1 % n := by rw [← h]; exact (Nat.dvd_mod_iff h2).2 h1
  have h4 : Nat.gcd a n ∣ 1 := (Nat.dvd_mod_iff h2).1 h3
  exact Nat.dvd_one.1 h4
theorem inv_unique {a v b n : Nat} (hv : v < n) (hb : b < n) (h1 : a * v % n = 1 % n) (h2 : a * b % n = 1 % n) : v = b := by
  have e1 : v * (a * b) % n = v % n := by rw [Nat.mul_mod, h2, ← Nat.mul_mod, Nat.mul_one]
  have e2 : v * (a * b) % n = b % n := by
    rw [show v * (a * b) = b * (a * v) by grind, Nat.mul_mod, h1, ← Nat.mul_mod, Nat.mul_one]
  rw [e1, Nat.mod_eq_of_lt hv, Nat.mod_eq_of_lt hb] at e2
  exact e2
end Go.Proofs.YtadaaihbeapibaaDoor
