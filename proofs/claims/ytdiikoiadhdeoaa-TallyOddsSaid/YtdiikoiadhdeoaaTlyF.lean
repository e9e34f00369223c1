/- The statement TallyOdds: for every number of bits and every two keys. -/
import Derived.Test.YtdiikoiadhdeoaaTlyD
import Derived.Test.YtdiikoiadhdeoaaTlyO
namespace Go.Proofs.Ytdiikoiadhdeoaa
open Go.RowKit Go.Bv Go.Tly
set_option linter.unusedVariables false
/-- what is wrong with two keys of t bits -/
def kyA (most t b : Int) : Bool := decide (t < 1) || (decide (most < t) || (decide (b < 1) || decide (t < b)))
def ky51 (most t b : Int) (x y : Nat) : Int := if kyA most t b then 1 else if 2 ^ t.toNat ≤ x ∨ 2 ^ t.toNat ≤ y then 2 else if x = y then 15 else 0
theorem beqN (x y : BitVec 64) : (x == y) = decide (x.toNat = y.toNat) := by
  rw [Bool.eq_iff_iff, beq_iff_eq, decide_eq_true_iff]
  exact ⟨fun h => by rw [h], fun h => BitVec.eq_of_toNat_eq h⟩
theorem shr_zero (x : BitVec 64) (t : Nat) : (x >>> t != 0#64) = decide (2 ^ t ≤ x.toNat) := by
  rw [bne, beqN, BitVec.toNat_ushiftRight, Nat.shiftRight_eq_div_pow]
  show (!decide (x.toNat / 2 ^ t = 0)) = _
  rw [← decide_not]
  apply decide_eq_decide.2
  rw [Nat.div_eq_zero_iff]
  have := Nat.two_pow_pos t
  omega
theorem W64_le (x : BitVec 64) {p : BitVec 64} {A : Nat} (h : p.toNat = A) : decide (W64 p ≤ W64 x) = decide (A ≤ x.toNat) := by
  apply decide_eq_decide.2; unfold W64; omega
theorem kyA_cases {most t b : Int} : (kyA most t b = true ∧ (t < 1 ∨ (¬ t < 1 ∧ most < t) ∨ (¬ t < 1 ∧ ¬ most < t ∧ b < 1) ∨ (¬ t < 1 ∧ ¬ most < t ∧ ¬ b < 1 ∧ t < b))) ∨ (kyA most t b = false ∧ ¬ t < 1 ∧ ¬ most < t ∧ ¬ b < 1 ∧ ¬ t < b) := by
  unfold kyA
  by_cases h1 : t < 1
  · left; simp [h1]
  · by_cases h2 : most < t
    · left; first | (simp [h2]; done) | (simp [h2]; omega)
    · by_cases h3 : b < 1
      · left; first | (simp [h3]; done) | (simp [h3]; omega)
      · by_cases h4 : t < b
        · left; first | (simp [h4]; done) | (simp [h4]; omega)
        · right; first | (simp [h1, h2, h3, h4]; done) | (simp [h1, h2, h3, h4]; omega)
set_option maxHeartbeats 2000000 in
theorem keys_51 (most : Int) (hm : most ≤ 12) (t b : Int) (x y : BitVec 64) (w : World) : Calls Try.prog 39 #[.int .i64 t, .int .i64 most, .int .i64 b, .int .u64 (W64 x), .int .u64 (W64 y)] w fun e w' => e = .returned (.int .i64 (ky51 most t b x.toNat y.toNat)) ∧ w' = w := by
  rcases kyA_cases (most := most) (t := t) (b := b) with ⟨hk, hc⟩ | ⟨hk, h1, h2, h3, h4⟩
  · have e : ky51 most t b x.toNat y.toNat = 1 := by unfold ky51; rw [hk]; rfl
    rw [e]
    clear hk e
    rcases hc with h1 | ⟨h1, h2⟩ | ⟨h1, h2, h3⟩ | ⟨h1, h2, h3, h4⟩
    all_goals
      go_enter Try.func39, Try.ntmps39
      go_wp2
      go_ret
      exact ⟨rfl, rfl⟩
  · have ht : (0 : Int) ≤ t := by omega
    have hx := shr_zero x t.toNat
    have hy := shr_zero y t.toNat
    have hxy := beqN x y
    by_cases hX : 2 ^ t.toNat ≤ x.toNat
    · have e : ky51 most t b x.toNat y.toNat = 2 := by unfold ky51; rw [hk, if_neg (by simp), if_pos (Or.inl hX)]
      rw [e]
      rw [decide_eq_true hX] at hx
      clear hk e hX hy hxy
      go_enter Try.func39, Try.ntmps39
      go_wp2
      go_ret
      exact ⟨rfl, rfl⟩
    · rw [decide_eq_false hX] at hx
      by_cases hY : 2 ^ t.toNat ≤ y.toNat
      · have e : ky51 most t b x.toNat y.toNat = 2 := by unfold ky51; rw [hk, if_neg (by simp), if_pos (Or.inr hY)]
        rw [e]
        rw [decide_eq_true hY] at hy
        clear hk e hX hY hxy
        go_enter Try.func39, Try.ntmps39
        go_wp2
        go_ret
        exact ⟨rfl, rfl⟩
      · rw [decide_eq_false hY] at hy
        by_cases hE : x.toNat = y.toNat
        · have e : ky51 most t b x.toNat y.toNat = 15 := by unfold ky51; rw [hk, if_neg (by simp), if_neg (by omega), if_pos hE]
          rw [e]
          rw [decide_eq_true hE] at hxy
          clear hk e hX hY hE
          go_enter Try.func39, Try.ntmps39
          go_wp2
          go_ret
          exact ⟨rfl, rfl⟩
        · have e : ky51 most t b x.toNat y.toNat = 0 := by unfold ky51; rw [hk, if_neg (by simp), if_neg (by omega), if_neg hE]
          rw [e]
          rw [decide_eq_false hE] at hxy
          clear hk e hX hY hE
          go_enter Try.func39, Try.ntmps39
          go_wp2
          go_ret
          exact ⟨rfl, rfl⟩
set_option maxHeartbeats 2000000 in
theorem rkeys_51 (most : Int) (hm : most ≤ 12) (t b : Int) (x y : BitVec 64) (w : World) : Calls Try.prog 19 #[.int .i64 most, .int .i64 t, .int .i64 b, .int .u64 (W64 x), .int .u64 (W64 y)] w fun e w' => e = .returned (.int .i64 (ky51 most t b x.toNat y.toNat)) ∧ w' = w := by
  rcases kyA_cases (most := most) (t := t) (b := b) with ⟨hk, hc⟩ | ⟨hk, h1, h2, h3, h4⟩
  · have e : ky51 most t b x.toNat y.toNat = 1 := by unfold ky51; rw [hk]; rfl
    rw [e]
    clear hk e
    rcases hc with h1 | ⟨h1, h2⟩ | ⟨h1, h2, h3⟩ | ⟨h1, h2, h3, h4⟩
    all_goals
      go_enter Try.func19, Try.ntmps19
      go_wp2
      go_ret
      exact ⟨rfl, rfl⟩
  · have HP := Lib.hid (fun w => power_51 t.toNat (by omega) w)
    rw [show ((t.toNat : Nat) : Int) = t from by omega] at HP
    have hA := two_le (t := t.toNat) (by omega)
    have hpn : (ofN (2 ^ t.toNat)).toNat = 2 ^ t.toNat := ofN_toNat (by omega)
    obtain ⟨p, hp⟩ : ∃ p, ofN (2 ^ t.toNat) = p := ⟨_, rfl⟩
    rw [hp] at HP hpn
    have hx := W64_le x hpn
    have hy := W64_le y hpn
    have hxy := beqN x y
    clear hA hpn hp
    by_cases hX : 2 ^ t.toNat ≤ x.toNat
    · have e : ky51 most t b x.toNat y.toNat = 2 := by unfold ky51; rw [hk, if_neg (by simp), if_pos (Or.inl hX)]
      rw [e]
      rw [decide_eq_true hX] at hx
      clear hk e hX hy hxy
      go_enter Try.func19, Try.ntmps19
      go_wp2_with (go_at_call 16; refine (HP.out _).mono ?_; rintro e w' ⟨rfl, rfl⟩)
      go_ret
      exact ⟨rfl, rfl⟩
    · rw [decide_eq_false hX] at hx
      by_cases hY : 2 ^ t.toNat ≤ y.toNat
      · have e : ky51 most t b x.toNat y.toNat = 2 := by unfold ky51; rw [hk, if_neg (by simp), if_pos (Or.inr hY)]
        rw [e]
        rw [decide_eq_true hY] at hy
        clear hk e hX hY hxy
        go_enter Try.func19, Try.ntmps19
        go_wp2_with (go_at_call 16; refine (HP.out _).mono ?_; rintro e w' ⟨rfl, rfl⟩)
        go_ret
        exact ⟨rfl, rfl⟩
      · rw [decide_eq_false hY] at hy
        by_cases hE : x.toNat = y.toNat
        · have e : ky51 most t b x.toNat y.toNat = 15 := by unfold ky51; rw [hk, if_neg (by simp), if_neg (by omega), if_pos hE]
          rw [e]
          rw [decide_eq_true hE] at hxy
          clear hk e hX hY hE
          go_enter Try.func19, Try.ntmps19
          go_wp2_with (go_at_call 16; refine (HP.out _).mono ?_; rintro e w' ⟨rfl, rfl⟩)
          go_ret
          exact ⟨rfl, rfl⟩
        · have e : ky51 most t b x.toNat y.toNat = 0 := by unfold ky51; rw [hk, if_neg (by simp), if_neg (by omega), if_neg hE]
          rw [e]
          rw [decide_eq_false hE] at hxy
          clear hk e hX hY hE
          go_enter Try.func19, Try.ntmps19
          go_wp2_with (go_at_call 16; refine (HP.out _).mono ?_; rintro e w' ⟨rfl, rfl⟩)
          go_ret
          exact ⟨rfl, rfl⟩
set_option maxHeartbeats 1000000 in
theorem high_51 (z t b : Nat) (ht : t ≤ 24) (hb : b ≤ t) (hz : z < 18446744073709551616) (w : World) : Calls Try.prog 40 #[.int .u64 (W64 (ofN z)), .int .i64 (t : Int), .int .i64 (b : Int)] w fun e w' => e = .returned (.int .u64 (W64 (ofN (z % 2 ^ t / 2 ^ (t - b))))) ∧ w' = w := by
  have hA := two_le ht
  have hA0 := Nat.two_pow_pos t
  have hsh : 1#64 <<< t = ofN (2 ^ t) := shl_ofN ht
  have hr : ofN z % ofN (2 ^ t) = ofN (z % 2 ^ t) := ofN_mod hz (by omega)
  have hz1 : ¬ W64 (ofN (2 ^ t)) = 0 := nzero (by omega) (by omega)
  have hm := Nat.mod_lt z hA0
  have hq : ofN (z % 2 ^ t) >>> (t - b) = ofN (z % 2 ^ t / 2 ^ (t - b)) := by
    apply BitVec.eq_of_toNat_eq
    rw [BitVec.toNat_ushiftRight, ofN_toNat (by omega), ofN_toNat (Nat.lt_of_le_of_lt (Nat.div_le_self _ _) (by omega)), Nat.shiftRight_eq_div_pow]
  have ht0 : (0 : Int) ≤ (t : Int) := by omega
  obtain ⟨pA, hpA⟩ : ∃ p, ofN (2 ^ t) = p := ⟨_, rfl⟩
  obtain ⟨pz, hpz⟩ : ∃ p, ofN z = p := ⟨_, rfl⟩
  obtain ⟨pr, hpr⟩ : ∃ p, ofN (z % 2 ^ t) = p := ⟨_, rfl⟩
  rw [hpA] at hsh hr hz1
  rw [hpz, hpr] at hr
  rw [hpr] at hq
  rw [hpz]
  obtain ⟨pq, hpq⟩ : ∃ p, ofN (z % 2 ^ t / 2 ^ (t - b)) = p := ⟨_, rfl⟩
  rw [hpq] at hq ⊢
  clear hA hA0 hm hpA hpz hpr hpq
  go_enter Try.func40, Try.ntmps40
  go_wp2
  go_ret
  exact ⟨rfl, rfl⟩
/-- how often two keys meet by odd multipliers, of the first ones -/
def od51 (t p x y k : Nat) : Nat := cntN (fun h => (2 * h + 1) * x % 2 ^ t / 2 ^ p == (2 * h + 1) * y % 2 ^ t / 2 ^ p) k
theorem od_step (t p x y k : Nat) : ofN (od51 t p x y (k + 1)) = if ((2 * k + 1) * x % 2 ^ t / 2 ^ p == (2 * k + 1) * y % 2 ^ t / 2 ^ p) = true then ofN (od51 t p x y k) + 1#64 else ofN (od51 t p x y k) := by
  unfold od51
  rw [cntN]
  split
  · rename_i h; rw [h, ofN_succ]; rfl
  · rename_i h; rw [Bool.not_eq_true] at h; rw [h]; rfl
theorem ofN_inj {a b : Nat} (ha : a < 18446744073709551616) (hb : b < 18446744073709551616) : (ofN a == ofN b) = (a == b) := by
  rw [Bool.eq_iff_iff, beq_iff_eq, beq_iff_eq]
  exact ⟨fun h => by have := congrArg BitVec.toNat h; rwa [ofN_toNat ha, ofN_toNat hb] at this, fun h => by rw [h]⟩
theorem prod_small {k x t : Nat} (ht : t ≤ 12) (hk : k < 2 ^ (t - 1)) (h1 : 1 ≤ t) (hx : x < 2 ^ t) : (2 * k + 1) * x < 33554432 := by
  have h4 : 2 ^ t ≤ 4096 := Nat.le_trans (Nat.pow_le_pow_right (by omega) ht) (by decide)
  have h2 : 2 ^ t = 2 * 2 ^ (t - 1) := by
    obtain ⟨k, rfl⟩ : ∃ k, t = k + 1 := ⟨t - 1, by omega⟩
    rw [Nat.pow_succ, Nat.add_sub_cancel]; omega
  have h3 : (2 * k + 1) * x ≤ 4096 * 4096 := Nat.mul_le_mul (by omega) (by omega)
  omega
set_option maxHeartbeats 2000000 in
theorem odd_51 (t b : Nat) (ht : 1 ≤ t ∧ t ≤ 12) (hb : 1 ≤ b ∧ b ≤ t) (x y : Nat) (hx : x < 2 ^ t) (hy : y < 2 ^ t) (hne : ¬ x = y) (w : World) :
    Calls Try.prog 18 #[.int .i64 (t : Int), .int .i64 (b : Int), .int .u64 (W64 (ofN x)), .int .u64 (W64 (ofN y))] w fun e w' => e = .returned (.tuple #[.int .u64 (W64 (ofN (od51 t (t - b) x y (2 ^ (t - 1))))), .int .i64 0]) ∧ w' = w := by
  have h4 : 2 ^ t ≤ 4096 := Nat.le_trans (Nat.pow_le_pow_right (by omega) ht.2) (by decide)
  have hk := keys_51 12 (by omega) (t : Int) (b : Int) (ofN x) (ofN y)
  rw [ofN_toNat (by omega), ofN_toNat (by omega)] at hk
  have hz : ky51 12 (t : Int) (b : Int) x y = 0 := by
    unfold ky51
    have hf : kyA 12 (t : Int) (b : Int) = false := by unfold kyA; rw [decide_eq_false (by omega), decide_eq_false (by omega), decide_eq_false (by omega), decide_eq_false (by omega)]; rfl
    rw [hf, if_neg (by simp), if_neg (by rw [show (t : Int).toNat = t from rfl]; omega), if_neg hne]
  rw [hz] at hk
  have HK := Lib.hid hk
  have HH := Lib.hid (fun z (h : z < 18446744073709551616) w => high_51 z t b (by omega) hb.2 h w)
  have hA := two_le (t := t - 1) (by omega)
  have hsh : 1#64 <<< (t - 1) = ofN (2 ^ (t - 1)) := shl_ofN (by omega)
  have ht1 : (0 : Int) ≤ (t : Int) - 1 := by omega
  have hw1 : ((t : Int) - 1).toNat = t - 1 := by omega
  have HPS : Hid (∀ k, k < 2 ^ (t - 1) → (2 * k + 1) * x < 33554432 ∧ (2 * k + 1) * y < 33554432) := Lib.hid (fun k hk => ⟨prod_small ht.2 hk ht.1 hx, prod_small ht.2 hk ht.1 hy⟩)
  have HOD := Lib.hid (fun k => od_step t (t - b) x y k)
  have HT2 : Hid (2 ^ t ≤ 4096) := Lib.hid h4
  obtain ⟨H, hH⟩ : ∃ H, 2 ^ (t - 1) = H := ⟨_, rfl⟩
  rw [hH] at hA hsh HPS
  rw [hH]
  obtain ⟨pH, hpH⟩ : ∃ z, ofN H = z := ⟨_, rfl⟩
  rw [hpH] at hsh
  have HPH := Lib.hid hpH
  have HZ : Hid (W64 0#64 = 0) := Lib.hid (W64_lit 0 (by omega))
  obtain ⟨px, hpx⟩ : ∃ z, ofN x = z := ⟨_, rfl⟩
  obtain ⟨py, hpy⟩ : ∃ z, ofN y = z := ⟨_, rfl⟩
  rw [hpx, hpy] at HK
  rw [hpx, hpy]
  have HPX := Lib.hid hpx
  have HPY := Lib.hid hpy
  have HTT := Lib.hid ht
  have HAA := Lib.hid hA
  clear hk hz hH hpH hpx hpy h4 hx hy hne hA
  go_enter Try.func18, Try.ntmps18
  go_wp2_with fail
  refine (HK.out _).mono ?_
  rintro e w' ⟨rfl, hw⟩
  replace hw := hw.symm
  subst hw
  go_wp2_with fail
  go_loop [11, 25] (fun cv hv => ∃ k : Nat, k ≤ H ∧ cv = .int .u64 (W64 (ofN (od51 t (t - b) x y k))) ∧ hv = .int .u64 (W64 (ofN k))) (fun _ hv => H - (intOf hv).toNat)
  case atStart => exact ⟨0, Nat.zero_le _, by rw [show ofN (od51 t (t - b) x y 0) = 0#64 from rfl, HZ.out], by rw [show ofN 0 = 0#64 from rfl, HZ.out]⟩
  case round =>
    obtain ⟨k, hk, rfl, rfl⟩ := hrel
    have hAA := HAA.out
    by_cases hlt : k < H
    · have hps := HPS.out k hlt
      have hd : decide (W64 (ofN k) < W64 pH) = true := decide_eq_true (by rw [← HPH.out, W64_ofN (by omega), W64_ofN (by omega)]; omega)
      have hs := ofN_succ k
      have HM : Hid (H - (W64 (ofN (k + 1))).toNat < H - (W64 (ofN k)).toNat) := Lib.hid (by rw [W64_ofN (by omega), W64_ofN (by omega)]; omega)
      have h2 : 2#64 * ofN k + 1#64 = ofN (2 * k + 1) := by rw [show (2#64 : BitVec 64) = ofN 2 from rfl, ofN_mul, ofN_succ]
      have m1 : ofN (2 * k + 1) * px = ofN ((2 * k + 1) * x) := by rw [← HPX.out, ofN_mul]
      have m2 : ofN (2 * k + 1) * py = ofN ((2 * k + 1) * y) := by rw [← HPY.out, ofN_mul]
      have HC1 := Lib.hid (fun w => HH.out ((2 * k + 1) * x) (by omega) w)
      have HC2 := Lib.hid (fun w => HH.out ((2 * k + 1) * y) (by omega) w)
      have hst := HOD.out k
      have hT2 := HT2.out
      have hb1 : (2 * k + 1) * x % 2 ^ t / 2 ^ (t - b) < 18446744073709551616 := Nat.lt_of_le_of_lt (Nat.div_le_self _ _) (by have := Nat.mod_lt ((2 * k + 1) * x) (Nat.two_pow_pos t); omega)
      have hb2 : (2 * k + 1) * y % 2 ^ t / 2 ^ (t - b) < 18446744073709551616 := Nat.lt_of_le_of_lt (Nat.div_le_self _ _) (by have := Nat.mod_lt ((2 * k + 1) * y) (Nat.two_pow_pos t); omega)
      have heq := ofN_inj hb1 hb2
      obtain ⟨c0, hc0⟩ : ∃ z, ofN (od51 t (t - b) x y k) = z := ⟨_, rfl⟩
      obtain ⟨c1, hc1⟩ : ∃ z, ofN (od51 t (t - b) x y (k + 1)) = z := ⟨_, rfl⟩
      obtain ⟨xk, hxk⟩ : ∃ z, ofN k = z := ⟨_, rfl⟩
      obtain ⟨xl, hxl⟩ : ∃ z, ofN (k + 1) = z := ⟨_, rfl⟩
      obtain ⟨xa, hxa⟩ : ∃ z, ofN (2 * k + 1) = z := ⟨_, rfl⟩
      obtain ⟨u1, hu1⟩ : ∃ z, ofN ((2 * k + 1) * x) = z := ⟨_, rfl⟩
      obtain ⟨u2, hu2⟩ : ∃ z, ofN ((2 * k + 1) * y) = z := ⟨_, rfl⟩
      obtain ⟨v1, hv1⟩ : ∃ z, (2 * k + 1) * x % 2 ^ t / 2 ^ (t - b) = z := ⟨_, rfl⟩
      obtain ⟨v2, hv2⟩ : ∃ z, (2 * k + 1) * y % 2 ^ t / 2 ^ (t - b) = z := ⟨_, rfl⟩
      rw [hv1] at HC1
      rw [hv2] at HC2
      rw [hv1, hv2] at hst heq
      obtain ⟨r1, hr1⟩ : ∃ z, ofN v1 = z := ⟨_, rfl⟩
      obtain ⟨r2, hr2⟩ : ∃ z, ofN v2 = z := ⟨_, rfl⟩
      rw [hc0, hc1] at hst
      rw [hxk, hxl] at hs HM
      rw [hxk, hxa] at h2
      rw [hxa, hu1] at m1
      rw [hxa, hu2] at m2
      rw [hu1, hr1] at HC1
      rw [hu2, hr2] at HC2
      rw [hr1, hr2] at heq
      rw [hc0]
      rw [hxk] at hd ⊢
      have HXL := Lib.hid hxl
      have HC := Lib.hid hc1
      rcases hv : (v1 == v2) with _ | _
      · rw [hv] at heq hst
        have hst2 : c1 = c0 := hst
        clear hst hps hT2 hb1 hb2 hc0 hc1 hxk hxl hxa hu1 hu2 hv1 hv2 hr1 hr2 hv hAA
        go_wp2_with fail
        refine (HC1.out _).mono ?_
        rintro e w' ⟨rfl, hw⟩
        replace hw := hw.symm
        subst hw
        go_wp2_with fail
        refine (HC2.out _).mono ?_
        rintro e w' ⟨rfl, hw⟩
        replace hw := hw.symm
        subst hw
        go_wp2
        exact ⟨⟨k + 1, by omega, by rw [HC.out, hst2], by rw [HXL.out]⟩, by simpa [intOf] using HM.out⟩
      · rw [hv] at heq hst
        have hst2 : c0 + 1#64 = c1 := hst.symm
        clear hst hps hT2 hb1 hb2 hc0 hc1 hxk hxl hxa hu1 hu2 hv1 hv2 hr1 hr2 hv hAA
        go_wp2_with fail
        refine (HC1.out _).mono ?_
        rintro e w' ⟨rfl, hw⟩
        replace hw := hw.symm
        subst hw
        go_wp2_with fail
        refine (HC2.out _).mono ?_
        rintro e w' ⟨rfl, hw⟩
        replace hw := hw.symm
        subst hw
        go_wp2
        exact ⟨⟨k + 1, by omega, by rw [HC.out], by rw [HXL.out]⟩, by simpa [intOf] using HM.out⟩
    · obtain rfl : k = H := by omega
      have hd : decide (W64 (ofN k) < W64 pH) = false := decide_eq_false (by rw [HPH.out]; omega)
      clear hAA
      go_wp2
      go_ret2
      exact ⟨rfl, rfl⟩
set_option maxHeartbeats 2000000 in
theorem rodd_51 (t b : Nat) (ht : 1 ≤ t ∧ t ≤ 12) (hb : 1 ≤ b ∧ b ≤ t) (x y : Nat) (hx : x < 2 ^ t) (hy : y < 2 ^ t) (w : World) :
    Calls Try.prog 20 #[.int .i64 (t : Int), .int .i64 (b : Int), .int .u64 (W64 (ofN x)), .int .u64 (W64 (ofN y))] w fun e w' => e = .returned (.int .u64 (W64 (ofN (od51 t (t - b) x y (2 ^ (t - 1)))))) ∧ New w w' := by
  have h4 : 2 ^ t ≤ 4096 := Nat.le_trans (Nat.pow_le_pow_right (by omega) ht.2) (by decide)
  have hA := two_le (t := t - 1) (by omega)
  have h2w : 2 ^ t = 2 * 2 ^ (t - 1) := by
    obtain ⟨k, rfl⟩ : ∃ k, t = k + 1 := ⟨t - 1, by omega⟩
    rw [Nat.pow_succ, Nat.add_sub_cancel]; omega
  have h2p : 2 ^ (t - b) ≤ 2 ^ t := Nat.pow_le_pow_right (by omega) (by omega)
  have hp0 := Nat.two_pow_pos (t - b)
  have hA0 := Nat.two_pow_pos t
  have HP := Lib.hid (fun w => power_51 t (by omega) w)
  have HPB := Lib.hid (fun w => power_51 (t - b) (by omega) w)
  rw [show ((t - b : Nat) : Int) = (t : Int) - (b : Int) from by omega] at HPB
  have HPS : Hid (∀ k, k < 2 ^ (t - 1) → (2 * k + 1) * x < 33554432 ∧ (2 * k + 1) * y < 33554432) := Lib.hid (fun k hk => ⟨prod_small ht.2 hk ht.1 hx, prod_small ht.2 hk ht.1 hy⟩)
  have HOD := Lib.hid (fun k => od_step t (t - b) x y k)
  have hz1 : ¬ W64 (ofN (2 ^ t)) = 0 := nzero (by omega) (by omega)
  have hz2 : ¬ W64 (ofN (2 ^ (t - b))) = 0 := nzero (by omega) (by omega)
  obtain ⟨H, hH⟩ : ∃ H, 2 ^ (t - 1) = H := ⟨_, rfl⟩
  obtain ⟨A, hAe⟩ : ∃ A, 2 ^ t = A := ⟨_, rfl⟩
  obtain ⟨P, hPe⟩ : ∃ P, 2 ^ (t - b) = P := ⟨_, rfl⟩
  rw [hH] at hA HPS h2w
  rw [hAe] at HP HOD hz1 h2w h4 h2p hA0
  rw [hPe] at HPB HOD hz2 h2p hp0
  rw [hH]
  obtain ⟨pA, hpA⟩ : ∃ z, ofN A = z := ⟨_, rfl⟩
  obtain ⟨pP, hpP⟩ : ∃ z, ofN P = z := ⟨_, rfl⟩
  rw [hpA] at HP hz1
  rw [hpP] at HPB hz2
  have HPA := Lib.hid hpA
  have HPP := Lib.hid hpP
  have HZ : Hid (W64 0#64 = 0) := Lib.hid (W64_lit 0 (by omega))
  obtain ⟨px, hpx⟩ : ∃ z, ofN x = z := ⟨_, rfl⟩
  obtain ⟨py, hpy⟩ : ∃ z, ofN y = z := ⟨_, rfl⟩
  rw [hpx, hpy]
  have HPX := Lib.hid hpx
  have HPY := Lib.hid hpy
  have HB : Hid (H ≤ 16777216 ∧ A = 2 * H ∧ A ≤ 4096 ∧ P ≤ A ∧ 0 < P ∧ 0 < A) := Lib.hid ⟨hA, h2w, h4, h2p, hp0, hA0⟩
  have HONE : Hid (W64 (ofN (2 * 0 + 1)) = 1) := Lib.hid (by unfold W64 ofN; decide +kernel)
  clear hH hAe hPe hpA hpP hpx hpy h4 hx hy hA h2w h2p hp0 hA0
  go_enter Try.func20, Try.ntmps20
  go_wp2_with fail
  refine (HP.out _).mono ?_
  rintro e w' ⟨rfl, hw⟩
  replace hw := hw.symm
  subst hw
  go_wp2_with fail
  refine (HPB.out _).mono ?_
  rintro e w' ⟨rfl, hw⟩
  replace hw := hw.symm
  subst hw
  go_wp2_with fail
  go_loopw [9, 12] (fun cv av wr => ∃ k : Nat, k ≤ H ∧ cv = .int .u64 (W64 (ofN (od51 t (t - b) x y k))) ∧ av = .int .u64 (W64 (ofN (2 * k + 1))) ∧ Hid (New w wr)) (fun _ av _ => 2 * H + 1 - (intOf av).toNat)
  case atStart => exact ⟨0, Nat.zero_le _, by rw [show ofN (od51 t (t - b) x y 0) = 0#64 from rfl, HZ.out], by rw [HONE.out], Lib.hid (New.refl _)⟩
  case round =>
    obtain ⟨k, hk, rfl, rfl, HN⟩ := hrel
    obtain ⟨hA, h2w, h4, h2p, hp0, hA0⟩ := HB.out
    by_cases hlt : k < H
    · have hps := HPS.out k hlt
      have hd : decide (W64 (ofN (2 * k + 1)) < W64 pA) = true := decide_eq_true (by rw [← HPA.out, W64_ofN (by omega), W64_ofN (by omega)]; omega)
      have hs : ofN (2 * k + 1) + 2#64 = ofN (2 * (k + 1) + 1) := by unfold ofN; rw [show 2 * (k + 1) + 1 = 2 * k + 1 + 2 from by omega, BitVec.ofNat_add (2 * k + 1) 2]
      have HM : Hid (2 * H + 1 - (W64 (ofN (2 * (k + 1) + 1))).toNat < 2 * H + 1 - (W64 (ofN (2 * k + 1))).toNat) := Lib.hid (by rw [W64_ofN (by omega), W64_ofN (by omega)]; omega)
      have m1 : ofN (2 * k + 1) * px = ofN ((2 * k + 1) * x) := by rw [← HPX.out, ofN_mul]
      have m2 : ofN (2 * k + 1) * py = ofN ((2 * k + 1) * y) := by rw [← HPY.out, ofN_mul]
      have hl1 := Nat.mod_lt ((2 * k + 1) * x) hA0
      have hl2 := Nat.mod_lt ((2 * k + 1) * y) hA0
      have n1 : ofN ((2 * k + 1) * x) % pA = ofN ((2 * k + 1) * x % A) := by rw [← HPA.out]; exact ofN_mod (by omega) (by omega)
      have n2 : ofN ((2 * k + 1) * y) % pA = ofN ((2 * k + 1) * y % A) := by rw [← HPA.out]; exact ofN_mod (by omega) (by omega)
      have o1 : ofN ((2 * k + 1) * x % A) / pP = ofN ((2 * k + 1) * x % A / P) := by rw [← HPP.out]; exact ofN_div (by omega) (by omega)
      have o2 : ofN ((2 * k + 1) * y % A) / pP = ofN ((2 * k + 1) * y % A / P) := by rw [← HPP.out]; exact ofN_div (by omega) (by omega)
      have hst := HOD.out k
      have hb1 : (2 * k + 1) * x % A / P < 18446744073709551616 := Nat.lt_of_le_of_lt (Nat.div_le_self _ _) (by omega)
      have hb2 : (2 * k + 1) * y % A / P < 18446744073709551616 := Nat.lt_of_le_of_lt (Nat.div_le_self _ _) (by omega)
      have heq := ofN_inj hb1 hb2
      obtain ⟨c0, hc0⟩ : ∃ z, ofN (od51 t (t - b) x y k) = z := ⟨_, rfl⟩
      obtain ⟨c1, hc1⟩ : ∃ z, ofN (od51 t (t - b) x y (k + 1)) = z := ⟨_, rfl⟩
      obtain ⟨xa, hxa⟩ : ∃ z, ofN (2 * k + 1) = z := ⟨_, rfl⟩
      obtain ⟨xl, hxl⟩ : ∃ z, ofN (2 * (k + 1) + 1) = z := ⟨_, rfl⟩
      obtain ⟨u1, hu1⟩ : ∃ z, ofN ((2 * k + 1) * x) = z := ⟨_, rfl⟩
      obtain ⟨u2, hu2⟩ : ∃ z, ofN ((2 * k + 1) * y) = z := ⟨_, rfl⟩
      obtain ⟨s1, hs1⟩ : ∃ z, ofN ((2 * k + 1) * x % A) = z := ⟨_, rfl⟩
      obtain ⟨s2, hs2⟩ : ∃ z, ofN ((2 * k + 1) * y % A) = z := ⟨_, rfl⟩
      obtain ⟨v1, hv1⟩ : ∃ z, (2 * k + 1) * x % A / P = z := ⟨_, rfl⟩
      obtain ⟨v2, hv2⟩ : ∃ z, (2 * k + 1) * y % A / P = z := ⟨_, rfl⟩
      rw [hs1, hv1] at o1
      rw [hs2, hv2] at o2
      rw [hv1, hv2] at hst heq
      obtain ⟨r1, hr1⟩ : ∃ z, ofN v1 = z := ⟨_, rfl⟩
      obtain ⟨r2, hr2⟩ : ∃ z, ofN v2 = z := ⟨_, rfl⟩
      rw [hc0, hc1] at hst
      rw [hxa, hxl] at hs HM
      rw [hxa, hu1] at m1
      rw [hxa, hu2] at m2
      rw [hu1, hs1] at n1
      rw [hu2, hs2] at n2
      rw [hr1] at o1
      rw [hr2] at o2
      rw [hr1, hr2] at heq
      rw [hc0]
      rw [hxa] at hd ⊢
      have HXL := Lib.hid hxl
      have HC := Lib.hid hc1
      have HN9 : Hid (∀ n, New w (wr.drewN n)) := Lib.hid (fun n => HN.out.drewN n)
      rcases hv : (v1 == v2) with _ | _
      · rw [hv] at heq hst
        have hst2 : c1 = c0 := hst
        clear hst hps hb1 hb2 hc0 hc1 hxa hxl hu1 hu2 hs1 hs2 hv1 hv2 hr1 hr2 hv hA h2w h4 h2p hp0 hA0 hl1 hl2 HN
        go_wp2_with fail
        go_quiet (fail)
        go_wp2
        exact ⟨⟨k + 1, by omega, by rw [HC.out, hst2], by rw [HXL.out], Lib.hid (HN9.out nq)⟩, by simpa [intOf] using HM.out⟩
      · rw [hv] at heq hst
        have hst2 : c0 + 1#64 = c1 := hst.symm
        clear hst hps hb1 hb2 hc0 hc1 hxa hxl hu1 hu2 hs1 hs2 hv1 hv2 hr1 hr2 hv hA h2w h4 h2p hp0 hA0 hl1 hl2 HN
        go_wp2_with fail
        go_quiet (fail)
        go_wp2
        exact ⟨⟨k + 1, by omega, by rw [HC.out], by rw [HXL.out], Lib.hid (HN9.out nq)⟩, by simpa [intOf] using HM.out⟩
    · obtain rfl : k = H := by omega
      have hd : decide (W64 (ofN (2 * k + 1)) < W64 pA) = false := decide_eq_false (by rw [← HPA.out, W64_ofN (by omega), W64_ofN (by omega)]; omega)
      clear hA h2w h4 h2p hp0 hA0
      go_wp2
      go_ret
      exact ⟨rfl, HN.out⟩
theorem ky_zero {t b : Int} {x y : Nat} (h : ky51 12 t b x y = 0) : (1 ≤ t ∧ t ≤ 12) ∧ (1 ≤ b ∧ b ≤ t) ∧ x < 2 ^ t.toNat ∧ y < 2 ^ t.toNat ∧ ¬ x = y := by
  unfold ky51 at h
  rcases kyA_cases (most := 12) (t := t) (b := b) with ⟨hk, _⟩ | ⟨hk, h1, h2, h3, h4⟩
  · rw [hk] at h; simp at h
  · rw [hk, if_neg (by simp)] at h
    split at h
    · omega
    · split at h
      · omega
      · rename_i h5 h6
        exact ⟨by omega, by omega, by omega, by omega, h6⟩
set_option maxHeartbeats 1000000 in
theorem odd_bad51 (t b : Int) (x y : BitVec 64) (h : ¬ ky51 12 t b x.toNat y.toNat = 0) (w : World) :
    Calls Try.prog 18 #[.int .i64 t, .int .i64 b, .int .u64 (W64 x), .int .u64 (W64 y)] w fun e w' => e = .returned (.tuple #[.int .u64 0, .int .i64 (ky51 12 t b x.toNat y.toNat)]) ∧ w' = w := by
  have HK := Lib.hid (keys_51 12 (by omega) t b x y)
  obtain ⟨z, hz⟩ : ∃ z, ky51 12 t b x.toNat y.toNat = z := ⟨_, rfl⟩
  rw [hz] at HK h ⊢
  clear hz
  go_enter Try.func18, Try.ntmps18
  go_wp2_with fail
  refine (HK.out _).mono ?_
  rintro e w' ⟨rfl, hw⟩
  replace hw := hw.symm
  subst hw
  go_wp2
  go_ret2
  exact ⟨rfl, rfl⟩
set_option maxHeartbeats 2000000 in
theorem TallyOdds_walk (W : World) (a0 : Int) (w0 : (Lit.int .i64 a0).wf = true) (a1 : Int) (w1 : (Lit.int .i64 a1).wf = true) (a2 : Int) (w2 : (Lit.int .u64 a2).wf = true) (a3 : Int) (w3 : (Lit.int .u64 a3).wf = true) :
    Calls Try.prog 4 #[.int .i64 a0, .int .i64 a1, .int .u64 a2, .int .u64 a3] W fun e w' => e = .returned (.bool true) ∧ Below W.heap.size W w' := by
  obtain ⟨x, rfl⟩ := wf64 w2
  obtain ⟨y, rfl⟩ := wf64 w3
  clear w0 w1 w2 w3
  have HRK := Lib.hid (rkeys_51 12 (by omega) a0 a1 x y)
  by_cases hb : ky51 12 a0 a1 x.toNat y.toNat = 0
  · obtain ⟨h1, h2, h3, h4, h5⟩ := ky_zero hb
    rw [hb] at HRK
    obtain ⟨t, rfl⟩ : ∃ t : Nat, a0 = (t : Int) := ⟨a0.toNat, by omega⟩
    obtain ⟨b, rfl⟩ : ∃ b : Nat, a1 = (b : Int) := ⟨a1.toNat, by omega⟩
    rw [show (t : Int).toNat = t from rfl] at h3 h4
    have ho := odd_51 t b (by omega) (by omega) x.toNat y.toNat h3 h4 h5
    have hr := rodd_51 t b (by omega) (by omega) x.toNat y.toNat h3 h4
    rw [ofN_of, ofN_of] at ho hr
    have HO := Lib.hid ho
    have HR := Lib.hid hr
    have hle := odds_le (w := t) (p := t - b) (x := x.toNat) (y := y.toNat) (by omega) (by omega) h3 h4 h5
    have h6 : 2 ^ (t - b) ≤ 4096 := Nat.le_trans (Nat.pow_le_pow_right (by omega) (by omega)) (show 2 ^ 12 ≤ 4096 by decide)
    have hle2 : od51 t (t - b) x.toNat y.toNat (2 ^ (t - 1)) ≤ 2 ^ (t - b) := hle
    have hd : decide (W64 (ofN (od51 t (t - b) x.toNat y.toNat (2 ^ (t - 1)))) ≤ W64 (ofN (2 ^ (t - b)))) = true := decide_eq_true (by rw [W64_ofN (by omega), W64_ofN (by omega)]; omega)
    have HPB := Lib.hid (fun w => power_51 (t - b) (by omega) w)
    rw [show ((t - b : Nat) : Int) = (t : Int) - (b : Int) from by omega] at HPB
    have hti : (1 : Int) ≤ (t : Int) ∧ (t : Int) ≤ 12 := by omega
    have hbi : (1 : Int) ≤ (b : Int) ∧ (b : Int) ≤ (t : Int) := by omega
    obtain ⟨c, hc⟩ : ∃ z, ofN (od51 t (t - b) x.toNat y.toNat (2 ^ (t - 1))) = z := ⟨_, rfl⟩
    obtain ⟨p, hp⟩ : ∃ z, ofN (2 ^ (t - b)) = z := ⟨_, rfl⟩
    rw [hc] at hd HO HR
    rw [hp] at hd HPB
    clear hc hp hle hle2 h6 ho hr h1 h2 h3 h4 h5 hb
    go_enter Try.func4, Try.ntmps4
    go_wp2_with fail
    refine (awake51 _).mono ?_
    rintro e wa ⟨rfl, na⟩
    have HNa := Lib.hid na
    clear na
    go_wp2_with fail
    refine (HO.out _).mono ?_
    rintro e w' ⟨rfl, hw⟩
    replace hw := hw.symm
    subst hw
    go_wp2_with fail
    refine (HRK.out _).mono ?_
    rintro e w' ⟨rfl, hw⟩
    replace hw := hw.symm
    subst hw
    go_wp2_with fail
    refine (HR.out _).mono ?_
    rintro e wb ⟨rfl, nb⟩
    have HNb := Lib.hid (HNa.out.trans nb)
    clear nb
    go_wp2_with fail
    refine (HPB.out _).mono ?_
    rintro e w' ⟨rfl, hw⟩
    replace hw := hw.symm
    subst hw
    go_wp2
    go_ret
    exact ⟨rfl, HNb.out⟩
  · have HO := Lib.hid (odd_bad51 a0 a1 x y hb)
    obtain ⟨z, hz⟩ : ∃ z, ky51 12 a0 a1 x.toNat y.toNat = z := ⟨_, rfl⟩
    rw [hz] at HO HRK hb
    have hb1 : (z != 0) = true := by simpa using hb
    have hb2 : (z == z) = true := by simp
    clear hz hb
    go_enter Try.func4, Try.ntmps4
    go_wp2_with fail
    refine (awake51 _).mono ?_
    rintro e wa ⟨rfl, na⟩
    have HNa := Lib.hid na
    clear na
    go_wp2_with fail
    refine (HO.out _).mono ?_
    rintro e w' ⟨rfl, hw⟩
    replace hw := hw.symm
    subst hw
    go_wp2_with fail
    refine (HRK.out _).mono ?_
    rintro e w' ⟨rfl, hw⟩
    replace hw := hw.symm
    subst hw
    go_wp2
    go_ret
    exact ⟨rfl, HNa.out⟩
end Go.Proofs.Ytdiikoiadhdeoaa
