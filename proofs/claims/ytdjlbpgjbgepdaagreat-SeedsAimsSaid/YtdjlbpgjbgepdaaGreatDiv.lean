/- The contract of math/bits.Div64: for every two words and every greater divisor. -/
import Derived.Test.YtdjlbpgjbgepdaaGreatProg
import Derived.Test.YtdjlbpgjbgepdaaGreatShelf
import Derived.Test.YtdjlbpgjbgepdaaGreatDivM
import Derived.Deep.QuietTactic
import Derived.BigQuiet
namespace Go.Bv
open Go Go.RowKit
set_option linter.unusedVariables false
set_option maxRecDepth 100000
theorem nat_lt {x y : BitVec 64} (h : x.toNat < y.toNat) : decide (W64 x < W64 y) = true := decide_eq_true (by unfold W64; omega)
theorem nat_nlt {x y : BitVec 64} (h : ¬ x.toNat < y.toNat) : decide (W64 x < W64 y) = false := decide_eq_false (by unfold W64; omega)
theorem big32 {x : BitVec 64} (h : 4294967296 ≤ x.toNat) : decide (4294967296 ≤ W64 x) = true := decide_eq_true (by unfold W64; omega)
theorem small32 {x : BitVec 64} (h : x.toNat < 4294967296) : decide (4294967296 ≤ W64 x) = false := decide_eq_false (by unfold W64; omega)
theorem add_nat {x y : BitVec 64} (h : x.toNat + y.toNat < 18446744073709551616) : (x + y).toNat = x.toNat + y.toNat := by
  rw [BitVec.toNat_add]; exact Nat.mod_eq_of_lt h
theorem mul_nat {x y : BitVec 64} (h : x.toNat * y.toNat < 18446744073709551616) : (x * y).toNat = x.toNat * y.toNat := by
  rw [BitVec.toNat_mul]; exact Nat.mod_eq_of_lt h
theorem sub_nat {x y : BitVec 64} (h : y.toNat ≤ x.toNat) : (x - y).toNat = x.toNat - y.toNat := BitVec.toNat_sub_of_le h
theorem lit_nat (k : Nat) (h : k < 18446744073709551616) : (BitVec.ofNat 64 k).toNat = k := by rw [BitVec.toNat_ofNat]; exact Nat.mod_eq_of_lt h
theorem small_word {n : Nat} (h : n < 4294967296) : n < 18446744073709551616 := by omega
/-- a round of the guessing -/
theorem guess_round (u d yn q r yn1 yn0 : BitVec 64) (qt : BitVec 64) (h1 : yn1.toNat = yn.toNat / 4294967296) (h0 : yn0.toNat = yn.toNat % 4294967296)
    (h : Digit u.toNat d.toNat yn.toNat) (g : Guess u.toNat d.toNat yn.toNat q.toNat r.toNat) (hq : qt.toNat = (u.toNat * 4294967296 + d.toNat) / yn.toNat) :
    (decide (4294967296 ≤ W64 q) = false ∧ decide (W64 (4294967296#64 * r + d) < W64 (q * yn0)) = false ∧ q = qt) ∨
    (((decide (4294967296 ≤ W64 q) = true) ∨ (decide (4294967296 ≤ W64 q) = false ∧ decide (W64 (4294967296#64 * r + d) < W64 (q * yn0)) = true)) ∧
      ((decide (4294967296 ≤ W64 (r + yn1)) = true ∧ q - 1#64 = qt) ∨ (decide (4294967296 ≤ W64 (r + yn1)) = false ∧ r.toNat < (r + yn1).toNat ∧ Guess u.toNat d.toNat yn.toNat (q - 1#64).toNat (r + yn1).toNat))) := by
  have hl := digit_lt h
  have ht := guess_test h g
  have gs := g.small
  have hd := h.low
  have htop := h.top
  have hltop := h.lt
  have hr : (4294967296#64 * r + d).toNat = 4294967296 * r.toNat + d.toNat := by
    have e : (4294967296#64 * r).toNat = 4294967296 * r.toNat := mul_nat (by rw [lit_nat 4294967296 (by omega)]; omega)
    rw [add_nat (by rw [e]; omega), e]
  have hr1 : (r + yn1).toNat = r.toNat + yn.toNat / 4294967296 := by rw [add_nat (by omega), h1]
  have next : (u.toNat * 4294967296 + d.toNat) / yn.toNat < q.toNat → ((decide (4294967296 ≤ W64 (r + yn1)) = true ∧ q - 1#64 = qt) ∨ (decide (4294967296 ≤ W64 (r + yn1)) = false ∧ r.toNat < (r + yn1).toNat ∧ Guess u.toNat d.toNat yn.toNat (q - 1#64).toNat (r + yn1).toNat)) := by
    intro hgt
    have h00 : 0 < q.toNat := Nat.lt_of_le_of_lt (Nat.zero_le _) hgt
    have hq1 : (q - 1#64).toNat = q.toNat - 1 := sub_nat (by rw [show (1#64).toNat = 1 from rfl]; omega)
    by_cases hb : 4294967296 ≤ r.toNat + yn.toNat / 4294967296
    · left
      refine ⟨big32 (by rw [hr1]; exact hb), ?_⟩
      apply BitVec.eq_of_toNat_eq
      rw [hq1, hq]; exact guess_break h g hgt hb
    · right
      refine ⟨small32 (by rw [hr1]; omega), by rw [hr1]; omega, ?_⟩
      rw [hq1, hr1]; exact guess_next h g hgt (by omega)
  by_cases hA : 4294967296 ≤ q.toNat
  · exact Or.inr ⟨Or.inl (big32 hA), next (by omega)⟩
  · have hqy : (q * yn0).toNat = q.toNat * (yn.toNat % 4294967296) := by
      have : q.toNat * yn0.toNat ≤ 4294967295 * 4294967295 := Nat.mul_le_mul (by omega) (by omega)
      rw [mul_nat (by omega), h0]
    by_cases hB : (4294967296#64 * r + d).toNat < (q * yn0).toNat
    · exact Or.inr ⟨Or.inr ⟨small32 (by omega), nat_lt hB⟩, next (ht.1 (by rw [← hr, ← hqy]; exact hB))⟩
    · refine Or.inl ⟨small32 (by omega), nat_nlt hB, ?_⟩
      apply BitVec.eq_of_toNat_eq
      rw [hq]
      exact guess_end h g (fun hc => hB (by rw [hr, hqy]; exact ht.2 hc))
end Go.Bv
namespace Go.Proofs.YtdjlbpgjbgepdaaGreat
open Go.RowKit Go.Bv
set_option linter.unusedVariables false
theorem lead_any (y : BitVec 64) (s : Nat) (hs : s = 64 - Lib.bitLen y.toNat) (hl : Lib.bitLen y.toNat ≤ 64) (w : World) :
    Calls Tryz.prog 155 #[.int .u64 (W64 y)] w fun e w' => e = .returned (.int .i64 (W64 (BitVec.ofNat 64 s))) ∧ w' = w := by
  have hy := b64 y
  refine (Tryz.bits_LeadingZeros64 (W64 y) w hy.1 (by omega)).mono ?_
  rintro e w' ⟨rfl, rfl⟩
  refine ⟨retI ?_, rfl⟩
  rw [W64_lit s (by omega), show (W64 y).toNat = y.toNat by unfold W64; omega]
  omega
theorem meas {r r' : BitVec 64} (h : r.toNat < r'.toNat) (h2 : r.toNat < 4294967296) : 4294967296 - (intOf (.int .u64 (W64 r'))).toNat < 4294967296 - (intOf (.int .u64 (W64 r))).toNat := by
  have e : ∀ z : BitVec 64, (intOf (.int .u64 (W64 z))).toNat = z.toNat := fun z => by simp [intOf, W64]
  rw [e, e]; omega
set_option maxHeartbeats 4000000 in
theorem div64_any (hi lo y : BitVec 64) (hlt : hi.toNat < y.toNat) (w : World) :
    Calls Tryz.prog 127 #[.int .u64 (W64 hi), .int .u64 (W64 lo), .int .u64 (W64 y)] w fun e w' => e = .returned (.tuple #[.int .u64 (W64 (divQ hi lo y)), .int .u64 (W64 (divR hi lo y))]) ∧ New w w' := by
  have hy0 : (y == 0#64) = false := by rw [beq_eq_false_iff_ne]; intro e; rw [e] at hlt; simp at hlt
  have hyhi : decide (W64 y ≤ W64 hi) = false := decide_eq_false (by unfold W64; omega)
  by_cases h0 : hi = 0#64
  · subst h0
    have hq : lo / y = divQ 0#64 lo y := by
      apply BitVec.eq_of_toNat_eq
      rw [divQ_nat hlt, BitVec.toNat_udiv]; unfold two; simp
    have hr : lo % y = divR 0#64 lo y := by
      apply BitVec.eq_of_toNat_eq
      rw [divR_nat (by simpa using hlt), BitVec.toNat_umod]; unfold two; simp
    have hyn : ¬ W64 y = 0 := by unfold W64; simp at hlt; omega
    have HQ := Lib.hid hq
    have HR := Lib.hid hr
    clear hq hr hlt
    go_enter Tryz.func127, Tryz.ntmps127
    go_wp2
    go_quiet (fail)
    go_wp2
    go_ret2
    rw [HQ.out, HR.out]
    exact ⟨rfl, (New.refl _).drewN nq⟩
  · have hh : (hi == 0#64) = false := by rw [beq_eq_false_iff_ne]; exact h0
    have hypos : 0 < y.toNat := by omega
    have hbl : Lib.bitLen y.toNat ≤ 64 := Lib.bitLen_le y.toNat 64 (by omega) y.isLt
    obtain ⟨hb1, hb2, hb3⟩ := Lib.bitLenAux_bounds 64 y.toNat y.isLt (by omega)
    change 1 ≤ Lib.bitLen y.toNat at hb1
    change 2 ^ (Lib.bitLen y.toNat - 1) ≤ y.toNat at hb2
    change y.toNat < 2 ^ Lib.bitLen y.toNat at hb3
    obtain ⟨s, hs⟩ : ∃ s, s = 64 - Lib.bitLen y.toNat := ⟨_, rfl⟩
    have hs63 : s ≤ 63 := by omega
    have hlz := fun w => lead_any y s hs hbl w
    have hyn : y.toNat * 2 ^ s < 18446744073709551616 := by
      have := Nat.mul_lt_mul_of_pos_right hb3 (Nat.two_pow_pos s)
      rw [← Nat.pow_add, show Lib.bitLen y.toNat + s = 64 by omega] at this
      exact this
    have hyt : 9223372036854775808 ≤ y.toNat * 2 ^ s := by
      have := Nat.mul_le_mul_right (2 ^ s) hb2
      rw [← Nat.pow_add, show Lib.bitLen y.toNat - 1 + s = 63 by omega] at this
      exact this
    clear hb1 hb2 hb3 hs hbl
    obtain ⟨n1, n2, n3, n4⟩ := norm_parts hi lo y s hs63 hlt hyn
    have hsn : N64 (BitVec.ofNat 64 s) = s := lit_nat s (by omega)
    have hsn2 : N64 (64#64 - BitVec.ofNat 64 s) = 64 - s := by
      show (64#64 - BitVec.ofNat 64 s).toNat = 64 - s
      rw [sub_nat (by rw [lit_nat s (by omega)]; show s ≤ 64; omega), lit_nat s (by omega)]; rfl
    -- the parts by name
    obtain ⟨yn, eyn⟩ : ∃ z, y <<< s = z := ⟨_, rfl⟩
    obtain ⟨u, eu⟩ : ∃ z, hi <<< s ||| lo >>> (64 - s) = z := ⟨_, rfl⟩
    obtain ⟨v, ev⟩ : ∃ z, lo <<< s = z := ⟨_, rfl⟩
    rw [eyn] at n1
    rw [eu, ev] at n3
    rw [eu] at n4
    clear n2
    obtain ⟨yn1, eyn1⟩ : ∃ z, yn >>> 32 = z := ⟨_, rfl⟩
    obtain ⟨yn0, eyn0⟩ : ∃ z, yn &&& 4294967295#64 = z := ⟨_, rfl⟩
    obtain ⟨v1, ev1⟩ : ∃ z, v >>> 32 = z := ⟨_, rfl⟩
    obtain ⟨v0, ev0⟩ : ∃ z, v &&& 4294967295#64 = z := ⟨_, rfl⟩
    have upper : ∀ z : BitVec 64, (z >>> 32).toNat = z.toNat / 4294967296 := fun z => by
      rw [BitVec.toNat_ushiftRight, Nat.shiftRight_eq_div_pow]
    have lower : ∀ z : BitVec 64, (z &&& 4294967295#64).toNat = z.toNat % 4294967296 := fun z => by
      rw [BitVec.toNat_and]; exact Nat.and_two_pow_sub_one_eq_mod z.toNat 32
    have m1 : yn1.toNat = yn.toNat / 4294967296 := by rw [← eyn1]; exact upper yn
    have m0 : yn0.toNat = yn.toNat % 4294967296 := by rw [← eyn0]; exact lower yn
    have w1 : v1.toNat = v.toNat / 4294967296 := by rw [← ev1]; exact upper v
    have w0 : v0.toNat = v.toNat % 4294967296 := by rw [← ev0]; exact lower v
    have hv := v.isLt
    have hv0 : v0.toNat < 4294967296 := by omega
    have hyl := yn.isLt
    have D1 : Digit u.toNat v1.toNat yn.toNat := ⟨by omega, by omega, by omega, by omega⟩
    -- the first digit, and what is left
    obtain ⟨q1, eq1⟩ : ∃ z : BitVec 64, z = BitVec.ofNat 64 ((u.toNat * 4294967296 + v1.toNat) / yn.toNat) := ⟨_, rfl⟩
    have hq1l := digit_lt D1
    have hq1 : q1.toNat = (u.toNat * 4294967296 + v1.toNat) / yn.toNat := by rw [eq1]; exact lit_nat _ (small_word hq1l)
    have hyp : 0 < yn.toNat := by have := D1.top; omega
    have hdm1 := Nat.div_add_mod (u.toNat * 4294967296 + v1.toNat) yn.toNat
    have hml1 := Nat.mod_lt (u.toNat * 4294967296 + v1.toNat) hyp
    obtain ⟨r1, er1⟩ : ∃ z : BitVec 64, u * 4294967296#64 + v1 - q1 * yn = z := ⟨_, rfl⟩
    have hr1 : r1.toNat = (u.toNat * 4294967296 + v1.toNat) % yn.toNat := by rw [← er1]; exact rest_nat u v1 q1 yn hyp hq1
    have D0 : Digit r1.toNat v0.toNat yn.toNat := ⟨D1.top, D1.lt, hr1 ▸ hml1, hv0⟩
    obtain ⟨q0, eq0⟩ : ∃ z : BitVec 64, z = BitVec.ofNat 64 ((r1.toNat * 4294967296 + v0.toNat) / yn.toNat) := ⟨_, rfl⟩
    have hq0l := digit_lt D0
    have hq0 : q0.toNat = (r1.toNat * 4294967296 + v0.toNat) / yn.toNat := by rw [eq0]; exact lit_nat _ (small_word hq0l)
    have hdm0 := Nat.div_add_mod (r1.toNat * 4294967296 + v0.toNat) yn.toNat
    have hml0 := Nat.mod_lt (r1.toNat * 4294967296 + v0.toNat) hyp
    obtain ⟨r0, er0⟩ : ∃ z : BitVec 64, r1 * 4294967296#64 + v0 - q0 * yn = z := ⟨_, rfl⟩
    have hr0 : r0.toNat = (r1.toNat * 4294967296 + v0.toNat) % yn.toNat := by rw [← er0]; exact rest_nat r1 v0 q0 yn hyp hq0
    -- both digits are the quotient, and what is left, moved back, the rest
    obtain ⟨t1, t2⟩ := two_digits u.toNat v.toNat yn.toNat q1.toNat r1.toNat hyp (by rw [hq1, hr1, hdm1, w1])
    rw [n3, n1, Nat.mul_div_mul_right _ _ (Nat.two_pow_pos s)] at t1
    rw [n3, n1, Nat.mul_mod_mul_right] at t2
    rw [← w0, ← n1, ← hq0] at t1
    rw [← w0, ← n1, ← hr0] at t2
    have HQ : Hid (q1 * 4294967296#64 + q0 = divQ hi lo y) := Lib.hid (by
      apply BitVec.eq_of_toNat_eq
      rw [divQ_nat hlt, t1, BitVec.toNat_add, BitVec.toNat_mul, show (4294967296#64).toNat = 4294967296 from rfl]
      omega)
    have HR : Hid (r0 >>> s = divR hi lo y) := Lib.hid (by
      apply BitVec.eq_of_toNat_eq
      rw [divR_nat hypos, BitVec.toNat_ushiftRight, Nat.shiftRight_eq_div_pow, ← t2, Nat.mul_div_cancel _ (Nat.two_pow_pos s)])
    have HST1 : Hid (∀ q r : BitVec 64, Guess u.toNat v1.toNat yn.toNat q.toNat r.toNat → _) := Lib.hid fun q r g => guess_round u v1 yn q r yn1 yn0 q1 m1 m0 D1 g hq1
    have HST0 : Hid (∀ q r : BitVec 64, Guess r1.toNat v0.toNat yn.toNat q.toNat r.toNat → _) := Lib.hid fun q r g => guess_round r1 v0 yn q r yn1 yn0 q0 m1 m0 D0 g hq0
    have start : ∀ a d : BitVec 64, Digit a.toNat d.toNat yn.toNat → Guess a.toNat d.toNat yn.toNat (a / yn1).toNat (a - a / yn1 * yn1).toNat := by
      intro a d hD
      have g := guess_start hD
      have e1 : (a / yn1).toNat = a.toNat / (yn.toNat / 4294967296) := by rw [BitVec.toNat_udiv, m1]
      have e2 : (a / yn1 * yn1).toNat = a.toNat / (yn.toNat / 4294967296) * (yn.toNat / 4294967296) := by
        rw [mul_nat (by rw [e1, m1]; have := Nat.div_mul_le_self a.toNat (yn.toNat / 4294967296); have := a.isLt; omega), e1, m1]
      rw [sub_nat (by rw [e2]; exact Nat.div_mul_le_self _ _), e2, e1]
      exact g
    have HG1 := Lib.hid (start u v1 D1)
    have HG0 := Lib.hid (start r1 v0 D0)
    have HLZ := Lib.hid hlz
    have hyn1z : ¬ W64 yn1 = 0 := by have := D1.top; unfold W64; omega
    clear hlz upper lower start D1 D0 hdm1 hdm0 hml1 hml0 t1 t2 hr1 hr0 hq1 hq0 hq1l hq0l n1 n3 n4 m1 m0 w1 w0 hv hyl hyp hypos hyn hyt hlt h0 eq1 eq0 hs63
    go_enter Tryz.func127, Tryz.ntmps127
    go_wp2_with fail
    refine (HLZ.out _).mono ?_
    rintro e w' ⟨rfl, rfl⟩
    go_wp2_with fail
    go_loop [15, 16] (fun Q R => ∃ q r : BitVec 64, Q = .int .u64 (W64 q) ∧ R = .int .u64 (W64 r) ∧ Hid (Guess u.toNat v1.toNat yn.toNat q.toNat r.toNat)) (fun _ R => 4294967296 - (intOf R).toNat)
    case atStart => exact ⟨_, _, rfl, rfl, HG1⟩
    case round =>
      obtain ⟨q, r, rfl, rfl, HG⟩ := hrel
      have HSM := Lib.hid HG.out.small
      rcases HST1.out q r HG.out with ⟨cA, cB, e⟩ | ⟨cA | ⟨cA, cB⟩, ⟨cC, e⟩ | ⟨cC, hl, hg⟩⟩
      · clear HG HSM
        subst e
        go_wp2_with fail
        go_loop [18, 16] (fun Q R => ∃ q r : BitVec 64, Q = .int .u64 (W64 q) ∧ R = .int .u64 (W64 r) ∧ Hid (Guess r1.toNat v0.toNat yn.toNat q.toNat r.toNat)) (fun _ R => 4294967296 - (intOf R).toNat)
        case atStart => exact ⟨_, _, rfl, rfl, HG0⟩
        case round =>
          obtain ⟨q, r, rfl, rfl, HG⟩ := hrel
          have HSM := Lib.hid HG.out.small
          rcases HST0.out q r HG.out with ⟨cA, cB, e⟩ | ⟨cA | ⟨cA, cB⟩, ⟨cC, e⟩ | ⟨cC, hl, hg⟩⟩
          · clear HG HSM
            subst e
            go_wp2
            go_ret2
            rw [HQ.out, HR.out]
            exact ⟨rfl, New.refl _⟩
          · clear HG HSM
            go_wp2
            go_ret2
            rw [HQ.out, HR.out]
            exact ⟨rfl, New.refl _⟩
          · have HGn := Lib.hid hg
            have HM := Lib.hid (meas hl HSM.out)
            clear hg hl HG HSM
            go_wp2
            exact ⟨⟨_, _, rfl, rfl, HGn⟩, HM.out⟩
          · clear HG HSM
            go_wp2
            go_ret2
            rw [HQ.out, HR.out]
            exact ⟨rfl, New.refl _⟩
          · have HGn := Lib.hid hg
            have HM := Lib.hid (meas hl HSM.out)
            clear hg hl HG HSM
            go_wp2
            exact ⟨⟨_, _, rfl, rfl, HGn⟩, HM.out⟩
      · clear HG HSM
        go_wp2_with fail
        go_loop [18, 16] (fun Q R => ∃ q r : BitVec 64, Q = .int .u64 (W64 q) ∧ R = .int .u64 (W64 r) ∧ Hid (Guess r1.toNat v0.toNat yn.toNat q.toNat r.toNat)) (fun _ R => 4294967296 - (intOf R).toNat)
        case atStart => exact ⟨_, _, rfl, rfl, HG0⟩
        case round =>
          obtain ⟨q, r, rfl, rfl, HG⟩ := hrel
          have HSM := Lib.hid HG.out.small
          rcases HST0.out q r HG.out with ⟨cA, cB, e⟩ | ⟨cA | ⟨cA, cB⟩, ⟨cC, e⟩ | ⟨cC, hl, hg⟩⟩
          · clear HG HSM
            subst e
            go_wp2
            go_ret2
            rw [HQ.out, HR.out]
            exact ⟨rfl, New.refl _⟩
          · clear HG HSM
            go_wp2
            go_ret2
            rw [HQ.out, HR.out]
            exact ⟨rfl, New.refl _⟩
          · have HGn := Lib.hid hg
            have HM := Lib.hid (meas hl HSM.out)
            clear hg hl HG HSM
            go_wp2
            exact ⟨⟨_, _, rfl, rfl, HGn⟩, HM.out⟩
          · clear HG HSM
            go_wp2
            go_ret2
            rw [HQ.out, HR.out]
            exact ⟨rfl, New.refl _⟩
          · have HGn := Lib.hid hg
            have HM := Lib.hid (meas hl HSM.out)
            clear hg hl HG HSM
            go_wp2
            exact ⟨⟨_, _, rfl, rfl, HGn⟩, HM.out⟩
      · have HGn := Lib.hid hg
        have HM := Lib.hid (meas hl HSM.out)
        clear hg hl HG HSM
        go_wp2
        exact ⟨⟨_, _, rfl, rfl, HGn⟩, HM.out⟩
      · clear HG HSM
        go_wp2_with fail
        go_loop [18, 16] (fun Q R => ∃ q r : BitVec 64, Q = .int .u64 (W64 q) ∧ R = .int .u64 (W64 r) ∧ Hid (Guess r1.toNat v0.toNat yn.toNat q.toNat r.toNat)) (fun _ R => 4294967296 - (intOf R).toNat)
        case atStart => exact ⟨_, _, rfl, rfl, HG0⟩
        case round =>
          obtain ⟨q, r, rfl, rfl, HG⟩ := hrel
          have HSM := Lib.hid HG.out.small
          rcases HST0.out q r HG.out with ⟨cA, cB, e⟩ | ⟨cA | ⟨cA, cB⟩, ⟨cC, e⟩ | ⟨cC, hl, hg⟩⟩
          · clear HG HSM
            subst e
            go_wp2
            go_ret2
            rw [HQ.out, HR.out]
            exact ⟨rfl, New.refl _⟩
          · clear HG HSM
            go_wp2
            go_ret2
            rw [HQ.out, HR.out]
            exact ⟨rfl, New.refl _⟩
          · have HGn := Lib.hid hg
            have HM := Lib.hid (meas hl HSM.out)
            clear hg hl HG HSM
            go_wp2
            exact ⟨⟨_, _, rfl, rfl, HGn⟩, HM.out⟩
          · clear HG HSM
            go_wp2
            go_ret2
            rw [HQ.out, HR.out]
            exact ⟨rfl, New.refl _⟩
          · have HGn := Lib.hid hg
            have HM := Lib.hid (meas hl HSM.out)
            clear hg hl HG HSM
            go_wp2
            exact ⟨⟨_, _, rfl, rfl, HGn⟩, HM.out⟩
      · have HGn := Lib.hid hg
        have HM := Lib.hid (meas hl HSM.out)
        clear hg hl HG HSM
        go_wp2
        exact ⟨⟨_, _, rfl, rfl, HGn⟩, HM.out⟩
end Go.Proofs.YtdjlbpgjbgepdaaGreat
