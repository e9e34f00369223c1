import Derived.Test.YtfaobdmoifnglaaGreatZPcgA
import Derived.Test.YtfaobdmoifnglaaGreatZMixA
import Derived.Lib.Hide
import Derived.Test.YtfaobdmoifnglaaGreatZPkC
import Derived.Test.YtfaobdmoifnglaaGreatZBut
import Derived.Test.YtfaobdmoifnglaaGreatZWidS
section
/- Contracts of pcg32.Advance and pcg32.Steps, and of the document's own steps: for every state, every increment and every number. -/
namespace Go.Proofs.YtfaobdmoifnglaaGreat
open Go.RowKit Go.Bv
set_option linter.unusedVariables false

theorem T13_form : ∃ a, T13 = 1#64 + 4#64 * a := mod4_form T13 1591034055961698251 rfl
/-- so many steps of pcg32 -/
def adv13 (inc : BitVec 64) (n : Nat) (s : BitVec 64) : BitVec 64 := aff T13 (inc ||| 1#64) n s
set_option maxHeartbeats 400000 in
theorem odd_any (x : Int) (w : World) :
    Calls Tryz.prog 117 #[.int .u64 x] w fun e w' => e = .returned (.int .u64 (W64 (BitVec.ofInt 64 x ||| 1#64))) ∧ w' = w := by
  go_enter Tryz.func117, Tryz.ntmps117
  go_wp2
  go_ret
  exact ⟨ret64 rfl, rfl⟩
theorem half_split (q : BitVec 64) : q.toNat = 2 * (q >>> 1).toNat + q.toNat % 2 := by
  rw [BitVec.toNat_ushiftRight, Nat.shiftRight_eq_div_pow]; omega
theorem and_one (q : BitVec 64) : (q &&& 1#64 == 1#64) = decide (q.toNat % 2 = 1) := by
  rw [Bool.eq_iff_iff, beq_iff_eq, decide_eq_true_eq]
  have h : (q &&& 1#64).toNat = q.toNat % 2 := by rw [BitVec.toNat_and]; exact Nat.and_two_pow_sub_one_eq_mod _ 1
  constructor
  · intro e; rw [← h, e]; rfl
  · intro e; apply BitVec.eq_of_toNat_eq; rw [h, e]; rfl
set_option maxHeartbeats 400000 in
theorem advance_any (s inc n : Int) (hs : 0 ≤ s ∧ s < 18446744073709551616) (hn : 0 ≤ n ∧ n < 18446744073709551616) (w : World) :
    Calls Tryz.prog 91 #[.int .u64 s, .int .u64 inc, .int .u64 n] w fun e w' => e = .returned (.int .u64 (W64 (adv13 (BitVec.ofInt 64 inc) n.toNat (BitVec.ofInt 64 s)))) ∧ w' = w := by
  obtain ⟨s, rfl⟩ := ex64 s hs
  obtain ⟨n, rfl⟩ := ex64 n hn
  rw [ofInt_W64, show (W64 n).toNat = n.toNat from toNat_W64 n]
  go_enter Tryz.func91, Tryz.ntmps91
  go_wp2
  go_step3
  go_wp2_with (go_at_call 117; refine (odd_any _ _).mono ?_; rintro e w' ⟨rfl, rfl⟩)
  go_step3
  go_wp2
  go_loop [0, 2, 7, 8] (fun a b c d => ∃ x q m k : BitVec 64, a = .int .u64 (W64 x) ∧ b = .int .u64 (W64 q) ∧ c = .int .u64 (W64 m) ∧ d = .int .u64 (W64 k) ∧ Hid (aff m k q.toNat x = adv13 (BitVec.ofInt 64 inc) n.toNat s)) (fun _ b _ _ => (intOf b).toNat)
  case atStart => exact ⟨s, n, T13, _, rfl, rfl, rfl, rfl, Lib.hid rfl⟩
  case round =>
    obtain ⟨x, q, m, k, rfl, rfl, rfl, rfl, H⟩ := hrel
    have hm0 : q ≠ 0#64 → (q >>> 1).toNat < q.toNat := by
      intro h
      have h2 := half_split q
      have h3 : q.toNat ≠ 0 := fun e => h (BitVec.eq_of_toNat_eq e)
      omega
    have ht : q ≠ 0#64 → ((W64 (q >>> 1)).toNat < (W64 q).toNat) := by
      intro h; rw [toNat_W64, toNat_W64]; exact hm0 h
    have HT := Lib.hid ht
    clear ht hm0
    go_wp2
    · have h0 : q = 0#64 := beq_iff_eq.1 (by assumption)
      go_ret
      refine ⟨ret64 ?_, rfl⟩
      rw [← H.out, h0]; rfl
    · have h0 : q ≠ 0#64 := beq_eq_false_iff_ne.1 (by assumption)
      have h1 : q.toNat % 2 = 1 := by
        have h : (q &&& 1#64 == 1#64) = true := by assumption
        rw [and_one] at h; exact of_decide_eq_true h
      refine ⟨⟨_, _, _, _, rfl, rfl, rfl, rfl, Lib.hid ?_⟩, HT.out h0⟩
      have hs := half_split q
      rw [h1] at hs
      rw [← H.out, hs]
      simp only [aff]
      rw [aff_two]; rfl
    · have h0 : q ≠ 0#64 := beq_eq_false_iff_ne.1 (by assumption)
      have h1 : q.toNat % 2 = 0 := by
        have h : (q &&& 1#64 == 1#64) = false := by assumption
        rw [and_one] at h; have := of_decide_eq_false h; omega
      refine ⟨⟨_, _, _, _, rfl, rfl, rfl, rfl, Lib.hid ?_⟩, HT.out h0⟩
      have hs := half_split q
      rw [h1, Nat.add_zero] at hs
      rw [← H.out, hs, aff_two]; rfl
theorem adv13_add (inc : BitVec 64) (a b : Nat) (s : BitVec 64) : adv13 inc (a + b) s = adv13 inc b (adv13 inc a s) := aff_add _ _ _ _ _
theorem adv13_mod (inc : BitVec 64) (n : Nat) (s : BitVec 64) : adv13 inc (n % 18446744073709551616) s = adv13 inc n s :=
  aff_mod _ _ T13_form (or1_form (by omega) inc) n s
theorem adv13_inj (inc : BitVec 64) (a b : Nat) (ha : a < 18446744073709551616) (hb : b < 18446744073709551616) (s : BitVec 64) (h : adv13 inc a s = adv13 inc b s) : a = b :=
  aff_inj _ _ T13_form (or1_form (by omega) inc) a b ha hb s h
theorem adv13_surj (inc : BitVec 64) (s t : BitVec 64) : ∃ n : BitVec 64, adv13 inc n.toNat s = t := by
  obtain ⟨q, hq, h⟩ := aff_surj _ _ T13_form (or1_form (by omega) inc) s t
  exact ⟨BitVec.ofNat 64 q, by rw [BitVec.toNat_ofNat, Nat.mod_eq_of_lt hq]; exact h⟩
theorem adv13_succ (inc : BitVec 64) (n : Nat) (s : BitVec 64) : adv13 inc (n + 1) s = step13 (adv13 inc n s) inc := by
  rw [adv13_add]; rfl
theorem or_P (a : BitVec 64) (i : Nat) (hi : i < 64) (ha : a.toNat < 2 ^ i) : (a ||| P 64 i).toNat = a.toNat + 2 ^ i := by
  rw [BitVec.toNat_or, toNat_P hi, Nat.or_comm]
  have := Nat.two_pow_add_eq_or_of_lt ha 1
  rw [Nat.mul_one] at this
  rw [← this]; omega
theorem P_shl (i : Nat) : P 64 i <<< 1 = P 64 (i + 1) := by rw [P_succ, ← mul2]
/-- what holds at the head of a round of pcg32.Steps -/
def StepsInv (inc t N : BitVec 64) (i q : Nat) (x a : BitVec 64) : Prop :=
  i ≤ 64 ∧ aff (sq T13 (inc ||| 1#64) i).1 (sq T13 (inc ||| 1#64) i).2 q x = t ∧ N.toNat = a.toNat + 2 ^ i * q ∧ a.toNat < 2 ^ i
theorem inv_q {inc t N : BitVec 64} {i q : Nat} {x a : BitVec 64} (h : StepsInv inc t N i q x a) : q < 2 ^ (64 - i) := by
  obtain ⟨h1, _, h3, _⟩ := h
  have h4 := N.isLt
  have h5 : 2 ^ 64 = 2 ^ i * 2 ^ (64 - i) := by rw [← Nat.pow_add]; congr 1; omega
  have h6 : 2 ^ i * q < 2 ^ i * 2 ^ (64 - i) := by omega
  exact Nat.lt_of_mul_lt_mul_left h6
theorem inv_end {inc t N : BitVec 64} {i q : Nat} {x a : BitVec 64} (h : StepsInv inc t N i q x a) (hi : P 64 i = 0#64 ∨ x = t) : a = N := by
  have hq := inv_q h
  obtain ⟨h1, h2, h3, h4⟩ := h
  have hz : q = 0 := by
    rcases hi with hi | hi
    · by_cases hlt : i < 64
      · exact absurd hi (P_ne hlt)
      · have : i = 64 := by omega
        subst this; simpa using hq
    · subst hi
      exact aff_fix_at _ _ T13_form (or1_form (by omega) inc) (64 - i) i (by omega) q hq x h2
  apply BitVec.eq_of_toNat_eq
  rw [h3, hz]; simp
theorem inv_lt {i : Nat} (h1 : i ≤ 64) (h : P 64 i ≠ 0#64) : i < 64 := by
  rcases Nat.lt_or_ge i 64 with h2 | h2
  · exact h2
  · exact absurd (by rw [show i = 64 by omega, P_end]) h
theorem inv_odd {inc t N : BitVec 64} {i q : Nat} {x a : BitVec 64} (h : StepsInv inc t N i q x a) (hP : P 64 i ≠ 0#64) (hb : (x ^^^ t) &&& P 64 i ≠ 0#64) :
    StepsInv inc t N (i + 1) (q / 2) (x * (sq T13 (inc ||| 1#64) i).1 + (sq T13 (inc ||| 1#64) i).2) (a ||| P 64 i) := by
  obtain ⟨h1, h2, h3, h4⟩ := h
  have hi := inv_lt h1 hP
  have hodd : q % 2 = 1 := by
    have := aff_bit _ _ T13_form (or1_form (by omega) inc) i hi q x t h2
    rcases Nat.mod_two_eq_zero_or_one q with e | e
    · exact absurd (this.2 e) hb
    · exact e
  have hq : q = 2 * (q / 2) + 1 := by omega
  refine ⟨by omega, ?_, ?_, ?_⟩
  · rw [hq] at h2
    simp only [aff] at h2
    rw [aff_two] at h2
    exact h2
  · rw [or_P a i hi h4, h3, Nat.pow_succ]
    conv => lhs; rw [hq]
    rw [Nat.mul_add, Nat.mul_assoc]; omega
  · rw [or_P a i hi h4, Nat.pow_succ]; omega
theorem inv_even {inc t N : BitVec 64} {i q : Nat} {x a : BitVec 64} (h : StepsInv inc t N i q x a) (hP : P 64 i ≠ 0#64) (hb : (x ^^^ t) &&& P 64 i = 0#64) :
    StepsInv inc t N (i + 1) (q / 2) x a := by
  obtain ⟨h1, h2, h3, h4⟩ := h
  have hi := inv_lt h1 hP
  have hev : q % 2 = 0 := (aff_bit _ _ T13_form (or1_form (by omega) inc) i hi q x t h2).1 hb
  have hq : q = 2 * (q / 2) := by omega
  refine ⟨by omega, ?_, ?_, ?_⟩
  · rw [hq, aff_two] at h2
    exact h2
  · rw [h3, Nat.pow_succ]
    conv => lhs; rw [hq]
    rw [Nat.mul_assoc]
  · rw [Nat.pow_succ]; omega
/-- what a round lowers: the bit that is still to come -/
def bm (n : Int) : Nat := if n ≤ 0 then 0 else (18446744073709551616 - n).toNat
def bitMeasure (v : Value) : Nat := bm (intOf v)
theorem bit_down {i : Nat} (h1 : i ≤ 64) (h : P 64 i ≠ 0#64) : bitMeasure (.int .u64 (W64 (P 64 i <<< 1))) < bitMeasure (.int .u64 (W64 (P 64 i))) := by
  have hi := inv_lt h1 h
  rw [P_shl]
  have e1 : W64 (P 64 i) = (2 ^ i : Nat) := by unfold W64; rw [toNat_P hi]
  have hp := Nat.two_pow_pos i
  have hl : 2 ^ i < 2 ^ 64 := Nat.pow_lt_pow_right (by omega) hi
  show bm (W64 (P 64 (i + 1))) < bm (W64 (P 64 i))
  rw [e1]
  by_cases h63 : i + 1 < 64
  · have e2 : W64 (P 64 (i + 1)) = (2 * 2 ^ i : Nat) := by unfold W64; rw [toNat_P h63, Nat.pow_succ, Nat.mul_comm]
    rw [e2]; unfold bm; split <;> split <;> omega
  · have e2 : W64 (P 64 (i + 1)) = 0 := by rw [show i + 1 = 64 by omega, P_end]; rfl
    rw [e2]; unfold bm; split <;> split <;> omega
end Go.Proofs.YtfaobdmoifnglaaGreat
end
section
/- Contracts of pcg64's join and double: an effect in a box is followed by another one, by itself. -/
namespace Go.Bv
open Go Go.RowKit
theorem E4.but {w v : World} {b k : Nat} {t : TypeId} {m p : BitVec 128} (h : E4 w k t m p) (hb : But b w v) (hk : k ≠ b) : E4 v k t m p := hb.keep hk h
theorem B2.but {w v : World} {b k : Nat} {t : TypeId} {x : BitVec 128} (h : B2 w k t x) (hb : But b w v) (hk : k ≠ b) : B2 v k t x := hb.keep hk h
theorem put4_but {w : World} {b : Nat} (m p : BitVec 128) : But b w ((((w.setCell ⟨b, 0, none⟩ (.int .u64 (W64 (hi128 m)))).setCell ⟨b, 1, none⟩ (.int .u64 (W64 (lo128 m)))).setCell ⟨b, 2, none⟩ (.int .u64 (W64 (hi128 p)))).setCell ⟨b, 3, none⟩ (.int .u64 (W64 (lo128 p)))) :=
  ((((But.refl b w).setCell rfl _).setCell rfl _).setCell rfl _).setCell rfl _
end Go.Bv
namespace Go.Proofs.YtfaobdmoifnglaaGreat
open Go.RowKit Go.Bv
set_option linter.unusedVariables false
set_option maxHeartbeats 1000000 in
theorem join14 (m p m2 p2 : BitVec 128) (b : Nat) (w : World) (h : E4 w b 135 m p) : Calls Tryz.prog 124 #[.pointer (some ⟨b, 0, none⟩), .agg #[.int .u64 (W64 (hi128 m2)), .int .u64 (W64 (lo128 m2)), .int .u64 (W64 (hi128 p2)), .int .u64 (W64 (lo128 p2))]] w fun e w' =>
    e = .returned (.tuple #[]) ∧ E4 w' b 135 (m * m2) (p * m2 + p2) ∧ But b w w' := by
  have hlt := lt_of_block h
  have h1 := heap_alloc_new w (.cells #[.int .u64 (W64 (hi128 m2)), .int .u64 (W64 (lo128 m2)), .int .u64 (W64 (hi128 p2)), .int .u64 (W64 (lo128 p2))] 135)
  have h3 := (New.refl w).alloc (.cells #[.int .u64 (W64 (hi128 m2)), .int .u64 (W64 (lo128 m2)), .int .u64 (W64 (hi128 p2)), .int .u64 (W64 (lo128 p2))] 135)
  have H1 := Lib.hid ((show E4 _ _ _ m2 p2 from h1).stay (New.refl _).drew)
  have HE := Lib.hid (h.stay h3.drew)
  have H3 := Lib.hid h3.drew
  clear h1 h3 h
  go_enter Tryz.func124, Tryz.ntmps124
  go_wp2_with fail
  generalize w.alloc (.cells #[.int .u64 (W64 (hi128 m2)), .int .u64 (W64 (lo128 m2)), .int .u64 (W64 (hi128 p2)), .int .u64 (W64 (lo128 p2))] 135) = w0 at H1 H3 HE ⊢
  have c0 := H1.out.c0
  have c1 := H1.out.c1
  have e0 := HE.out.c0
  have e1 := HE.out.c1
  have e2 := HE.out.c2
  have e3 := HE.out.c3
  go_region_law (first
    | (go_simp
       go_at_call 156
       refine (wtimes_x m m2 _).mono ?_
       rintro e w1 ⟨rfl, hn1⟩
       have e2 := (HE.out.stay hn1).c2
       have e3 := (HE.out.stay hn1).c3
       have HN1 := Lib.hid hn1
       clear hn1)
    | (go_simp
       go_at_call 127
       refine (on14 m2 p2 p _ _ (H1.out.stay HN1.out)).mono ?_
       rintro e w2 ⟨rfl, hn2⟩
       have hn2 := HN1.out.trans hn2
       have hz := HE.out.stay hn2
       have k0 := hz.c0
       have k1 := hz.c1
       have k2 := hz.c2
       have k3 := hz.c3
       have kf := hz.free
       have HN2 := Lib.hid hn2
       have HZ := Lib.hid hz
       clear hn2 hz))
  all_goals (
    go_wp2
    go_end0
    exact ⟨rfl, E4.put _ _ HZ.out, ((But.of_new H3.out).then HN2.out).trans (put4_but _ _)⟩)
set_option maxHeartbeats 1000000 in
theorem double14 (m p : BitVec 128) (b : Nat) (w : World) (h : E4 w b 135 m p) : Calls Tryz.prog 125 #[.pointer (some ⟨b, 0, none⟩)] w fun e w' =>
    e = .returned (.tuple #[]) ∧ E4 w' b 135 (m * m) (p * m + p) ∧ But b w w' := by
  have e0 := h.c0
  have e1 := h.c1
  have e2 := h.c2
  have e3 := h.c3
  have HE := Lib.hid h
  clear h
  go_enter Tryz.func125, Tryz.ntmps125
  go_wp2_with fail
  refine (join14 m p m p b w HE.out).mono ?_
  rintro e w1 ⟨rfl, h1, h2⟩
  go_wp2
  go_end0
  exact ⟨rfl, h1, h2⟩
end Go.Proofs.YtfaobdmoifnglaaGreat
end
section
/- The number that two cells of a box hold. -/
namespace Go.Bv
open Go Go.RowKit
/-- the number that two cells of a box hold -/
def num2 (w : World) (b : Nat) : Nat := (intOf ((w.cell? ⟨b, 0, none⟩).getD (.bool false))).toNat * 18446744073709551616 + (intOf ((w.cell? ⟨b, 1, none⟩).getD (.bool false))).toNat
theorem B2.num {w : World} {b : Nat} {t : TypeId} {x : BitVec 128} (h : B2 w b t x) : num2 w b = x.toNat := by
  unfold num2; rw [h.c0, h.c1, ← two_x]; unfold two; simp [intOf, W64]
end Go.Bv
end
section
/- Contract of pcg64.Advance: so many steps, for every state, every increment, every number. -/
namespace Go.Bv
open Go Go.RowKit
theorem low_bitK (y : BitVec 128) : (lo128 y &&& 1#64 == 1#64) = decide (y.toNat % 2 = 1) := by
  rw [Bool.eq_iff_iff, beq_iff_eq, decide_eq_true_eq]
  have h : (lo128 y &&& 1#64).toNat = y.toNat % 2 := by
    rw [BitVec.toNat_and, show (1#64).toNat = 2 ^ 1 - 1 from rfl, Nat.and_two_pow_sub_one_eq_mod]
    unfold lo128
    rw [BitVec.toNat_setWidth]; omega
  constructor
  · intro e; rw [← h, e]; rfl
  · intro e; apply BitVec.eq_of_toNat_eq; rw [h, e]; rfl
theorem bit_step (n : BitVec 128) (k : Nat) (y : BitVec 128) (hy : n >>> k = y) : n.toNat % 2 ^ (k + 1) = n.toNat % 2 ^ k + 2 ^ k * (y.toNat % 2) := by
  rw [← hy, BitVec.toNat_ushiftRight, Nat.shiftRight_eq_div_pow, Nat.pow_succ, Nat.mod_mul]
theorem bit_off (n : BitVec 128) (k : Nat) (y : BitVec 128) (hy : n >>> k = y) (hb : (lo128 y &&& 1#64 == 1#64) = false) : n.toNat % 2 ^ (k + 1) = n.toNat % 2 ^ k := by
  rw [low_bitK, decide_eq_false_iff_not] at hb
  rw [bit_step n k y hy, show y.toNat % 2 = 0 by omega]; omega
theorem bit_on (n : BitVec 128) (k : Nat) (y : BitVec 128) (hy : n >>> k = y) (hb : (lo128 y &&& 1#64 == 1#64) = true) : n.toNat % 2 ^ (k + 1) = n.toNat % 2 ^ k + 2 ^ k * 1 := by
  rw [low_bitK, decide_eq_true_eq] at hb
  rw [bit_step n k y hy, hb]
theorem aff_one {w : Nat} (m c : BitVec w) (k : Nat) (u : BitVec w) : aff m c (2 ^ k * 1) u = u * (sq m c k).1 + (sq m c k).2 := by rw [aff_sq]; rfl
theorem sq_next (m p : BitVec 128) : p * m + p = (m + 1) * p := by grind
end Go.Bv
namespace Go.Proofs.YtfaobdmoifnglaaGreat
open Go.RowKit Go.Bv
set_option linter.unusedVariables false
/-- the memory of Advance behind k bits of the number -/
structure AdvS (W w : World) (b b7 : Nat) (t te : TypeId) (s n c : BitVec 128) (k : Nat) : Prop where
  bs : B2 w b t s
  bn : B2 w (b + 1 + 1) t (n >>> k)
  bz : Z2 w (b + 1 + 1 + 1) t
  tot : ∃ tm tp, E4 w b7 te tm tp ∧ ∀ u, u * tm + tp = aff T14 c (n.toNat % 2 ^ k) u
  pow : E4 w (b7 + 1) te (sq T14 c k).1 (sq T14 c k).2
  new : New W w
set_option maxHeartbeats 2000000 in
theorem advance14 (s x n : BitVec 128) (w : World) : Calls Tryz.prog 99 #[.agg #[.int .u64 (W64 (hi128 s)), .int .u64 (W64 (lo128 s))], .agg #[.int .u64 (W64 (hi128 x)), .int .u64 (W64 (lo128 x))], .agg #[.int .u64 (W64 (hi128 n)), .int .u64 (W64 (lo128 n))]] w fun e w' =>
    e = .returned (.agg #[.int .u64 (W64 (hi128 (aff T14 (x ||| 1#128) n.toNat s))), .int .u64 (W64 (lo128 (aff T14 (x ||| 1#128) n.toNat s)))]) ∧ New w w' := by
  have hmf : ∀ (fn : Fn) (first cap : Array Value) (w : World), (Instr.makeFunc fn first cap).run Tryz.prog w = .ok (.func fn first cap) w := fun _ _ _ _ => rfl
  obtain ⟨h1, h2, h3, h4, h5⟩ := four_blocks w (.cells #[.int .u64 (W64 (hi128 s)), .int .u64 (W64 (lo128 s))] 74) (.cells #[.int .u64 (W64 (hi128 x)), .int .u64 (W64 (lo128 x))] 74) (.cells #[.int .u64 (W64 (hi128 n)), .int .u64 (W64 (lo128 n))] 74) (.cells #[.int .u64 0, .int .u64 0] 74)
  have H1 := Lib.hid (show B2 _ _ _ s from h1)
  have H2 := Lib.hid (show B2 _ _ _ x from h2)
  have H3 := Lib.hid (show B2 _ _ _ n from h3)
  have H4 := Lib.hid (show Z2 _ _ _ from h4)
  have H5 := Lib.hid h5
  clear h1 h2 h3 h4 h5
  go_enter Tryz.func99, Tryz.ntmps99
  go_wp2_with fail
  generalize (((w.alloc (.cells #[.int .u64 (W64 (hi128 s)), .int .u64 (W64 (lo128 s))] 74)).alloc (.cells #[.int .u64 (W64 (hi128 x)), .int .u64 (W64 (lo128 x))] 74)).alloc (.cells #[.int .u64 (W64 (hi128 n)), .int .u64 (W64 (lo128 n))] 74)).alloc (.cells #[.int .u64 0, .int .u64 0] 74) = w0 at H1 H2 H3 H4 H5 ⊢
  have c0 := H2.out.c0
  have c1 := H2.out.c1
  go_wp2_with fail
  refine (one14 x _).mono ?_
  rintro e w1 ⟨rfl, hn1⟩
  obtain ⟨g7, g8, hn2⟩ := two_blocks w1 (.cells #[.int .u64 0, .int .u64 1, .int .u64 0, .int .u64 0] 135) (.cells #[.int .u64 (W64 (hi128 T14)), .int .u64 (W64 (lo128 T14)), .int .u64 (W64 (hi128 (x ||| 1#128))), .int .u64 (W64 (lo128 (x ||| 1#128)))] 135)
  have hn12 := hn1.trans hn2
  have hle := hn12.le
  have hle0 := H5.out.le
  go_wp2_with fail
  have hst : AdvS w ((w1.alloc (.cells #[.int .u64 0, .int .u64 1, .int .u64 0, .int .u64 0] 135)).alloc (.cells #[.int .u64 (W64 (hi128 T14)), .int .u64 (W64 (lo128 T14)), .int .u64 (W64 (hi128 (x ||| 1#128))), .int .u64 (W64 (lo128 (x ||| 1#128)))] 135)) w.heap.size w1.heap.size 74 135 s n (x ||| 1#128) 0 := by
    refine ⟨H1.out.stay hn12, ?_, H4.out.stay hn12, ⟨1#128, 0#128, ?_, fun u => ?_⟩, g8, H5.out.trans hn12⟩
    · rw [BitVec.ushiftRight_zero]; exact H3.out.stay hn12
    · unfold E4
      rw [one_hi, one_lo, zero_hi, zero_lo]; exact g7
    · rw [Nat.pow_zero, Nat.mod_one]; simp [aff]
  have hb7 : w.heap.size + 1 + 1 + 1 < w1.heap.size := by have := lt_of_block H4.out; have := hn1.le; omega
  have HST := Lib.hid hst
  clear hst g7 g8 hn1 hn2 hn12 hle hle0 c0 c1 H1 H2 H3 H4 H5
  generalize (w1.alloc (.cells #[.int .u64 0, .int .u64 1, .int .u64 0, .int .u64 0] 135)).alloc (.cells #[.int .u64 (W64 (hi128 T14)), .int .u64 (W64 (lo128 T14)), .int .u64 (W64 (hi128 (x ||| 1#128))), .int .u64 (W64 (lo128 (x ||| 1#128)))] 135) = w2 at *
  generalize w1.heap.size = b7 at *
  go_loopw [17] (fun _ wr => ∃ k : Nat, AdvS w wr w.heap.size b7 74 135 s n (x ||| 1#128) k) (fun _ wr => num2 wr (w.heap.size + 1 + 1))
  case atStart => exact ⟨0, HST.out⟩
  case round =>
    clear HST
    obtain ⟨k, hs⟩ := hrel
    have HS := Lib.hid hs
    obtain ⟨hs0, hn0, hz0, ⟨tm, tp, htot, hfact⟩, hpow, hnew⟩ := hs
    obtain ⟨y, hy⟩ : ∃ y, n >>> k = y := ⟨_, rfl⟩
    rw [hy] at hn0
    have n0 := hn0.c0
    have n1 := hn0.c1
    have heq := fun w => equ_x w y 0#128
    rw [zero_hi, zero_lo] at heq
    have HFACT := Lib.hid hfact
    have HTOT := Lib.hid htot
    have HPOW := Lib.hid hpow
    have HY := Lib.hid hy
    have HN0 := Lib.hid hn0
    have HNEW := Lib.hid hnew
    have HS0 := Lib.hid hs0
    have HZ0 := Lib.hid hz0
    have s0 := hs0.c0
    have s1 := hs0.c1
    have hnum := HN0.out.num
    obtain ⟨pm, hpm⟩ : ∃ z, (sq T14 (x ||| 1#128) k).1 = z := ⟨_, rfl⟩
    obtain ⟨pp, hpp⟩ : ∃ z, (sq T14 (x ||| 1#128) k).2 = z := ⟨_, rfl⟩
    rw [hpm, hpp] at HPOW
    have HPM := Lib.hid hpm
    have HPP := Lib.hid hpp
    have p0 := HPOW.out.c0
    have p1 := HPOW.out.c1
    have p2 := HPOW.out.c2
    have p3 := HPOW.out.c3
    clear hfact htot hpow hy hn0 hnew hs0 hz0 hpm hpp HS
    by_cases h0 : y = 0#128
    · subst h0
      rw [BEq.rfl] at heq
      have he : aff T14 (x ||| 1#128) n.toNat s = s * tm + tp := by
        rw [HFACT.out]
        congr 1
        have := congrArg BitVec.toNat HY.out
        rw [BitVec.toNat_ushiftRight, Nat.shiftRight_eq_div_pow] at this
        exact (Nat.mod_eq_of_lt ((Nat.div_eq_zero_iff_lt (Nat.two_pow_pos k)).1 this)).symm
      have HE := Lib.hid he
      clear he
      go_wp2_with fail
      refine (on14 tm tp s _ _ HTOT.out).mono ?_
      rintro e w3 ⟨rfl, hn3⟩
      have hz := HZ0.out.stay hn3
      have k0 := hz.c0
      have k1 := hz.c1
      have kf := hz.free
      have HN3 := Lib.hid (HNEW.out.trans hn3)
      clear hz hn3
      go_wp2
      refine bodyPost_ret (by simp [results, Tryz.results99, go_sem, k0, k1]; try rfl) rfl ?_
      rw [HE.out]
      exact ⟨rfl, put2_new _ HN3.out (by omega)⟩
    · have h0b : (y == 0#128) = false := beq_false_of_ne h0
      rw [h0b] at heq
      have HH0 := Lib.hid h0
      clear h0 h0b
      rcases hb : (lo128 y &&& 1#64 == 1#64)
      · have hbit : n.toNat % 2 ^ (k + 1) = n.toNat % 2 ^ k := bit_off n k y HY.out hb
        have hf2 : ∀ u, u * tm + tp = aff T14 (x ||| 1#128) (n.toNat % 2 ^ (k + 1)) u := fun u => by rw [hbit]; exact HFACT.out u
        have HF2 := Lib.hid hf2
        clear hbit hf2
        go_wp2_with fail
        refine (double14 pm pp (b7 + 1) _ HPOW.out).mono ?_
        rintro e w3 ⟨rfl, he4, hbut⟩
        have hn3 := HN0.out.but hbut (by omega)
        have hs3 := HS0.out.but hbut (by omega)
        have hz3 := hbut.keep (by omega) HZ0.out
        have ht3 := HTOT.out.but hbut (by omega)
        have HNW3 := Lib.hid (hbut.new w HNEW.out (by omega))
        have n0 := hn3.c0
        have n1 := hn3.c1
        have HN3 := Lib.hid hn3
        have HS3 := Lib.hid hs3
        have HZ3 := Lib.hid hz3
        have HT3 := Lib.hid ht3
        have HP3 := Lib.hid he4
        clear hn3 hs3 hz3 ht3 he4 hbut s0 s1 p0 p1 p2 p3
        go_wp2_with fail
        refine (wshr_x y 1 (by omega) 1 rfl _).mono ?_
        rintro e w4 ⟨rfl, hn4⟩
        have hb4 := HN3.out.stay hn4
        have n0 := hb4.c0
        have n1 := hb4.c1
        have nf := hb4.free
        have HB4 := Lib.hid hb4
        have HN4 := Lib.hid hn4
        clear hb4 hn4
        go_wp2
        refine ⟨⟨k + 1, ?_⟩, ?_⟩
        · have hsh : y >>> 1 = n >>> (k + 1) := by rw [← HY.out, BitVec.shiftRight_add]
          have hbox := B2.put (y >>> 1) HB4.out
          have hother := fun j hj => put2_other (w := w4) (b := w.heap.size + 1 + 1) (k := j) (y >>> 1) hj
          rw [hsh] at hbox hother ⊢
          refine ⟨(hother _ (by omega)).trans (HS3.out.stay HN4.out), hbox, (hother _ (by omega)).trans ((HN4.out.block _ (lt_of_block HZ3.out)).trans HZ3.out), ⟨_, _, (hother _ (by omega)).trans (HT3.out.stay HN4.out), HF2.out⟩, ?_, put2_new _ (HNW3.out.trans HN4.out) (by omega)⟩
          show E4 _ _ _ ((sq T14 (x ||| 1#128) k).1 * (sq T14 (x ||| 1#128) k).1) (((sq T14 (x ||| 1#128) k).1 + 1) * (sq T14 (x ||| 1#128) k).2)
          rw [HPM.out, HPP.out, ← sq_next]
          exact (hother _ (by omega)).trans (HP3.out.stay HN4.out)
        · rw [(B2.put (y >>> 1) HB4.out).num, hnum]
          have h1 : y.toNat ≠ 0 := fun h => HH0.out (BitVec.eq_of_toNat_eq (by rw [h]; rfl))
          rw [BitVec.toNat_ushiftRight, Nat.shiftRight_eq_div_pow]
          omega
      · have hf2 : ∀ u, u * (tm * pm) + (tp * pm + pp) = aff T14 (x ||| 1#128) (n.toNat % 2 ^ (k + 1)) u := fun u => by
          rw [bit_on n k y HY.out hb, aff_add, ← HFACT.out u, ← HPM.out, ← HPP.out, aff_one]; grind
        have HF2 := Lib.hid hf2
        clear hf2
        go_wp2_with fail
        refine (join14 tm tp pm pp b7 _ HTOT.out).mono ?_
        rintro e w9 ⟨rfl, he9, hbut9⟩
        have hp9 := HPOW.out.but hbut9 (by omega)
        have HB9 := Lib.hid hbut9
        have HE9 := Lib.hid he9
        clear he9 hbut9
        go_wp2_with fail
        refine (double14 pm pp (b7 + 1) _ hp9).mono ?_
        rintro e w3 ⟨rfl, he4, hbut⟩
        have hn3 := (HN0.out.but HB9.out (by omega)).but hbut (by omega)
        have hs3 := (HS0.out.but HB9.out (by omega)).but hbut (by omega)
        have hz3 := hbut.keep (by omega) (HB9.out.keep (by omega) HZ0.out)
        have ht3 := HE9.out.but hbut (by omega)
        have HNW3 := Lib.hid (hbut.new w (HB9.out.new w HNEW.out (by omega)) (by omega))
        clear hp9
        have n0 := hn3.c0
        have n1 := hn3.c1
        have HN3 := Lib.hid hn3
        have HS3 := Lib.hid hs3
        have HZ3 := Lib.hid hz3
        have HT3 := Lib.hid ht3
        have HP3 := Lib.hid he4
        clear hn3 hs3 hz3 ht3 he4 hbut s0 s1 p0 p1 p2 p3
        go_wp2_with fail
        refine (wshr_x y 1 (by omega) 1 rfl _).mono ?_
        rintro e w4 ⟨rfl, hn4⟩
        have hb4 := HN3.out.stay hn4
        have n0 := hb4.c0
        have n1 := hb4.c1
        have nf := hb4.free
        have HB4 := Lib.hid hb4
        have HN4 := Lib.hid hn4
        clear hb4 hn4
        go_wp2
        refine ⟨⟨k + 1, ?_⟩, ?_⟩
        · have hsh : y >>> 1 = n >>> (k + 1) := by rw [← HY.out, BitVec.shiftRight_add]
          have hbox := B2.put (y >>> 1) HB4.out
          have hother := fun j hj => put2_other (w := w4) (b := w.heap.size + 1 + 1) (k := j) (y >>> 1) hj
          rw [hsh] at hbox hother ⊢
          refine ⟨(hother _ (by omega)).trans (HS3.out.stay HN4.out), hbox, (hother _ (by omega)).trans ((HN4.out.block _ (lt_of_block HZ3.out)).trans HZ3.out), ⟨_, _, (hother _ (by omega)).trans (HT3.out.stay HN4.out), HF2.out⟩, ?_, put2_new _ (HNW3.out.trans HN4.out) (by omega)⟩
          show E4 _ _ _ ((sq T14 (x ||| 1#128) k).1 * (sq T14 (x ||| 1#128) k).1) (((sq T14 (x ||| 1#128) k).1 + 1) * (sq T14 (x ||| 1#128) k).2)
          rw [HPM.out, HPP.out, ← sq_next]
          exact (hother _ (by omega)).trans (HP3.out.stay HN4.out)
        · rw [(B2.put (y >>> 1) HB4.out).num, hnum]
          have h1 : y.toNat ≠ 0 := fun h => HH0.out (BitVec.eq_of_toNat_eq (by rw [h]; rfl))
          rw [BitVec.toNat_ushiftRight, Nat.shiftRight_eq_div_pow]
          omega
end Go.Proofs.YtfaobdmoifnglaaGreat
end
