/- Contracts of pcg32.Advance and pcg32.Steps, and of the document's own steps: for every state, every increment and every number. -/
import Derived.Test.YtfeibahbmkhgoaaPcgA
import Derived.Test.YtfeibahbmkhgoaaAff
import Derived.Lib.Hide
namespace Go.Proofs.Ytfeibahbmkhgoaa
open Go.RowKit Go.Bv
set_option linter.unusedVariables false

theorem T13_form : ∃ a, T13 = 1#64 + 4#64 * a := mod4_form T13 1591034055961698251 rfl
/-- so many steps of pcg32 -/
def adv13 (inc : BitVec 64) (n : Nat) (s : BitVec 64) : BitVec 64 := aff T13 (inc ||| 1#64) n s
set_option maxHeartbeats 400000 in
theorem odd_any (x : Int) (w : World) :
    Calls Try.prog 84 #[.int .u64 x] w fun e w' => e = .returned (.int .u64 (W64 (BitVec.ofInt 64 x ||| 1#64))) ∧ w' = w := by
  go_enter Try.func84, Try.ntmps84
  go_wp2
  go_ret
  exact ⟨ret64 rfl, rfl⟩
theorem half_split (q : BitVec 64) : q.toNat = 2 * (q >>> 1).toNat + q.toNat % 2 := by
  rw [BitVec.toNat_ushiftRight, Nat.shiftRight_eq_div_pow]; omega
theorem and_one (q : BitVec 64) : (q &&& 1#64 == 1#64) = decide (q.toNat % 2 = 1) := by
  rw [Bool.eq_iff_iff, beq_iff_eq, decide_eq_true_eq]
  have h : (q &&& 1#64).toNat = q.toNat % 2 := by rw [BitVec.toNat_and]; exact Nat.and_two_pow_sub_one_eq_mod _ 1
  constructor
  · intro e; rw [← h, e]; rfl
  · intro e; apply BitVec.eq_of_toNat_eq; rw [h, e]; rfl
set_option maxHeartbeats 400000 in
theorem advance_any (s inc n : Int) (hs : 0 ≤ s ∧ s < 18446744073709551616) (hn : 0 ≤ n ∧ n < 18446744073709551616) (w : World) :
    Calls Try.prog 44 #[.int .u64 s, .int .u64 inc, .int .u64 n] w fun e w' => e = .returned (.int .u64 (W64 (adv13 (BitVec.ofInt 64 inc) n.toNat (BitVec.ofInt 64 s)))) ∧ w' = w := by
  obtain ⟨s, rfl⟩ := ex64 s hs
  obtain ⟨n, rfl⟩ := ex64 n hn
  rw [ofInt_W64, show (W64 n).toNat = n.toNat from toNat_W64 n]
  go_enter Try.func44, Try.ntmps44
  go_wp2
  go_step3
  go_wp2_with (go_at_call 84; refine (odd_any _ _).mono ?_; rintro e w' ⟨rfl, rfl⟩)
  go_step3
  go_wp2
  go_loop [0, 2, 7, 8] (fun a b c d => ∃ x q m k : BitVec 64, a = .int .u64 (W64 x) ∧ b = .int .u64 (W64 q) ∧ c = .int .u64 (W64 m) ∧ d = .int .u64 (W64 k) ∧ Hid (aff m k q.toNat x = adv13 (BitVec.ofInt 64 inc) n.toNat s)) (fun _ b _ _ => (intOf b).toNat)
  case atStart => exact ⟨s, n, T13, _, rfl, rfl, rfl, rfl, Lib.hid rfl⟩
  case round =>
    obtain ⟨x, q, m, k, rfl, rfl, rfl, rfl, H⟩ := hrel
    have hm0 : q ≠ 0#64 → (q >>> 1).toNat < q.toNat := by
      intro h
      have h2 := half_split q
      have h3 : q.toNat ≠ 0 := fun e => h (BitVec.eq_of_toNat_eq e)
      omega
    have ht : q ≠ 0#64 → ((W64 (q >>> 1)).toNat < (W64 q).toNat) := by
      intro h; rw [toNat_W64, toNat_W64]; exact hm0 h
    have HT := Lib.hid ht
    clear ht hm0
    go_wp2
    · have h0 : q = 0#64 := beq_iff_eq.1 (by assumption)
      go_ret
      refine ⟨ret64 ?_, rfl⟩
      rw [← H.out, h0]; rfl
    · have h0 : q ≠ 0#64 := beq_eq_false_iff_ne.1 (by assumption)
      have h1 : q.toNat % 2 = 1 := by
        have h : (q &&& 1#64 == 1#64) = true := by assumption
        rw [and_one] at h; exact of_decide_eq_true h
      refine ⟨⟨_, _, _, _, rfl, rfl, rfl, rfl, Lib.hid ?_⟩, HT.out h0⟩
      have hs := half_split q
      rw [h1] at hs
      rw [← H.out, hs]
      simp only [aff]
      rw [aff_two]; rfl
    · have h0 : q ≠ 0#64 := beq_eq_false_iff_ne.1 (by assumption)
      have h1 : q.toNat % 2 = 0 := by
        have h : (q &&& 1#64 == 1#64) = false := by assumption
        rw [and_one] at h; have := of_decide_eq_false h; omega
      refine ⟨⟨_, _, _, _, rfl, rfl, rfl, rfl, Lib.hid ?_⟩, HT.out h0⟩
      have hs := half_split q
      rw [h1, Nat.add_zero] at hs
      rw [← H.out, hs, aff_two]; rfl
theorem adv13_add (inc : BitVec 64) (a b : Nat) (s : BitVec 64) : adv13 inc (a + b) s = adv13 inc b (adv13 inc a s) := aff_add _ _ _ _ _
theorem adv13_mod (inc : BitVec 64) (n : Nat) (s : BitVec 64) : adv13 inc (n % 18446744073709551616) s = adv13 inc n s :=
  aff_mod _ _ T13_form (or1_form (by omega) inc) n s
theorem adv13_inj (inc : BitVec 64) (a b : Nat) (ha : a < 18446744073709551616) (hb : b < 18446744073709551616) (s : BitVec 64) (h : adv13 inc a s = adv13 inc b s) : a = b :=
  aff_inj _ _ T13_form (or1_form (by omega) inc) a b ha hb s h
theorem adv13_surj (inc : BitVec 64) (s t : BitVec 64) : ∃ n : BitVec 64, adv13 inc n.toNat s = t := by
  obtain ⟨q, hq, h⟩ := aff_surj _ _ T13_form (or1_form (by omega) inc) s t
  exact ⟨BitVec.ofNat 64 q, by rw [BitVec.toNat_ofNat, Nat.mod_eq_of_lt hq]; exact h⟩
theorem adv13_succ (inc : BitVec 64) (n : Nat) (s : BitVec 64) : adv13 inc (n + 1) s = step13 (adv13 inc n s) inc := by
  rw [adv13_add]; rfl
set_option maxHeartbeats 400000 in
theorem steps_ref (s inc n : Int) (hs : 0 ≤ s ∧ s < 18446744073709551616) (hi : 0 ≤ inc ∧ inc < 18446744073709551616) (hn : 0 ≤ n ∧ n ≤ 4096) (w : World) :
    Calls Try.prog 45 #[.int .u64 s, .int .u64 inc, .int .i64 n] w fun e w' => e = .returned (.int .u64 (W64 (adv13 (BitVec.ofInt 64 inc) n.toNat (BitVec.ofInt 64 s)))) ∧ w' = w := by
  obtain ⟨s, rfl⟩ := ex64 s hs
  obtain ⟨inc, rfl⟩ := ex64 inc hi
  rw [ofInt_W64, ofInt_W64]
  go_enter Try.func45, Try.ntmps45
  go_wp2
  go_loop [0, 7] (fun a i => ∃ k : Nat, (k : Int) ≤ n ∧ i = .int .i64 k ∧ a = .int .u64 (W64 (adv13 inc k s))) (fun _ i => 4096 - (intOf i).toNat)
  case atStart => exact ⟨0, by omega, rfl, rfl⟩
  case round =>
    obtain ⟨k, hk, rfl, rfl⟩ := hrel
    go_wp2_with (go_at_call 39; refine (step_ref _ _ (b64 _) (b64 _) _).mono ?_; rintro e w' ⟨rfl, rfl⟩)
    · have hlt : (k : Int) < n := by assumption
      refine ⟨⟨k + 1, by omega, by go_num, by rw [adv13_succ]⟩, by simp [intOf]; omega⟩
    · have hge : n ≤ k := by assumption
      go_ret
      exact ⟨ret64 (by rw [show n.toNat = k by omega]), rfl⟩
theorem or_P (a : BitVec 64) (i : Nat) (hi : i < 64) (ha : a.toNat < 2 ^ i) : (a ||| P 64 i).toNat = a.toNat + 2 ^ i := by
  rw [BitVec.toNat_or, toNat_P hi, Nat.or_comm]
  have := Nat.two_pow_add_eq_or_of_lt ha 1
  rw [Nat.mul_one] at this
  rw [← this]; omega
theorem P_shl (i : Nat) : P 64 i <<< 1 = P 64 (i + 1) := by rw [P_succ, ← mul2]
/-- what holds at the head of a round of pcg32.Steps -/
def StepsInv (inc t N : BitVec 64) (i q : Nat) (x a : BitVec 64) : Prop :=
  i ≤ 64 ∧ aff (sq T13 (inc ||| 1#64) i).1 (sq T13 (inc ||| 1#64) i).2 q x = t ∧ N.toNat = a.toNat + 2 ^ i * q ∧ a.toNat < 2 ^ i
theorem inv_q {inc t N : BitVec 64} {i q : Nat} {x a : BitVec 64} (h : StepsInv inc t N i q x a) : q < 2 ^ (64 - i) := by
  obtain ⟨h1, _, h3, _⟩ := h
  have h4 := N.isLt
  have h5 : 2 ^ 64 = 2 ^ i * 2 ^ (64 - i) := by rw [← Nat.pow_add]; congr 1; omega
  have h6 : 2 ^ i * q < 2 ^ i * 2 ^ (64 - i) := by omega
  exact Nat.lt_of_mul_lt_mul_left h6
theorem inv_end {inc t N : BitVec 64} {i q : Nat} {x a : BitVec 64} (h : StepsInv inc t N i q x a) (hi : P 64 i = 0#64 ∨ x = t) : a = N := by
  have hq := inv_q h
  obtain ⟨h1, h2, h3, h4⟩ := h
  have hz : q = 0 := by
    rcases hi with hi | hi
    · by_cases hlt : i < 64
      · exact absurd hi (P_ne hlt)
      · have : i = 64 := by omega
        subst this; simpa using hq
    · subst hi
      exact aff_fix_at _ _ T13_form (or1_form (by omega) inc) (64 - i) i (by omega) q hq x h2
  apply BitVec.eq_of_toNat_eq
  rw [h3, hz]; simp
theorem inv_lt {i : Nat} (h1 : i ≤ 64) (h : P 64 i ≠ 0#64) : i < 64 := by
  rcases Nat.lt_or_ge i 64 with h2 | h2
  · exact h2
  · exact absurd (by rw [show i = 64 by omega, P_end]) h
theorem inv_odd {inc t N : BitVec 64} {i q : Nat} {x a : BitVec 64} (h : StepsInv inc t N i q x a) (hP : P 64 i ≠ 0#64) (hb : (x ^^^ t) &&& P 64 i ≠ 0#64) :
    StepsInv inc t N (i + 1) (q / 2) (x * (sq T13 (inc ||| 1#64) i).1 + (sq T13 (inc ||| 1#64) i).2) (a ||| P 64 i) := by
  obtain ⟨h1, h2, h3, h4⟩ := h
  have hi := inv_lt h1 hP
  have hodd : q % 2 = 1 := by
    have := aff_bit _ _ T13_form (or1_form (by omega) inc) i hi q x t h2
    rcases Nat.mod_two_eq_zero_or_one q with e | e
    · exact absurd (this.2 e) hb
    · exact e
  have hq : q = 2 * (q / 2) + 1 := by omega
  refine ⟨by omega, ?_, ?_, ?_⟩
  · rw [hq] at h2
    simp only [aff] at h2
    rw [aff_two] at h2
    exact h2
  · rw [or_P a i hi h4, h3, Nat.pow_succ]
    conv => lhs; rw [hq]
    rw [Nat.mul_add, Nat.mul_assoc]; omega
  · rw [or_P a i hi h4, Nat.pow_succ]; omega
theorem inv_even {inc t N : BitVec 64} {i q : Nat} {x a : BitVec 64} (h : StepsInv inc t N i q x a) (hP : P 64 i ≠ 0#64) (hb : (x ^^^ t) &&& P 64 i = 0#64) :
    StepsInv inc t N (i + 1) (q / 2) x a := by
  obtain ⟨h1, h2, h3, h4⟩ := h
  have hi := inv_lt h1 hP
  have hev : q % 2 = 0 := (aff_bit _ _ T13_form (or1_form (by omega) inc) i hi q x t h2).1 hb
  have hq : q = 2 * (q / 2) := by omega
  refine ⟨by omega, ?_, ?_, ?_⟩
  · rw [hq, aff_two] at h2
    exact h2
  · rw [h3, Nat.pow_succ]
    conv => lhs; rw [hq]
    rw [Nat.mul_assoc]
  · rw [Nat.pow_succ]; omega
/-- what a round lowers: the bit that is still to come -/
def bm (n : Int) : Nat := if n ≤ 0 then 0 else (18446744073709551616 - n).toNat
def bitMeasure (v : Value) : Nat := bm (intOf v)
theorem bit_down {i : Nat} (h1 : i ≤ 64) (h : P 64 i ≠ 0#64) : bitMeasure (.int .u64 (W64 (P 64 i <<< 1))) < bitMeasure (.int .u64 (W64 (P 64 i))) := by
  have hi := inv_lt h1 h
  rw [P_shl]
  have e1 : W64 (P 64 i) = (2 ^ i : Nat) := by unfold W64; rw [toNat_P hi]
  have hp := Nat.two_pow_pos i
  have hl : 2 ^ i < 2 ^ 64 := Nat.pow_lt_pow_right (by omega) hi
  show bm (W64 (P 64 (i + 1))) < bm (W64 (P 64 i))
  rw [e1]
  by_cases h63 : i + 1 < 64
  · have e2 : W64 (P 64 (i + 1)) = (2 * 2 ^ i : Nat) := by unfold W64; rw [toNat_P h63, Nat.pow_succ, Nat.mul_comm]
    rw [e2]; unfold bm; split <;> split <;> omega
  · have e2 : W64 (P 64 (i + 1)) = 0 := by rw [show i + 1 = 64 by omega, P_end]; rfl
    rw [e2]; unfold bm; split <;> split <;> omega
set_option maxHeartbeats 400000 in
theorem steps_any (s t inc : Int) (hs : 0 ≤ s ∧ s < 18446744073709551616) (ht : 0 ≤ t ∧ t < 18446744073709551616) (w : World) :
    Calls Try.prog 46 #[.int .u64 s, .int .u64 t, .int .u64 inc] w fun e w' => ∃ n : BitVec 64, e = .returned (.int .u64 (W64 n)) ∧ adv13 (BitVec.ofInt 64 inc) n.toNat (BitVec.ofInt 64 s) = BitVec.ofInt 64 t ∧ w' = w := by
  obtain ⟨s, rfl⟩ := ex64 s hs
  obtain ⟨t, rfl⟩ := ex64 t ht
  rw [ofInt_W64, ofInt_W64]
  obtain ⟨N, hN⟩ := adv13_surj (BitVec.ofInt 64 inc) s t
  have HN := Lib.hid hN
  clear hN
  go_enter Try.func46, Try.ntmps46
  go_wp2
  go_step3
  go_wp2_with (go_at_call 84; refine (odd_any _ _).mono ?_; rintro e w' ⟨rfl, rfl⟩)
  go_step3
  go_wp2
  go_loop [0, 7, 8, 9, 10] (fun a b c d e => ∃ (i q : Nat) (x n : BitVec 64), a = .int .u64 (W64 x) ∧ b = .int .u64 (W64 (sq T13 (BitVec.ofInt 64 inc ||| 1#64) i).1) ∧ c = .int .u64 (W64 (sq T13 (BitVec.ofInt 64 inc ||| 1#64) i).2) ∧ d = .int .u64 (W64 n) ∧ e = .int .u64 (W64 (P 64 i)) ∧ Hid (StepsInv (BitVec.ofInt 64 inc) t N i q x n)) (fun _ _ _ _ e => bitMeasure e)
  case atStart => exact ⟨0, N.toNat, s, 0#64, rfl, rfl, rfl, rfl, rfl, Lib.hid ⟨by omega, HN.out, by simp, by simp⟩⟩
  case round =>
    obtain ⟨i, q, x, n, rfl, rfl, rfl, rfl, rfl, H⟩ := hrel
    go_wp2
    · have h1 : x = t := of_eq (by assumption)
      go_ret
      exact ⟨N, ret64 (inv_end H.out (.inr h1)), HN.out, rfl⟩
    · have h1 : P 64 i ≠ 0#64 := of_bne (by assumption)
      have h2 : (x ^^^ t) &&& P 64 i ≠ 0#64 := of_bne (by assumption)
      exact ⟨⟨i + 1, q / 2, _, _, rfl, rfl, rfl, rfl, by rw [P_shl], Lib.hid (inv_odd H.out h1 h2)⟩, bit_down H.out.1 h1⟩
    · have h1 : P 64 i ≠ 0#64 := of_bne (by assumption)
      have h2 : (x ^^^ t) &&& P 64 i = 0#64 := of_nbne (by assumption)
      exact ⟨⟨i + 1, q / 2, _, _, rfl, rfl, rfl, rfl, by rw [P_shl], Lib.hid (inv_even H.out h1 h2)⟩, bit_down H.out.1 h1⟩
    · have h1 : P 64 i = 0#64 := of_nbne (by assumption)
      go_ret
      exact ⟨N, ret64 (inv_end H.out (.inl h1)), HN.out, rfl⟩
end Go.Proofs.Ytfeibahbmkhgoaa
