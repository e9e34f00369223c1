import Derived.Test.YtfaobdmoifnglaaGreatProg
import Derived.Test.YtfaobdmoifnglaaGreatZNew
import Derived.Test.YtfaobdmoifnglaaGreatZBv
section
/- Contracts of package mix and of modn.Odd: what each call returns, for every word; nothing that was there in memory changes. -/
namespace Go.Proofs.YtfaobdmoifnglaaGreat
open Go.RowKit Go.Bv
set_option linter.unusedVariables false
/-- the number of bits that n folds by -/
def sh (n : Int) : Nat := (min (max n 1) 63).toNat
def fold (z : BitVec 64) (n : Int) : BitVec 64 := z ^^^ z >>> sh n
set_option maxHeartbeats 400000 in
theorem shift_any (n : Int) (w : World) :
    Calls Tryz.prog 157 #[.int .i64 n] w fun e w' => e = .returned (.int .i64 (sh n)) ∧ w' = w := by
  go_enter Tryz.func157, Tryz.ntmps157
  go_wp2
  all_goals (go_ret; refine ⟨retI ?_, rfl⟩; (try split at *) <;> simp only [sh] <;> omega)
set_option maxHeartbeats 400000 in
theorem fold_any (z n : Int) (hz : 0 ≤ z ∧ z < 18446744073709551616) (w : World) :
    Calls Tryz.prog 130 #[.int .u64 z, .int .i64 n] w fun e w' => e = .returned (.int .u64 (W64 (fold (BitVec.ofInt 64 z) n))) ∧ w' = w := by
  obtain ⟨z, rfl⟩ := ex64 z hz
  rw [ofInt_W64]
  go_enter Tryz.func130, Tryz.ntmps130
  go_wp2_with (go_at_call 157; refine (shift_any _ _).mono ?_; rintro e w' ⟨rfl, rfl⟩)
  go_ret
  exact ⟨ret64 rfl, rfl⟩
/-- five steps, one behind the other -/
def chain (g0 g1 g2 g3 g4 : Int → BitVec 64) (z : Int) : BitVec 64 := g4 (W64 (g3 (W64 (g2 (W64 (g1 (W64 (g0 z))))))))
/-- what a step of a mixer promises -/
def Step64 (f : Nat) (g : Int → BitVec 64) : Prop := ∀ (x : Int) (w : World), 0 ≤ x ∧ x < 18446744073709551616 →
  Calls Tryz.prog f #[.int .u64 x] w fun e w' => e = .returned (.int .u64 (W64 (g x))) ∧ w' = w
set_option maxRecDepth 100000 in
set_option maxHeartbeats 400000 in
theorem run_any (f0 f1 f2 f3 f4 : Nat) (g0 g1 g2 g3 g4 : Int → BitVec 64) (h0 : Step64 f0 g0) (h1 : Step64 f1 g1) (h2 : Step64 f2 g2) (h3 : Step64 f3 g3) (h4 : Step64 f4 g4)
    (c0 : ∀ a w, (callFunc f0 a).run Tryz.prog w = .ok (.enter f0 a) w) (c1 : ∀ a w, (callFunc f1 a).run Tryz.prog w = .ok (.enter f1 a) w) (c2 : ∀ a w, (callFunc f2 a).run Tryz.prog w = .ok (.enter f2 a) w) (c3 : ∀ a w, (callFunc f3 a).run Tryz.prog w = .ok (.enter f3 a) w) (c4 : ∀ a w, (callFunc f4 a).run Tryz.prog w = .ok (.enter f4 a) w)
    (z : Int) (hz : 0 ≤ z ∧ z < 18446744073709551616) (W w : World) (hg : New W w) :
    Calls Tryz.prog 128 #[.int .u64 z, .agg #[.func (Fn.func f0) #[] #[], .func (Fn.func f1) #[] #[], .func (Fn.func f2) #[] #[], .func (Fn.func f3) #[] #[], .func (Fn.func f4) #[] #[]]] w
      fun e w' => e = .returned (.int .u64 (W64 (chain g0 g1 g2 g3 g4 z))) ∧ New W w' := by
  have i0 : ∀ w, (Instr.index 139 (.agg #[.func (Fn.func f0) #[] #[], .func (Fn.func f1) #[] #[], .func (Fn.func f2) #[] #[], .func (Fn.func f3) #[] #[], .func (Fn.func f4) #[] #[]]) (.int .i64 0)).run Tryz.prog w = .ok (.func (Fn.func f0) #[] #[]) w := fun _ => rfl
  have i1 : ∀ w, (Instr.index 139 (.agg #[.func (Fn.func f0) #[] #[], .func (Fn.func f1) #[] #[], .func (Fn.func f2) #[] #[], .func (Fn.func f3) #[] #[], .func (Fn.func f4) #[] #[]]) (.int .i64 1)).run Tryz.prog w = .ok (.func (Fn.func f1) #[] #[]) w := fun _ => rfl
  have i2 : ∀ w, (Instr.index 139 (.agg #[.func (Fn.func f0) #[] #[], .func (Fn.func f1) #[] #[], .func (Fn.func f2) #[] #[], .func (Fn.func f3) #[] #[], .func (Fn.func f4) #[] #[]]) (.int .i64 2)).run Tryz.prog w = .ok (.func (Fn.func f2) #[] #[]) w := fun _ => rfl
  have i3 : ∀ w, (Instr.index 139 (.agg #[.func (Fn.func f0) #[] #[], .func (Fn.func f1) #[] #[], .func (Fn.func f2) #[] #[], .func (Fn.func f3) #[] #[], .func (Fn.func f4) #[] #[]]) (.int .i64 3)).run Tryz.prog w = .ok (.func (Fn.func f3) #[] #[]) w := fun _ => rfl
  have i4 : ∀ w, (Instr.index 139 (.agg #[.func (Fn.func f0) #[] #[], .func (Fn.func f1) #[] #[], .func (Fn.func f2) #[] #[], .func (Fn.func f3) #[] #[], .func (Fn.func f4) #[] #[]]) (.int .i64 4)).run Tryz.prog w = .ok (.func (Fn.func f4) #[] #[]) w := fun _ => rfl
  go_enter Tryz.func128, Tryz.ntmps128
  go_wp2
  go_loop [0, 8] (fun t i => (i = .int .i64 0 ∧ t = .int .u64 z) ∨ (i = .int .i64 1 ∧ t = .int .u64 (W64 (g0 z))) ∨ (i = .int .i64 2 ∧ t = .int .u64 (W64 (g1 (W64 (g0 z))))) ∨ (i = .int .i64 3 ∧ t = .int .u64 (W64 (g2 (W64 (g1 (W64 (g0 z))))))) ∨ (i = .int .i64 4 ∧ t = .int .u64 (W64 (g3 (W64 (g2 (W64 (g1 (W64 (g0 z))))))))) ∨ (i = .int .i64 5 ∧ t = .int .u64 (W64 (g4 (W64 (g3 (W64 (g2 (W64 (g1 (W64 (g0 z)))))))))))) (fun _ i => 5 - (intOf i).toNat)
  case atStart => exact .inl ⟨rfl, rfl⟩
  case round =>
    rcases hrel with ⟨rfl, rfl⟩ | ⟨rfl, rfl⟩ | ⟨rfl, rfl⟩ | ⟨rfl, rfl⟩ | ⟨rfl, rfl⟩ | ⟨rfl, rfl⟩
    · go_wp2_with (refine (h0 _ _ hz).mono ?_; rintro e w' ⟨rfl, rfl⟩)
      exact ⟨.inr (.inl ⟨rfl, rfl⟩), by simp [intOf]⟩
    · go_wp2_with (refine (h1 _ _ (b64 _)).mono ?_; rintro e w' ⟨rfl, rfl⟩)
      exact ⟨.inr (.inr (.inl ⟨rfl, rfl⟩)), by simp [intOf]⟩
    · go_wp2_with (refine (h2 _ _ (b64 _)).mono ?_; rintro e w' ⟨rfl, rfl⟩)
      exact ⟨.inr (.inr (.inr (.inl ⟨rfl, rfl⟩))), by simp [intOf]⟩
    · go_wp2_with (refine (h3 _ _ (b64 _)).mono ?_; rintro e w' ⟨rfl, rfl⟩)
      exact ⟨.inr (.inr (.inr (.inr (.inl ⟨rfl, rfl⟩)))), by simp [intOf]⟩
    · go_wp2_with (refine (h4 _ _ (b64 _)).mono ?_; rintro e w' ⟨rfl, rfl⟩)
      exact ⟨.inr (.inr (.inr (.inr (.inr (⟨rfl, rfl⟩))))), by simp [intOf]⟩
    · go_wp2
      go_ret
      exact ⟨rfl, hg.alloc _⟩
end Go.Proofs.YtfaobdmoifnglaaGreat
end
section
/- Plain lemmas: so many steps of s -> s * m + c on words of w bits: they add up; behind squares; and, where m is 1 modulo 4 and c is odd, from any word each word is reached in just one number of steps below 2^w. -/
namespace Go.Bv
/-- so many steps of s -> s * m + c -/
def aff {w : Nat} (m c : BitVec w) : Nat → BitVec w → BitVec w
  | 0, s => s
  | n + 1, s => aff m c n (s * m + c)
theorem aff_add {w : Nat} (m c : BitVec w) (a b : Nat) (s : BitVec w) : aff m c (a + b) s = aff m c b (aff m c a s) := by
  induction a generalizing s with
  | zero => simp [aff]
  | succ a ih => rw [show a + 1 + b = (a + b) + 1 by omega]; simp only [aff]; exact ih _
theorem aff_two {w : Nat} (m c : BitVec w) (n : Nat) (s : BitVec w) : aff m c (2 * n) s = aff (m * m) ((m + 1) * c) n s := by
  induction n generalizing s with
  | zero => rfl
  | succ n ih =>
    rw [show 2 * (n + 1) = (2 * n + 1) + 1 by omega]
    simp only [aff]
    rw [ih]
    congr 1
    grind
/-- a power of 2 -/
def P (w i : Nat) : BitVec w := BitVec.ofNat w (2 ^ i)
theorem P_succ (w i : Nat) : P w (i + 1) = P w i * 2#w := by
  apply BitVec.eq_of_toNat_eq
  simp [P, BitVec.toNat_mul, Nat.pow_succ]
theorem P_zero (w : Nat) : P w 0 = 1#w := rfl
theorem P_end (w : Nat) : P w w = 0#w := by
  apply BitVec.eq_of_toNat_eq; simp [P]
theorem P_add (w i j : Nat) : P w (i + j) = P w i * P w j := by
  apply BitVec.eq_of_toNat_eq
  simp [P, BitVec.toNat_mul, Nat.pow_add]
theorem toNat_P {w i : Nat} (h : i < w) : (P w i).toNat = 2 ^ i := by
  simp only [P, BitVec.toNat_ofNat]; exact Nat.mod_eq_of_lt (Nat.pow_lt_pow_right (by omega) h)
theorem P_ne {w i : Nat} (h : i < w) : P w i ≠ 0#w := by
  intro e
  have := congrArg BitVec.toNat e
  rw [toNat_P h] at this
  have h2 := Nat.two_pow_pos i
  simp at this
theorem odd_ne {w i : Nat} (h : i < w) (f : BitVec w) : P w i * (1#w + 2#w * f) ≠ 0#w := by
  intro e
  have h1 : P w (w - 1 - i) * (P w i * (1#w + 2#w * f)) = 0#w := by rw [e]; simp
  have h2 : P w (w - 1 - i) * (P w i * (1#w + 2#w * f)) = P w (w - 1) + P w w * f := by
    have a : P w (w - 1) = P w (w - 1 - i) * P w i := by rw [← P_add]; congr 1; omega
    have b : P w w = P w (w - 1) * 2#w := by rw [← P_succ]; congr 1; omega
    rw [b, a]; grind
  rw [h2, P_end] at h1
  exact P_ne (w := w) (i := w - 1) (by omega) (by simpa using h1)
theorem parity {w : Nat} (d : BitVec w) : ∃ e, d = 2#w * e ∨ d = 1#w + 2#w * e := by
  refine ⟨BitVec.ofNat w (d.toNat / 2), ?_⟩
  have h : d.toNat = 2 * (d.toNat / 2) ∨ d.toNat = 1 + 2 * (d.toNat / 2) := by omega
  have hd : d = BitVec.ofNat w d.toNat := by simp
  rcases h with h | h
  · left; conv => lhs; rw [hd, h]
    rw [BitVec.ofNat_mul]
  · right; conv => lhs; rw [hd, h]
    rw [BitVec.ofNat_add, BitVec.ofNat_mul]
/-- the multiplier and the summand of 2^i steps -/
def sq {w : Nat} (m c : BitVec w) : Nat → BitVec w × BitVec w
  | 0 => (m, c)
  | i + 1 => ((sq m c i).1 * (sq m c i).1, ((sq m c i).1 + 1) * (sq m c i).2)
theorem aff_sq {w : Nat} (m c : BitVec w) (i q : Nat) (s : BitVec w) : aff m c (2 ^ i * q) s = aff (sq m c i).1 (sq m c i).2 q s := by
  induction i generalizing q with
  | zero => simp [sq]
  | succ i ih => rw [Nat.pow_succ, Nat.mul_assoc, ih, aff_two]; rfl
theorem sq_form {w : Nat} (m c : BitVec w) (hm : ∃ a, m = 1#w + 4#w * a) (hc : ∃ b, c = 1#w + 2#w * b) (i : Nat) :
    (∃ a, (sq m c i).1 = 1#w + P w i * 4#w * a) ∧ ∃ b, (sq m c i).2 = P w i * (1#w + 2#w * b) := by
  induction i with
  | zero =>
    obtain ⟨a, rfl⟩ := hm; obtain ⟨b, rfl⟩ := hc
    exact ⟨⟨a, by simp [sq, P_zero]⟩, ⟨b, by simp [sq, P_zero]⟩⟩
  | succ i ih =>
    obtain ⟨⟨a, ha⟩, ⟨b, hb⟩⟩ := ih
    simp only [sq]
    rw [ha, hb, P_succ]
    exact ⟨⟨a + P w i * 2#w * a * a, by grind⟩, ⟨b + P w i * a + 2#w * P w i * a * b, by grind⟩⟩
section
variable {w : Nat} (m c : BitVec w) (hm : ∃ a, m = 1#w + 4#w * a) (hc : ∃ b, c = 1#w + 2#w * b)
include hm hc
theorem sq_step (i : Nat) (s : BitVec w) : ∃ f, s * (sq m c i).1 + (sq m c i).2 = s + P w i * (1#w + 2#w * f) := by
  obtain ⟨⟨a, ha⟩, ⟨b, hb⟩⟩ := sq_form m c hm hc i
  rw [ha, hb]
  exact ⟨b + 2#w * a * s, by grind⟩
theorem sq_steps (i q : Nat) (s : BitVec w) : ∃ e, aff (sq m c i).1 (sq m c i).2 q s = s + P w i * (BitVec.ofNat w q + 2#w * e) := by
  induction q generalizing s with
  | zero => exact ⟨0#w, by simp [aff]⟩
  | succ q ih =>
    obtain ⟨f, hf⟩ := sq_step m c hm hc i s
    obtain ⟨e, he⟩ := ih (s + P w i * (1#w + 2#w * f))
    refine ⟨e + f, ?_⟩
    simp only [aff]
    rw [hf, he, BitVec.ofNat_add]
    grind
theorem aff_surj_at (k : Nat) : ∀ i, i + k = w → ∀ s d : BitVec w, ∃ q, q < 2 ^ k ∧ aff (sq m c i).1 (sq m c i).2 q s = s + P w i * d := by
  induction k with
  | zero => intro i hi s d; obtain rfl : i = w := by omega
            exact ⟨0, by simp, by rw [P_end]; simp [aff]⟩
  | succ k ih =>
    intro i hi s d
    obtain ⟨e, rfl | rfl⟩ := parity d
    · obtain ⟨q, hq, h⟩ := ih (i + 1) (by omega) s e
      refine ⟨2 * q, by rw [Nat.pow_succ]; omega, ?_⟩
      rw [aff_two]
      show aff (sq m c (i + 1)).1 (sq m c (i + 1)).2 q s = _
      rw [h, P_succ]; grind
    · obtain ⟨f, hf⟩ := sq_step m c hm hc i s
      obtain ⟨q, hq, h⟩ := ih (i + 1) (by omega) (s * (sq m c i).1 + (sq m c i).2) (e - f)
      refine ⟨2 * q + 1, by rw [Nat.pow_succ]; omega, ?_⟩
      simp only [aff]
      rw [aff_two]
      show aff (sq m c (i + 1)).1 (sq m c (i + 1)).2 q _ = _
      rw [h, P_succ, hf]; grind
theorem aff_surj (s t : BitVec w) : ∃ q, q < 2 ^ w ∧ aff m c q s = t := by
  obtain ⟨q, hq, h⟩ := aff_surj_at m c hm hc w 0 (by omega) s (t - s)
  refine ⟨q, hq, ?_⟩
  have h' : aff m c q s = s + P w 0 * (t - s) := h
  rw [h', P_zero]; grind
theorem aff_fix_at (k : Nat) : ∀ i, i + k = w → ∀ q, q < 2 ^ k → ∀ s : BitVec w, aff (sq m c i).1 (sq m c i).2 q s = s → q = 0 := by
  induction k with
  | zero => intro i hi q hq s _; simpa using hq
  | succ k ih =>
    intro i hi q hq s h
    obtain ⟨e, he⟩ := sq_steps m c hm hc i q s
    rcases (show q = 2 * (q / 2) ∨ q = 1 + 2 * (q / 2) by omega) with hp | hp
    · rw [hp, aff_two] at h
      have := ih (i + 1) (by omega) (q / 2) (by rw [Nat.pow_succ] at hq; omega) s h
      omega
    · exfalso
      rw [h, hp, BitVec.ofNat_add, BitVec.ofNat_mul] at he
      refine odd_ne (w := w) (i := i) (by omega) (BitVec.ofNat w (q / 2) + e) ?_
      grind
theorem aff_fix (q : Nat) (hq : q < 2 ^ w) (s : BitVec w) (h : aff m c q s = s) : q = 0 :=
  aff_fix_at m c hm hc w 0 (by omega) q hq s h
theorem aff_inj (a b : Nat) (ha : a < 2 ^ w) (hb : b < 2 ^ w) (s : BitVec w) (h : aff m c a s = aff m c b s) : a = b := by
  have key : ∀ a b : Nat, a ≤ b → b < 2 ^ w → aff m c a s = aff m c b s → a = b := by
    intro a b hab hb h
    have e : aff m c b s = aff m c (b - a) (aff m c a s) := by rw [← aff_add]; congr 1; omega
    rw [h] at e
    have := aff_fix m c hm hc (b - a) (by omega) _ e.symm
    omega
  rcases Nat.le_total a b with hab | hab
  · exact key a b hab hb h
  · exact (key b a hab ha h.symm).symm
theorem aff_whole (s : BitVec w) : aff m c (2 ^ w) s = s := by
  obtain ⟨e, he⟩ := sq_steps m c hm hc w 1 s
  have h := aff_sq m c w 1 s
  rw [Nat.mul_one] at h
  rw [h, he, P_end]; simp
theorem aff_mod (n : Nat) (s : BitVec w) : aff m c (n % 2 ^ w) s = aff m c n s := by
  have hd : ∀ k s, aff m c (2 ^ w * k) s = s := by
    intro k
    induction k with
    | zero => intro s; rfl
    | succ k ih => intro s; rw [Nat.mul_succ, aff_add, ih, aff_whole m c hm hc]
  conv => rhs; rw [← Nat.div_add_mod n (2 ^ w), aff_add, hd]
theorem aff_bit (i : Nat) (hi : i < w) (q : Nat) (s t : BitVec w) (h : aff (sq m c i).1 (sq m c i).2 q s = t) :
    ((s ^^^ t) &&& P w i = 0#w) ↔ q % 2 = 0 := by
  obtain ⟨e, he⟩ := sq_steps m c hm hc i q s
  rw [h] at he
  have hP : P w i = BitVec.twoPow w i := by
    apply BitVec.eq_of_toNat_eq; rw [BitVec.toNat_twoPow]; simp [P]
  have hb : t.getLsbD i = (s.getLsbD i ^^ decide (q % 2 = 1)) := by
    have ht : t.toNat = (s.toNat + 2 ^ i * (q + 2 * e.toNat)) % 2 ^ w := by
      rw [he, BitVec.toNat_add, BitVec.toNat_mul, toNat_P hi, BitVec.toNat_add, BitVec.toNat_mul, BitVec.toNat_ofNat]
      simp [Nat.add_mod, Nat.mul_mod]
    simp only [BitVec.getLsbD]
    rw [ht, Nat.testBit_mod_two_pow]
    simp only [hi, decide_true, Bool.true_and]
    rw [Nat.testBit_eq_decide_div_mod_eq, Nat.testBit_eq_decide_div_mod_eq, Nat.add_mul_div_left _ _ (Nat.two_pow_pos i)]
    have h2 := Nat.mod_two_eq_zero_or_one (s.toNat / 2 ^ i)
    have h3 := Nat.mod_two_eq_zero_or_one q
    have h4 : (s.toNat / 2 ^ i + (q + 2 * e.toNat)) % 2 = (s.toNat / 2 ^ i % 2 + q % 2) % 2 := by omega
    rw [h4]
    rcases h2 with h2 | h2 <;> rcases h3 with h3 | h3 <;> simp [h2, h3]
  rw [hP, BitVec.and_twoPow, BitVec.getLsbD_xor, hb]
  have hne : BitVec.twoPow w i ≠ 0#w := by rw [← hP]; exact P_ne hi
  have h3 := Nat.mod_two_eq_zero_or_one q
  rcases h3 with h3 | h3 <;> cases s.getLsbD i <;> simp [h3, hne]
end
theorem mod4_form {w : Nat} (m : BitVec w) (a : Nat) (h : m = BitVec.ofNat w (1 + 4 * a)) : ∃ a, m = 1#w + 4#w * a :=
  ⟨BitVec.ofNat w a, by rw [h, BitVec.ofNat_add, BitVec.ofNat_mul]⟩
theorem or1_form {w : Nat} (hw : 0 < w) (x : BitVec w) : ∃ b, x ||| 1#w = 1#w + 2#w * b := by
  obtain ⟨e, he⟩ := parity (x ||| 1#w)
  rcases he with he | he
  · exfalso
    have h1 : (x ||| 1#w).getLsbD 0 = true := by simp [hw]
    rw [he] at h1
    have : (2#w * e).toNat % 2 = 0 := by
      rw [BitVec.toNat_mul, BitVec.toNat_ofNat]
      obtain ⟨v, rfl⟩ : ∃ v, w = v + 1 := ⟨w - 1, by omega⟩
      rw [Nat.pow_succ]
      have : 2 % (2 ^ v * 2) * e.toNat % 2 = 0 := by
        rw [Nat.mul_mod]
        have : 2 % (2 ^ v * 2) % 2 = 0 := by rw [Nat.mod_mul_left_mod]
        rw [this]; simp
      rw [Nat.mod_mul_left_mod]; exact this
    simp only [BitVec.getLsbD, Nat.testBit_zero] at h1
    rw [decide_eq_true_eq] at h1
    omega
  · exact ⟨e, he⟩
end Go.Bv
end
section
/- Plain lemmas on mixers of words: folds and what undoes them, inverses of odd words, the mixers and their inverses. No program in sight. -/
namespace Go.Bv
/-- a word and it, shifted to the right, bit by bit against each other -/
def F {w : Nat} (k : Nat) (z : BitVec w) : BitVec w := z ^^^ z >>> k
theorem F_far {w : Nat} (k : Nat) (z : BitVec w) (h : w ≤ k) : F k z = z := by
  unfold F
  have : z >>> k = 0#w := by
    apply BitVec.eq_of_getLsbD_eq; intro i hi; rw [BitVec.getLsbD_ushiftRight, BitVec.getLsbD_of_ge z (k + i) (by omega)]; simp
  rw [this, BitVec.xor_zero]
theorem F_F {w : Nat} (k j : Nat) (z : BitVec w) : F k (F j z) = z ^^^ z >>> j ^^^ z >>> k ^^^ z >>> (j + k) := by
  unfold F
  rw [BitVec.ushiftRight_xor_distrib, BitVec.shiftRight_add, BitVec.xor_assoc]
  rw [BitVec.xor_assoc, BitVec.xor_assoc]
theorem F_comm {w : Nat} (k j : Nat) (z : BitVec w) : F k (F j z) = F j (F k z) := by
  rw [F_F, F_F, Nat.add_comm k j]
  congr 1
  rw [BitVec.xor_assoc, BitVec.xor_assoc, BitVec.xor_comm (z >>> j)]
theorem F_twice {w : Nat} (k : Nat) (z : BitVec w) : F k (F k z) = F (2 * k) z := by
  rw [F_F, BitVec.xor_assoc z, BitVec.xor_self, BitVec.xor_zero, show k + k = 2 * k by omega]; rfl
/-- what undoes a fold: folds by k, 2 k, 4 k and so on -/
def unf {w : Nat} : Nat → Nat → BitVec w → BitVec w
  | 0, _, z => z
  | f + 1, k, z => if w ≤ k then z else unf f (2 * k) (F k z)
theorem unf_far {w : Nat} (f k : Nat) (z : BitVec w) (h : w ≤ k) : unf f k z = z := by
  cases f with
  | zero => rfl
  | succ f => rw [unf, if_pos h]
theorem unf_step {w : Nat} (f k : Nat) (z : BitVec w) (h : ¬ w ≤ k) : unf (f + 1) k z = unf f (2 * k) (F k z) := by rw [unf, if_neg h]
theorem unf_comm {w : Nat} (f : Nat) : ∀ (k j : Nat) (z : BitVec w), F j (unf f k z) = unf f k (F j z) := by
  induction f with
  | zero => intro k j z; rfl
  | succ f ih =>
    intro k j z
    by_cases h : w ≤ k
    · rw [unf_far _ _ _ h, unf_far _ _ _ h]
    · rw [unf_step _ _ _ h, unf_step _ _ _ h, ih, F_comm]
theorem unf_F {w : Nat} (f : Nat) : ∀ (k : Nat) (z : BitVec w), w ≤ k * 2 ^ f → unf f k (F k z) = z := by
  induction f with
  | zero => intro k z h; rw [F_far _ _ (by omega)]; rfl
  | succ f ih =>
    intro k z h
    by_cases h2 : w ≤ k
    · rw [unf_far _ _ _ h2, F_far _ _ h2]
    · rw [unf_step _ _ _ h2, F_twice]
      exact ih (2 * k) z (by rw [Nat.pow_succ] at h; rw [Nat.mul_comm 2 k, Nat.mul_assoc, Nat.mul_comm 2]; exact h)
theorem F_unf {w : Nat} (f k : Nat) (z : BitVec w) (h : w ≤ k * 2 ^ f) : F k (unf f k z) = z := by
  rw [unf_comm, unf_F f k z h]
theorem F_inj {w : Nat} {k : Nat} (hk : 0 < k) {x y : BitVec w} (h : F k x = F k y) : x = y := by
  have e : w ≤ k * 2 ^ w := by
    have := Nat.lt_two_pow_self (n := w)
    calc w ≤ 1 * 2 ^ w := by omega
      _ ≤ k * 2 ^ w := Nat.mul_le_mul_right _ hk
  rw [← unf_F w k x e, h, unf_F w k y e]

/-- Newton's way to an inverse of an odd word -/
def newton (a : BitVec 64) : Nat → BitVec 64
  | 0 => a
  | n + 1 => newton a n * (2#64 - a * newton a n)
def oddInv (a : BitVec 64) : BitVec 64 := newton a 5
theorem newton_mul (a : BitVec 64) (b : BitVec 64) (h : a = 1#64 + 2#64 * b) (n : Nat) : ∃ e, a * newton a n = 1#64 + P 64 (3 * 2 ^ n) * e := by
  induction n with
  | zero =>
    obtain ⟨e, he⟩ := parity b
    have hP : P 64 (3 * 2 ^ 0) = 8#64 := rfl
    rw [hP]
    rcases he with he | he
    · exact ⟨e * (1#64 + 2#64 * e), by rw [h, he]; simp only [newton]; grind⟩
    · exact ⟨(1#64 + 2#64 * e) * (1#64 + e), by rw [h, he]; simp only [newton]; grind⟩
  | succ n ih =>
    obtain ⟨e, he⟩ := ih
    have hP : P 64 (3 * 2 ^ (n + 1)) = P 64 (3 * 2 ^ n) * P 64 (3 * 2 ^ n) := by rw [← P_add]; congr 1; rw [Nat.pow_succ]; omega
    refine ⟨- (e * e), ?_⟩
    rw [hP]
    simp only [newton]
    have : a * (newton a n * (2#64 - a * newton a n)) = (a * newton a n) * (2#64 - a * newton a n) := by grind
    rw [this, he]; grind
theorem P_far {w i : Nat} (h : w ≤ i) : P w i = 0#w := by
  obtain ⟨j, rfl⟩ := Nat.exists_eq_add_of_le h
  rw [P_add, P_end]; simp
theorem oddInv_mul (a b : BitVec 64) (h : a = 1#64 + 2#64 * b) : a * oddInv a = 1#64 := by
  obtain ⟨e, he⟩ := newton_mul a b h 5
  rw [oddInv, he, P_far (by decide)]; simp
theorem odd_of_bit {a : BitVec 64} (h : a &&& 1#64 ≠ 0#64) : ∃ b, a = 1#64 + 2#64 * b := by
  obtain ⟨e, he | he⟩ := parity a
  · exfalso; apply h
    apply BitVec.eq_of_toNat_eq
    rw [BitVec.toNat_and]
    show a.toNat &&& 1 = 0
    rw [Nat.and_one_is_mod, he, BitVec.toNat_mul]
    simp
  · exact ⟨e, he⟩

def C1 : BitVec 64 := 0xbf58476d1ce4e5b9#64
def C2 : BitVec 64 := 0x94d049bb133111eb#64
def L1 : BitVec 64 := 0xff51afd7ed558ccd#64
def L2 : BitVec 64 := 0xc4ceb9fe1a85ec53#64
def S1 : BitVec 64 := 0x85ebca6b#64
def S2 : BitVec 64 := 0xc2b2ae35#64
theorem C1_inv : C1 * oddInv C1 = 1#64 := oddInv_mul _ 0x5fac23b68e7272dc#64 (by decide)
theorem C2_inv : C2 * oddInv C2 = 1#64 := oddInv_mul _ 0x4a6824dd899888f5#64 (by decide)
theorem L1_inv : L1 * oddInv L1 = 1#64 := oddInv_mul _ 0x7fa8d7ebf6aac666#64 (by decide)
theorem L2_inv : L2 * oddInv L2 = 1#64 := oddInv_mul _ 0x62675cff0d42f629#64 (by decide)
theorem S1_inv : S1 * oddInv S1 = 1#64 := oddInv_mul _ 0x42f5e535#64 (by decide)
theorem S2_inv : S2 * oddInv S2 = 1#64 := oddInv_mul _ 0x6159571a#64 (by decide)
/-- the mixers -/
def split (z : BitVec 64) : BitVec 64 := F 31 (F 27 (F 30 z * C1) * C2)
def unsplit (z : BitVec 64) : BitVec 64 := unf 6 30 (unf 6 27 (unf 6 31 z * oddInv C2) * oddInv C1)
def fmix (z : BitVec 64) : BitVec 64 := F 33 (F 33 (F 33 z * L1) * L2)
def unfmix (z : BitVec 64) : BitVec 64 := unf 6 33 (unf 6 33 (unf 6 33 z * oddInv L2) * oddInv L1)
theorem mul_inv_right {c d : BitVec 64} (h : c * d = 1#64) (x : BitVec 64) : x * c * d = x := by rw [BitVec.mul_assoc, h, BitVec.mul_one]
theorem mul_inv_left {c d : BitVec 64} (h : c * d = 1#64) (x : BitVec 64) : x * d * c = x := by rw [BitVec.mul_assoc, BitVec.mul_comm d, h, BitVec.mul_one]
theorem unsplit_split (z : BitVec 64) : unsplit (split z) = z := by
  unfold unsplit split
  rw [unf_F _ _ _ (by decide), mul_inv_right C2_inv, unf_F _ _ _ (by decide), mul_inv_right C1_inv, unf_F _ _ _ (by decide)]
theorem split_unsplit (z : BitVec 64) : split (unsplit z) = z := by
  unfold unsplit split
  rw [F_unf _ _ _ (by decide), mul_inv_left C1_inv, F_unf _ _ _ (by decide), mul_inv_left C2_inv, F_unf _ _ _ (by decide)]
theorem unfmix_fmix (z : BitVec 64) : unfmix (fmix z) = z := by
  unfold unfmix fmix
  rw [unf_F _ _ _ (by decide), mul_inv_right L2_inv, unf_F _ _ _ (by decide), mul_inv_right L1_inv, unf_F _ _ _ (by decide)]
theorem fmix_unfmix (z : BitVec 64) : fmix (unfmix z) = z := by
  unfold unfmix fmix
  rw [F_unf _ _ _ (by decide), mul_inv_left L1_inv, F_unf _ _ _ (by decide), mul_inv_left L2_inv, F_unf _ _ _ (by decide)]
/-! ### 32 bits, in words of 64 -/
def up (h : BitVec 32) : BitVec 64 := h.setWidth 64
def low (h : BitVec 64) : BitVec 64 := h &&& 0xffffffff#64
theorem low_bit (h : BitVec 64) (i : Nat) : (low h).getLsbD i = (decide (i < 32) && h.getLsbD i) := by
  have e : 0xffffffff#64 = BitVec.ofNat 64 (2 ^ 32 - 1) := rfl
  unfold low
  simp only [BitVec.getLsbD, BitVec.toNat_and]
  rw [show (0xffffffff#64).toNat = 2 ^ 32 - 1 from rfl, Nat.testBit_and, Nat.testBit_two_pow_sub_one, Bool.and_comm]
theorem low_up (h : BitVec 64) : low h = up (h.setWidth 32) := by
  apply BitVec.eq_of_getLsbD_eq; intro i hi
  rw [low_bit]; unfold up
  simp only [BitVec.getLsbD_setWidth, hi, decide_true, Bool.true_and]
theorem up_low (h : BitVec 32) : (up h).setWidth 32 = h := by
  apply BitVec.eq_of_getLsbD_eq; intro i hi; unfold up; simp [hi]
theorem up_inj {x y : BitVec 32} (h : up x = up y) : x = y := by rw [← up_low x, h, up_low]
theorem F_up (k : Nat) (h : BitVec 32) : F k (up h) = up (F k h) := by
  apply BitVec.eq_of_getLsbD_eq; intro i hi
  unfold F up
  simp only [BitVec.getLsbD_xor, BitVec.getLsbD_ushiftRight, BitVec.getLsbD_setWidth, hi, decide_true, Bool.true_and]
  by_cases h2 : k + i < 64
  · simp [h2]
  · rw [BitVec.getLsbD_of_ge h (k + i) (by omega)]; simp
theorem low_mul (x c : BitVec 64) : low (x * c) = up (x.setWidth 32 * c.setWidth 32) := by
  rw [low_up, BitVec.setWidth_mul _ _ (by omega)]
theorem low_mul_up (x : BitVec 32) (c : BitVec 64) : low (up x * c) = up (x * c.setWidth 32) := by rw [low_mul, up_low]
def fmix32 (h : BitVec 32) : BitVec 32 := F 16 (F 13 (F 16 h * S1.setWidth 32) * S2.setWidth 32)
/-- the mixer of 32 bits as the program reckons it -/
def mid32 (h : BitVec 64) : BitVec 64 := F 16 (low (F 13 (low (F 16 h * S1)) * S2))
theorem mid32_up (h : BitVec 32) : mid32 (up h) = up (fmix32 h) := by
  unfold mid32 fmix32
  rw [F_up, low_mul_up, F_up, low_mul_up, F_up]
def unmid32 (h : BitVec 64) : BitVec 64 := unf 6 16 (low (unf 6 13 (low (unf 6 16 h * oddInv S2)) * oddInv S1))
theorem unf_up (f : Nat) : ∀ (k : Nat) (h : BitVec 32), unf f k (up h) = up (unf f k h) := by
  induction f with
  | zero => intro k h; rfl
  | succ f ih =>
    intro k h
    by_cases h1 : 64 ≤ k
    · rw [unf_far _ _ _ h1, unf_far _ _ _ (by omega)]
    · rw [unf_step _ _ _ h1, F_up, ih]
      by_cases h2 : 32 ≤ k
      · rw [unf_far _ _ h h2, F_far _ _ h2, unf_far _ _ _ (by omega)]
      · rw [unf_step _ _ _ h2]
theorem inv32 {c d : BitVec 64} (h : c * d = 1#64) : c.setWidth 32 * d.setWidth 32 = 1#32 := by
  rw [← BitVec.setWidth_mul _ _ (by omega), h]; rfl
theorem mul_inv_right32 {c d : BitVec 32} (h : c * d = 1#32) (x : BitVec 32) : x * c * d = x := by rw [BitVec.mul_assoc, h, BitVec.mul_one]
theorem mul_inv_left32 {c d : BitVec 32} (h : c * d = 1#32) (x : BitVec 32) : x * d * c = x := by rw [BitVec.mul_assoc, BitVec.mul_comm d, h, BitVec.mul_one]
def unfmix32 (h : BitVec 32) : BitVec 32 := unf 6 16 (unf 6 13 (unf 6 16 h * (oddInv S2).setWidth 32) * (oddInv S1).setWidth 32)
theorem unmid32_up (h : BitVec 32) : unmid32 (up h) = up (unfmix32 h) := by
  unfold unmid32 unfmix32
  rw [unf_up, low_mul_up, unf_up, low_mul_up, unf_up]
theorem unfmix32_fmix32 (z : BitVec 32) : unfmix32 (fmix32 z) = z := by
  unfold unfmix32 fmix32
  rw [unf_F _ _ _ (by decide), mul_inv_right32 (inv32 S2_inv), unf_F _ _ _ (by decide), mul_inv_right32 (inv32 S1_inv), unf_F _ _ _ (by decide)]
theorem fmix32_unfmix32 (z : BitVec 32) : fmix32 (unfmix32 z) = z := by
  unfold unfmix32 fmix32
  rw [F_unf _ _ _ (by decide), mul_inv_left32 (inv32 S1_inv), F_unf _ _ _ (by decide), mul_inv_left32 (inv32 S2_inv), F_unf _ _ _ (by decide)]
theorem split_inj {x y : BitVec 64} : split x = split y ↔ x = y := ⟨fun h => by rw [← unsplit_split x, h, unsplit_split], fun h => by rw [h]⟩
theorem fmix_inj {x y : BitVec 64} : fmix x = fmix y ↔ x = y := ⟨fun h => by rw [← unfmix_fmix x, h, unfmix_fmix], fun h => by rw [h]⟩
theorem fmix32_inj {x y : BitVec 32} : fmix32 x = fmix32 y ↔ x = y := ⟨fun h => by rw [← unfmix32_fmix32 x, h, unfmix32_fmix32], fun h => by rw [h]⟩
end Go.Bv
end
