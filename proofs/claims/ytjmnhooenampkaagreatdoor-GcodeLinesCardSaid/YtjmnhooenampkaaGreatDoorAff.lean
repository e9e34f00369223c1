/- Plain lemmas: so many steps of s -> s * m + c on words of w bits: they add up; behind squares; and, where m is 1 modulo 4 and c is odd, from any word each word is reached in just one number of steps below 2^w. -/
import Derived.Test.YtjmnhooenampkaaGreatDoorBv
namespace Go.Bv
/-- so many steps of s -> s * m + c -/
def aff {w : Nat} (m c : BitVec w) : Nat → BitVec w → BitVec w
  | 0, s => s
  | n + 1, s => aff m c n (s * m + c)
theorem aff_add {w : Nat} (m c : BitVec w) (a b : Nat) (s : BitVec w) : aff m c (a + b) s = aff m c b (aff m c a s) := by
  induction a generalizing s with
  | zero => simp [aff]
  | succ a ih => rw [show a + 1 + b = (a + b) + 1 by omega]; simp only [aff]; exact ih _
theorem aff_two {w : Nat} (m c : BitVec w) (n : Nat) (s : BitVec w) : aff m c (2 * n) s = aff (m * m) ((m + 1) * c) n s := by
  induction n generalizing s with
  | zero => rfl
  | succ n ih =>
    rw [show 2 * (n + 1) = (2 * n + 1) + 1 by omega]
    simp only [aff]
    rw [ih]
    congr 1
    grind
/-- a power of 2 -/
def P (w i : Nat) : BitVec w := BitVec.ofNat w (2 ^ i)
theorem P_succ (w i : Nat) : P w (i + 1) = P w i * 2#w := by
  apply BitVec.eq_of_toNat_eq
  simp [P, BitVec.toNat_mul, Nat.pow_succ]
theorem P_zero (w : Nat) : P w 0 = 1#w := rfl
theorem P_end (w : Nat) : P w w = 0#w := by
  apply BitVec.eq_of_toNat_eq; simp [P]
theorem P_add (w i j : Nat) : P w (i + j) = P w i * P w j := by
  apply BitVec.eq_of_toNat_eq
  simp [P, BitVec.toNat_mul, Nat.pow_add]
theorem toNat_P {w i : Nat} (h : i < w) : (P w i).toNat = 2 ^ i := by
  simp only [P, BitVec.toNat_ofNat]; exact Nat.mod_eq_of_lt (Nat.pow_lt_pow_right (by omega) h)
theorem P_ne {w i : Nat} (h : i < w) : P w i ≠ 0#w := by
  intro e
  have := congrArg BitVec.toNat e
  rw [toNat_P h] at this
  have h2 := Nat.two_pow_pos i
  simp at this
theorem odd_ne {w i : Nat} (h : i < w) (f : BitVec w) : P w i * (1#w + 2#w * f) ≠ 0#w := by
  intro e
  have h1 : P w (w - 1 - i) * (P w i * (1#w + 2#w * f)) = 0#w := by rw [e]; simp
  have h2 : P w (w - 1 - i) * (P w i * (1#w + 2#w * f)) = P w (w - 1) + P w w * f := by
    have a : P w (w - 1) = P w (w - 1 - i) * P w i := by rw [← P_add]; congr 1; omega
    have b : P w w = P w (w - 1) * 2#w := by rw [← P_succ]; congr 1; omega
    rw [b, a]; grind
  rw [h2, P_end] at h1
  exact P_ne (w := w) (i := w - 1) (by omega) (by simpa using h1)
theorem parity {w : Nat} (d : BitVec w) : ∃ e, d = 2#w * e ∨ d = 1#w + 2#w * e := by
  refine ⟨BitVec.ofNat w (d.toNat / 2), ?_⟩
  have h : d.toNat = 2 * (d.toNat / 2) ∨ d.toNat = 1 + 2 * (d.toNat / 2) := by omega
  have hd : d = BitVec.ofNat w d.toNat := by simp
  rcases h with h | h
  · left; conv => lhs; rw [hd, h]
    rw [BitVec.ofNat_mul]
  · right; conv => lhs; rw [hd, h]
    rw [BitVec.ofNat_add, BitVec.ofNat_mul]
/-- the multiplier and the summand of 2^i steps -/
def sq {w : Nat} (m c : BitVec w) : Nat → BitVec w × BitVec w
  | 0 => (m, c)
  | i + 1 => ((sq m c i).1 * (sq m c i).1, ((sq m c i).1 + 1) * (sq m c i).2)
theorem aff_sq {w : Nat} (m c : BitVec w) (i q : Nat) (s : BitVec w) : aff m c (2 ^ i * q) s = aff (sq m c i).1 (sq m c i).2 q s := by
  induction i generalizing q with
  | zero => simp [sq]
  | succ i ih => rw [Nat.pow_succ, Nat.mul_assoc, ih, aff_two]; rfl
theorem sq_form {w : Nat} (m c : BitVec w) (hm : ∃ a, m = 1#w + 4#w * a) (hc : ∃ b, c = 1#w + 2#w * b) (i : Nat) :
    (∃ a, (sq m c i).1 = 1#w + P w i * 4#w * a) ∧ ∃ b, (sq m c i).2 = P w i * (1#w + 2#w * b) := by
  induction i with
  | zero =>
    obtain ⟨a, rfl⟩ := hm; obtain ⟨b, rfl⟩ := hc
    exact ⟨⟨a, by simp [sq, P_zero]⟩, ⟨b, by simp [sq, P_zero]⟩⟩
  | succ i ih =>
    obtain ⟨⟨a, ha⟩, ⟨b, hb⟩⟩ := ih
    simp only [sq]
    rw [ha, hb, P_succ]
    exact ⟨⟨a + P w i * 2#w * a * a, by grind⟩, ⟨b + P w i * a + 2#w * P w i * a * b, by grind⟩⟩
section
variable {w : Nat} (m c : BitVec w) (hm : ∃ a, m = 1#w + 4#w * a) (hc : ∃ b, c = 1#w + 2#w * b)
include hm hc
theorem sq_step (i : Nat) (s : BitVec w) : ∃ f, s * (sq m c i).1 + (sq m c i).2 = s + P w i * (1#w + 2#w * f) := by
  obtain ⟨⟨a, ha⟩, ⟨b, hb⟩⟩ := sq_form m c hm hc i
  rw [ha, hb]
  exact ⟨b + 2#w * a * s, by grind⟩
theorem sq_steps (i q : Nat) (s : BitVec w) : ∃ e, aff (sq m c i).1 (sq m c i).2 q s = s + P w i * (BitVec.ofNat w q + 2#w * e) := by
  induction q generalizing s with
  | zero => exact ⟨0#w, by simp [aff]⟩
  | succ q ih =>
    obtain ⟨f, hf⟩ := sq_step m c hm hc i s
    obtain ⟨e, he⟩ := ih (s + P w i * (1#w + 2#w * f))
    refine ⟨e + f, ?_⟩
    simp only [aff]
    rw [hf, he, BitVec.ofNat_add]
    grind
theorem aff_surj_at (k : Nat) : ∀ i, i + k = w → ∀ s d : BitVec w, ∃ q, q < 2 ^ k ∧ aff (sq m c i).1 (sq m c i).2 q s = s + P w i * d := by
  induction k with
  | zero => intro i hi s d; obtain rfl : i = w := by omega
            exact ⟨0, by simp, by rw [P_end]; simp [aff]⟩
  | succ k ih =>
    intro i hi s d
    obtain ⟨e, rfl | rfl⟩ := parity d
    · obtain ⟨q, hq, h⟩ := ih (i + 1) (by omega) s e
      refine ⟨2 * q, by rw [Nat.pow_succ]; omega, ?_⟩
      rw [aff_two]
      show aff (sq m c (i + 1)).1 (sq m c (i + 1)).2 q s = _
      rw [h, P_succ]; grind
    · obtain ⟨f, hf⟩ := sq_step m c hm hc i s
      obtain ⟨q, hq, h⟩ := ih (i + 1) (by omega) (s * (sq m c i).1 + (sq m c i).2) (e - f)
      refine ⟨2 * q + 1, by rw [Nat.pow_succ]; omega, ?_⟩
      simp only [aff]
      rw [aff_two]
      show aff (sq m c (i + 1)).1 (sq m c (i + 1)).2 q _ = _
      rw [h, P_succ, hf]; grind
theorem aff_surj (s t : BitVec w) : ∃ q, q < 2 ^ w ∧ aff m c q s = t := by
  obtain ⟨q, hq, h⟩ := aff_surj_at m c hm hc w 0 (by omega) s (t - s)
  refine ⟨q, hq, ?_⟩
  have h' : aff m c q s = s + P w 0 * (t - s) := h
  rw [h', P_zero]; grind
theorem aff_fix_at (k : Nat) : ∀ i, i + k = w → ∀ q, q < 2 ^ k → ∀ s : BitVec w, aff (sq m c i).1 (sq m c i).2 q s = s → q = 0 := by
  induction k with
  | zero => intro i hi q hq s _; simpa using hq
  | succ k ih =>
    intro i hi q hq s h
    obtain ⟨e, he⟩ := sq_steps m c hm hc i q s
    rcases (show q = 2 * (q / 2) ∨ q = 1 + 2 * (q / 2) by omega) with hp | hp
    · rw [hp, aff_two] at h
      have := ih (i + 1) (by omega) (q / 2) (by rw [Nat.pow_succ] at hq; omega) s h
      omega
    · exfalso
      rw [h, hp, BitVec.ofNat_add, BitVec.ofNat_mul] at he
      refine odd_ne (w := w) (i := i) (by omega) (BitVec.ofNat w (q / 2) + e) ?_
      grind
theorem aff_fix (q : Nat) (hq : q < 2 ^ w) (s : BitVec w) (h : aff m c q s = s) : q = 0 :=
  aff_fix_at m c hm hc w 0 (by omega) q hq s h
theorem aff_inj (a b : Nat) (ha : a < 2 ^ w) (hb : b < 2 ^ w) (s : BitVec w) (h : aff m c a s = aff m c b s) : a = b := by
  have key : ∀ a b : Nat, a ≤ b → b < 2 ^ w → aff m c a s = aff m c b s → a = b := by
    intro a b hab hb h
    have e : aff m c b s = aff m c (b - a) (aff m c a s) := by rw [← aff_add]; congr 1; omega
    rw [h] at e
    have := aff_fix m c hm hc (b - a) (by omega) _ e.symm
    omega
  rcases Nat.le_total a b with hab | hab
  · exact key a b hab hb h
  · exact (key b a hab ha h.symm).symm
theorem aff_whole (s : BitVec w) : aff m c (2 ^ w) s = s := by
  obtain ⟨e, he⟩ := sq_steps m c hm hc w 1 s
  have h := aff_sq m c w 1 s
  rw [Nat.mul_one] at h
  rw [h, he, P_end]; simp
theorem aff_mod (n : Nat) (s : BitVec w) : aff m c (n % 2 ^ w) s = aff m c n s := by
  have hd : ∀ k s, aff m c (2 ^ w * k) s = s := by
    intro k
    induction k with
    | zero => intro s; rfl
    | succ k ih => intro s; rw [Nat.mul_succ, aff_add, ih, aff_whole m c hm hc]
  conv => rhs; rw [← Nat.div_add_mod n (2 ^ w), aff_add, hd]
theorem aff_bit (i : Nat) (hi : i < w) (q : Nat) (s t : BitVec w) (h : aff (sq m c i).1 (sq m c i).2 q s = t) :
    ((s ^^^ t) &&& P w i = 0#w) ↔ q % 2 = 0 := by
  obtain ⟨e, he⟩ := sq_steps m c hm hc i q s
  rw [h] at he
  have hP : P w i = BitVec.twoPow w i := by
    apply BitVec.eq_of_toNat_eq; rw [BitVec.toNat_twoPow]; simp [P]
  have hb : t.getLsbD i = (s.getLsbD i ^^ decide (q % 2 = 1)) := by
    have ht : t.toNat = (s.toNat + 2 ^ i * (q + 2 * e.toNat)) % 2 ^ w := by
      rw [he, BitVec.toNat_add, BitVec.toNat_mul, toNat_P hi, BitVec.toNat_add, BitVec.toNat_mul, BitVec.toNat_ofNat]
      simp [Nat.add_mod, Nat.mul_mod]
    simp only [BitVec.getLsbD]
    rw [ht, Nat.testBit_mod_two_pow]
    simp only [hi, decide_true, Bool.true_and]
    rw [Nat.testBit_eq_decide_div_mod_eq, Nat.testBit_eq_decide_div_mod_eq, Nat.add_mul_div_left _ _ (Nat.two_pow_pos i)]
    have h2 := Nat.mod_two_eq_zero_or_one (s.toNat / 2 ^ i)
    have h3 := Nat.mod_two_eq_zero_or_one q
    have h4 : (s.toNat / 2 ^ i + (q + 2 * e.toNat)) % 2 = (s.toNat / 2 ^ i % 2 + q % 2) % 2 := by omega
    rw [h4]
    rcases h2 with h2 | h2 <;> rcases h3 with h3 | h3 <;> simp [h2, h3]
  rw [hP, BitVec.and_twoPow, BitVec.getLsbD_xor, hb]
  have hne : BitVec.twoPow w i ≠ 0#w := by rw [← hP]; exact P_ne hi
  have h3 := Nat.mod_two_eq_zero_or_one q
  rcases h3 with h3 | h3 <;> cases s.getLsbD i <;> simp [h3, hne]
end
theorem mod4_form {w : Nat} (m : BitVec w) (a : Nat) (h : m = BitVec.ofNat w (1 + 4 * a)) : ∃ a, m = 1#w + 4#w * a :=
  ⟨BitVec.ofNat w a, by rw [h, BitVec.ofNat_add, BitVec.ofNat_mul]⟩
theorem or1_form {w : Nat} (hw : 0 < w) (x : BitVec w) : ∃ b, x ||| 1#w = 1#w + 2#w * b := by
  obtain ⟨e, he⟩ := parity (x ||| 1#w)
  rcases he with he | he
  · exfalso
    have h1 : (x ||| 1#w).getLsbD 0 = true := by simp [hw]
    rw [he] at h1
    have : (2#w * e).toNat % 2 = 0 := by
      rw [BitVec.toNat_mul, BitVec.toNat_ofNat]
      obtain ⟨v, rfl⟩ : ∃ v, w = v + 1 := ⟨w - 1, by omega⟩
      rw [Nat.pow_succ]
      have : 2 % (2 ^ v * 2) * e.toNat % 2 = 0 := by
        rw [Nat.mul_mod]
        have : 2 % (2 ^ v * 2) % 2 = 0 := by rw [Nat.mod_mul_left_mod]
        rw [this]; simp
      rw [Nat.mod_mul_left_mod]; exact this
    simp only [BitVec.getLsbD, Nat.testBit_zero] at h1
    rw [decide_eq_true_eq] at h1
    omega
  · exact ⟨e, he⟩
end Go.Bv
