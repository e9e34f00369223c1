import Derived.Test.YtfaobdmoifnglaaGreatZRot
section
/- Plain lemmas: polynomials over two elements as natural numbers: products, division, common divisors; words and bits as numbers. -/
namespace Go.G2
set_option linter.unusedVariables false
/-- products of polynomials over two elements, as natural numbers -/
def mulG (a b : Nat) : Nat := if a = 0 then 0 else (if a % 2 = 1 then b else 0) ^^^ (2 * mulG (a / 2) b)
termination_by a
decreasing_by omega
theorem mulG_zero (b : Nat) : mulG 0 b = 0 := by unfold mulG; rfl
theorem mulG_step (a b : Nat) : mulG a b = (if a % 2 = 1 then b else 0) ^^^ (2 * mulG (a / 2) b) := by
  by_cases h : a = 0
  · subst h
    simp [mulG_zero]
  · conv => lhs; unfold mulG
    rw [if_neg h]
theorem two_xor (x y : Nat) : 2 * (x ^^^ y) = (2 * x) ^^^ (2 * y) := by
  apply Nat.eq_of_testBit_eq
  intro i
  rw [Nat.testBit_xor]
  cases i with
  | zero => simp [Nat.testBit_zero]
  | succ i => simp only [Nat.testBit_succ, Nat.mul_div_cancel_left _ (show 0 < 2 by decide), Nat.testBit_xor]
theorem xor_comm3 (a b c d : Nat) : (a ^^^ b) ^^^ (c ^^^ d) = (a ^^^ c) ^^^ (b ^^^ d) := by
  rw [Nat.xor_assoc, Nat.xor_assoc, ← Nat.xor_assoc b, Nat.xor_comm b c, Nat.xor_assoc c]
theorem mulG_xor (a b c : Nat) : mulG a (b ^^^ c) = mulG a b ^^^ mulG a c := by
  induction a using Nat.strongRecOn with
  | ind a ih =>
    by_cases h : a = 0
    · subst h; rw [mulG_zero, mulG_zero, mulG_zero]; rfl
    · rw [mulG_step, ih (a / 2) (by omega), mulG_step a b, mulG_step a c, two_xor, xor_comm3]
      congr 1
      by_cases h2 : a % 2 = 1
      · rw [if_pos h2, if_pos h2, if_pos h2]
      · rw [if_neg h2, if_neg h2, if_neg h2]; rfl
theorem mulG_two (a b : Nat) : mulG a (2 * b) = 2 * mulG a b := by
  induction a using Nat.strongRecOn with
  | ind a ih =>
    by_cases h : a = 0
    · subst h; rw [mulG_zero, mulG_zero]
    · rw [mulG_step, ih (a / 2) (by omega), mulG_step a b, two_xor]
      congr 1
      by_cases h2 : a % 2 = 1
      · rw [if_pos h2, if_pos h2]
      · rw [if_neg h2, if_neg h2]
theorem two_mulG (a b : Nat) : mulG (2 * a) b = 2 * mulG a b := by
  rw [mulG_step, if_neg (by omega), show 2 * a / 2 = a by omega, Nat.zero_xor]
theorem mulG_zero' (a : Nat) : mulG a 0 = 0 := by
  induction a using Nat.strongRecOn with
  | ind a ih =>
    by_cases h : a = 0
    · subst h; exact mulG_zero _
    · rw [mulG_step, ih (a / 2) (by omega)]; simp
theorem one_mulG (b : Nat) : mulG 1 b = b := by rw [mulG_step]; simp [mulG_zero]
theorem xor_two (a b : Nat) : (a ^^^ b) / 2 = a / 2 ^^^ b / 2 := by
  apply Nat.eq_of_testBit_eq
  intro i
  rw [← Nat.testBit_succ, Nat.testBit_xor, Nat.testBit_xor, Nat.testBit_succ, Nat.testBit_succ]
theorem xor_odd (a b : Nat) : (a ^^^ b) % 2 = (a % 2 + b % 2) % 2 := by
  have h := Nat.testBit_xor a b 0
  rw [Nat.testBit_zero, Nat.testBit_zero, Nat.testBit_zero] at h
  rcases Nat.mod_two_eq_zero_or_one a with ha | ha <;> rcases Nat.mod_two_eq_zero_or_one b with hb | hb <;> rcases Nat.mod_two_eq_zero_or_one (a ^^^ b) with hc | hc <;> simp [ha, hb, hc] at h ⊢
theorem xor_mulG (a b c : Nat) : mulG (a ^^^ b) c = mulG a c ^^^ mulG b c := by
  induction a using Nat.strongRecOn generalizing b with
  | ind a ih =>
    by_cases h : a = 0
    · subst h; rw [mulG_zero, Nat.zero_xor, Nat.zero_xor]
    · rw [mulG_step, xor_two, ih (a / 2) (by omega), mulG_step a c, mulG_step b c, two_xor, xor_comm3]
      congr 1
      rw [xor_odd]
      rcases Nat.mod_two_eq_zero_or_one a with ha | ha <;> rcases Nat.mod_two_eq_zero_or_one b with hb | hb <;> simp [ha, hb]
theorem mulG_comm (a b : Nat) : mulG a b = mulG b a := by
  induction a using Nat.strongRecOn generalizing b with
  | ind a ih =>
    by_cases h : a = 0
    · subst h; rw [mulG_zero, mulG_zero']
    · rw [mulG_step, ih (a / 2) (by omega)]
      have e : a = (a % 2) ^^^ (2 * (a / 2)) := by
        apply Nat.eq_of_testBit_eq
        intro i
        rw [Nat.testBit_xor]
        cases i with
        | zero => simp [Nat.testBit_zero]
        | succ i =>
          rw [Nat.testBit_succ, Nat.testBit_succ, Nat.testBit_succ, show a % 2 / 2 = 0 by omega, show 2 * (a / 2) / 2 = a / 2 by omega]; simp
      conv => rhs; rw [e, mulG_xor, mulG_two]
      congr 1
      rcases Nat.mod_two_eq_zero_or_one a with ha | ha
      · rw [ha]; simp [mulG_zero']
      · rw [ha]
        have : mulG b 1 = b := by
          clear ih e
          induction b using Nat.strongRecOn with
          | ind b ih =>
            by_cases h : b = 0
            · subst h; exact mulG_zero _
            · rw [mulG_step, ih (b / 2) (by omega)]
              apply Nat.eq_of_testBit_eq
              intro i
              rw [Nat.testBit_xor]
              cases i with
              | zero => rcases Nat.mod_two_eq_zero_or_one b with hb | hb <;> simp [Nat.testBit_zero, hb]
              | succ i => rcases Nat.mod_two_eq_zero_or_one b with hb | hb <;> simp [Nat.testBit_succ, hb]
        simp [this]
theorem mulG_assoc (a b c : Nat) : mulG (mulG a b) c = mulG a (mulG b c) := by
  induction a using Nat.strongRecOn with
  | ind a ih =>
    by_cases h : a = 0
    · subst h; rw [mulG_zero, mulG_zero, mulG_zero]
    · rw [mulG_step a b, xor_mulG, two_mulG, ih (a / 2) (by omega), mulG_step a (mulG b c)]
      congr 1
      rcases Nat.mod_two_eq_zero_or_one a with ha | ha <;> simp [ha, mulG_zero]
theorem mulG_pow (a n : Nat) : mulG (2 ^ n) a = 2 ^ n * a := by
  induction n with
  | zero => simp [one_mulG]
  | succ n ih => rw [Nat.pow_succ, Nat.mul_comm (2 ^ n) 2, two_mulG, ih, Nat.mul_assoc]
/-- degrees: deg of a product -/
theorem mulG_lt {a b : Nat} : ∀ {n m : Nat}, a < 2 ^ (n + 1) → b < 2 ^ m → mulG a b < 2 ^ (n + m) := by
  intro n
  induction n generalizing a with
  | zero =>
    intro m ha hb
    have : a = 0 ∨ a = 1 := by simp at ha; omega
    rcases this with rfl | rfl
    · rw [mulG_zero]; exact Nat.two_pow_pos _
    · rw [one_mulG, Nat.zero_add]; exact hb
  | succ n ih =>
    intro m ha hb
    rw [mulG_step]
    have h1 := ih (a := a / 2) (m := m) (by rw [Nat.pow_succ] at ha; omega) hb
    apply Nat.xor_lt_two_pow
    · have : b < 2 ^ (n + 1 + m) := Nat.lt_of_lt_of_le hb (Nat.pow_le_pow_right (by decide) (by omega))
      split
      · exact this
      · exact Nat.two_pow_pos _
    · rw [show n + 1 + m = n + m + 1 by omega, Nat.pow_succ]; omega
theorem mulG_top {a b : Nat} : ∀ {n m : Nat}, a.testBit n = true → a < 2 ^ (n + 1) → b.testBit m = true → b < 2 ^ (m + 1) → (mulG a b).testBit (n + m) = true := by
  intro n
  induction n generalizing a with
  | zero =>
    intro m h ha hb hb2
    have : a = 0 ∨ a = 1 := by simp at ha; omega
    rcases this with rfl | rfl
    · simp at h
    · rw [one_mulG, Nat.zero_add]; exact hb
  | succ n ih =>
    intro m h ha hb hb2
    rw [mulG_step, Nat.testBit_xor]
    rw [Nat.testBit_succ] at h
    have h1 := ih (a := a / 2) h (by rw [Nat.pow_succ] at ha; omega) hb hb2
    have h2 : (2 * mulG (a / 2) b).testBit (n + 1 + m) = true := by
      rw [show n + 1 + m = n + m + 1 by omega, Nat.testBit_succ, show 2 * mulG (a / 2) b / 2 = mulG (a / 2) b by omega]
      exact h1
    have h3 : (if a % 2 = 1 then b else 0).testBit (n + 1 + m) = false := by
      apply Nat.testBit_lt_two_pow
      split
      · exact Nat.lt_of_lt_of_le hb2 (Nat.pow_le_pow_right (by decide) (by omega))
      · exact Nat.two_pow_pos _
    rw [h2, h3]; rfl
theorem xor_self2 (a b : Nat) : a ^^^ (a ^^^ b) = b := by rw [← Nat.xor_assoc, Nat.xor_self, Nat.zero_xor]
theorem xor_swap {a b c : Nat} (h : a ^^^ b = c) : a = c ^^^ b := by rw [← h, Nat.xor_assoc, Nat.xor_self, Nat.xor_zero]
theorem lt_bits {x n : Nat} (h : ∀ i, n ≤ i → x.testBit i = false) : x < 2 ^ n := Nat.lt_pow_two_of_testBit x h
theorem xor_top {x y k : Nat} (hx : x < 2 ^ (k + 1)) (hy : y < 2 ^ (k + 1)) (h : x.testBit k = y.testBit k) : x ^^^ y < 2 ^ k := by
  apply lt_bits
  intro i hi
  rw [Nat.testBit_xor]
  by_cases e : i = k
  · subst e; rw [h]; simp
  · rw [Nat.testBit_lt_two_pow (Nat.lt_of_lt_of_le hx (Nat.pow_le_pow_right (by decide) (by omega))), Nat.testBit_lt_two_pow (Nat.lt_of_lt_of_le hy (Nat.pow_le_pow_right (by decide) (by omega)))]; rfl
/-- how many bits a number has -/
def bl (n : Nat) : Nat := if n = 0 then 0 else n.log2 + 1
theorem bl_zero : bl 0 = 0 := rfl
theorem lt_bl (n : Nat) : n < 2 ^ bl n := by
  unfold bl
  by_cases h : n = 0
  · subst h; decide
  · rw [if_neg h]; exact Nat.lt_log2_self
theorem bl_pos {n : Nat} (h : n ≠ 0) : ∃ k, bl n = k + 1 ∧ n.testBit k = true ∧ n < 2 ^ (k + 1) := by
  refine ⟨n.log2, if_neg h, ?_, Nat.lt_log2_self⟩
  have h1 := Nat.log2_self_le h
  have h2 : n < 2 ^ (n.log2 + 1) := Nat.lt_log2_self
  rw [Nat.testBit_eq_decide_div_mod_eq]
  have : n / 2 ^ n.log2 = 1 := by
    apply Nat.div_eq_of_lt_le
    · omega
    · rw [Nat.pow_succ] at h2; omega
  rw [this]; rfl
theorem ge_of_bit {n k : Nat} (h : n.testBit k = true) : 2 ^ k ≤ n := Nat.ge_two_pow_of_testBit h
theorem bl_eq {n k : Nat} (h : n.testBit k = true) (h2 : n < 2 ^ (k + 1)) : bl n = k + 1 := by
  have hn : n ≠ 0 := by intro e; subst e; simp at h
  obtain ⟨j, e1, e2, e3⟩ := bl_pos hn
  rw [e1]
  congr 1
  rcases Nat.lt_trichotomy j k with h3 | h3 | h3
  · have := ge_of_bit h
    have h4 : 2 ^ (j + 1) ≤ 2 ^ k := Nat.pow_le_pow_right (by decide) h3
    omega
  · exact h3
  · have := ge_of_bit e2
    have h4 : 2 ^ (k + 1) ≤ 2 ^ j := Nat.pow_le_pow_right (by decide) h3
    omega
theorem bl_le {n k : Nat} : bl n ≤ k ↔ n < 2 ^ k := by
  constructor
  · intro h
    exact Nat.lt_of_lt_of_le (lt_bl n) (Nat.pow_le_pow_right (by decide) h)
  · intro h
    by_cases hn : n = 0
    · subst hn; exact Nat.zero_le _
    · obtain ⟨j, e1, e2, e3⟩ := bl_pos hn
      have := ge_of_bit e2
      rw [e1]
      apply Nat.succ_le_of_lt
      exact (Nat.pow_lt_pow_iff_right (show 1 < 2 by decide)).1 (show 2 ^ j < 2 ^ k by omega)
theorem bl_none {n : Nat} (h : bl n = 0) : n = 0 := by
  have := (bl_le (n := n) (k := 0)).1 (by omega)
  simpa using this
theorem mulG_ne {a b : Nat} (ha : a ≠ 0) (hb : b ≠ 0) : bl (mulG a b) + 1 = bl a + bl b := by
  obtain ⟨n, e1, e2, e3⟩ := bl_pos ha
  obtain ⟨m, f1, f2, f3⟩ := bl_pos hb
  have h1 := mulG_top e2 e3 f2 f3
  have h2 := mulG_lt (a := a) (b := b) (n := n) (m := m + 1) e3 f3
  rw [bl_eq h1 h2]; omega
/-- division: there is one quotient and one rest -/
theorem dv_one {m q r q' r' : Nat} (hm : m ≠ 0) (h : mulG q m ^^^ r = mulG q' m ^^^ r') (hr : bl r < bl m) (hr' : bl r' < bl m) : q = q' ∧ r = r' := by
  have h1 : mulG (q ^^^ q') m = r ^^^ r' := by
    rw [xor_mulG]
    have := xor_swap h
    rw [this, Nat.xor_assoc, Nat.xor_assoc, Nat.xor_comm (mulG q' m), Nat.xor_assoc, Nat.xor_assoc, Nat.xor_self, Nat.xor_zero, Nat.xor_comm]
  obtain ⟨k, f1, f2, f3⟩ := bl_pos hm
  have h2 : r ^^^ r' < 2 ^ k := Nat.xor_lt_two_pow (bl_le.1 (by omega)) (bl_le.1 (by omega))
  by_cases e : q ^^^ q' = 0
  · have hq : q = q' := by
      have := xor_swap e
      rwa [Nat.zero_xor] at this
    rw [e, mulG_zero] at h1
    have := xor_swap h1.symm
    exact ⟨hq, by rwa [Nat.zero_xor] at this⟩
  · exfalso
    have h3 := mulG_ne e hm
    rw [h1] at h3
    have h4 := bl_le.2 h2
    have h5 : bl (q ^^^ q') ≠ 0 := fun h => e (bl_none h)
    omega
theorem shift_top {m k j : Nat} (h : m.testBit k = true) (h2 : m < 2 ^ (k + 1)) : (2 ^ j * m).testBit (k + j) = true ∧ 2 ^ j * m < 2 ^ (k + j + 1) := by
  constructor
  · rw [Nat.testBit_two_pow_mul, Nat.add_sub_cancel, h]; simp
  · rw [show k + j + 1 = j + (k + 1) by omega, Nat.pow_add]
    exact (Nat.mul_lt_mul_left (Nat.two_pow_pos j)).2 h2
theorem dv_step {a m q r k j : Nat} (hm : m.testBit k = true) (hm2 : m < 2 ^ (k + 1)) (h : a = mulG q m ^^^ r) (hr : r < 2 ^ (k + j + 1)) (hb : r.testBit (k + j) = true) : a = mulG (q ^^^ 2 ^ j) m ^^^ (r ^^^ 2 ^ j * m) ∧ r ^^^ 2 ^ j * m < 2 ^ (k + j) := by
  obtain ⟨h1, h2⟩ := shift_top (j := j) hm hm2
  refine ⟨?_, xor_top hr h2 (by rw [hb, h1])⟩
  rw [xor_mulG, mulG_pow, h, Nat.xor_assoc, ← Nat.xor_assoc (2 ^ j * m), Nat.xor_comm (2 ^ j * m) r, Nat.xor_assoc r, Nat.xor_self, Nat.xor_zero]
theorem lt_less {r k : Nat} (h : r < 2 ^ (k + 1)) (hb : r.testBit k = false) : r < 2 ^ k := by
  apply lt_bits
  intro i hi
  by_cases e : i = k
  · subst e; exact hb
  · exact Nat.testBit_lt_two_pow (Nat.lt_of_lt_of_le h (Nat.pow_le_pow_right (by decide) (by omega)))
theorem dv_ex {m : Nat} (hm : m ≠ 0) (a : Nat) : ∃ qr : Nat × Nat, a = mulG qr.1 m ^^^ qr.2 ∧ bl qr.2 < bl m := by
  obtain ⟨k, f1, f2, f3⟩ := bl_pos hm
  have go : ∀ j q r, a = mulG q m ^^^ r → r < 2 ^ (k + j) → ∃ qr : Nat × Nat, a = mulG qr.1 m ^^^ qr.2 ∧ bl qr.2 < bl m := by
    intro j
    induction j with
    | zero => intro q r h hr; exact ⟨(q, r), h, by have := bl_le.2 hr; show bl r < bl m; omega⟩
    | succ j ih =>
      intro q r h hr
      rcases hb : r.testBit (k + j) with _ | _
      · exact ih q r h (lt_less hr hb)
      · obtain ⟨h1, h2⟩ := dv_step f2 f3 h hr hb
        exact ih _ _ h1 h2
  refine go (bl a) 0 a (by rw [mulG_zero, Nat.zero_xor]) (Nat.lt_of_lt_of_le (lt_bl a) (Nat.pow_le_pow_right (by decide) (by omega)))
open Classical in
noncomputable def dvG (a m : Nat) : Nat × Nat := if h : m ≠ 0 then Classical.choose (dv_ex h a) else (0, a)
theorem dv_spec {a m : Nat} (h : m ≠ 0) : a = mulG (dvG a m).1 m ^^^ (dvG a m).2 ∧ bl (dvG a m).2 < bl m := by
  unfold dvG
  rw [dif_pos h]
  exact Classical.choose_spec (dv_ex h a)
theorem dv_is {a m q r : Nat} (hm : m ≠ 0) (h : a = mulG q m ^^^ r) (hr : bl r < bl m) : dvG a m = (q, r) := by
  obtain ⟨h1, h2⟩ := dv_spec (a := a) hm
  obtain ⟨e1, e2⟩ := dv_one hm (h1.symm.trans h) h2 hr
  exact Prod.ext e1 e2
/-- rests -/
noncomputable def rmG (a m : Nat) : Nat := (dvG a m).2
theorem rm_lt {a m : Nat} (h : m ≠ 0) : bl (rmG a m) < bl m := (dv_spec h).2
theorem rm_small {a m : Nat} (h : bl a < bl m) : rmG a m = a := by
  have hm : m ≠ 0 := by intro e; subst e; simp [bl_zero] at h
  unfold rmG
  rw [dv_is hm (q := 0) (r := a) (by rw [mulG_zero, Nat.zero_xor]) h]
theorem rm_add {a b m : Nat} (h : m ≠ 0) : rmG (a ^^^ b) m = rmG a m ^^^ rmG b m := by
  obtain ⟨a1, a2⟩ := dv_spec (a := a) h
  obtain ⟨b1, b2⟩ := dv_spec (a := b) h
  obtain ⟨k, f1, f2, f3⟩ := bl_pos h
  show (dvG (a ^^^ b) m).2 = _
  rw [dv_is h (q := (dvG a m).1 ^^^ (dvG b m).1) (r := rmG a m ^^^ rmG b m)]
  · rw [xor_mulG]
    conv => lhs; rw [a1, b1]
    exact xor_comm3 _ _ _ _
  · have := bl_le.2 (Nat.xor_lt_two_pow (n := k) (bl_le.1 (show bl (rmG a m) ≤ k by unfold rmG; omega)) (bl_le.1 (show bl (rmG b m) ≤ k by unfold rmG; omega)))
    omega
theorem rm_mul_self {q m : Nat} (h : m ≠ 0) : rmG (mulG q m) m = 0 := by
  unfold rmG
  rw [dv_is h (q := q) (r := 0) (by rw [Nat.xor_zero]) (by
    have : bl m ≠ 0 := fun e => h (bl_none e)
    rw [bl_zero]; omega)]
theorem rm_mul_l {a b m : Nat} (h : m ≠ 0) : rmG (mulG (rmG a m) b) m = rmG (mulG a b) m := by
  obtain ⟨a1, a2⟩ := dv_spec (a := a) h
  conv => rhs; rw [a1]
  rw [xor_mulG, rm_add h, mulG_assoc, mulG_comm m b, ← mulG_assoc, rm_mul_self h, Nat.zero_xor]; rfl
theorem rm_mul_r {a b m : Nat} (h : m ≠ 0) : rmG (mulG a (rmG b m)) m = rmG (mulG a b) m := by
  rw [mulG_comm a, rm_mul_l h, mulG_comm b]
theorem rm_rm {a m : Nat} (h : m ≠ 0) : rmG (rmG a m) m = rmG a m := rm_small (rm_lt h)
/-- divides -/
def dvsG (m a : Nat) : Prop := ∃ q, a = mulG q m
theorem dvs_rm {m a : Nat} (h : m ≠ 0) : dvsG m a ↔ rmG a m = 0 := by
  constructor
  · rintro ⟨q, rfl⟩; exact rm_mul_self h
  · intro h2
    have := (dv_spec (a := a) h).1
    unfold rmG at h2
    rw [h2, Nat.xor_zero] at this
    exact ⟨_, this⟩
theorem dvs_zero (m : Nat) : dvsG m 0 := ⟨0, (mulG_zero m).symm⟩
theorem dvs_self (m : Nat) : dvsG m m := ⟨1, (one_mulG m).symm⟩
theorem dvs_add {m a b : Nat} (h1 : dvsG m a) (h2 : dvsG m b) : dvsG m (a ^^^ b) := by
  obtain ⟨q, rfl⟩ := h1; obtain ⟨p, rfl⟩ := h2
  exact ⟨q ^^^ p, (xor_mulG _ _ _).symm⟩
theorem dvs_mul {m a : Nat} (b : Nat) (h : dvsG m a) : dvsG m (mulG b a) := by
  obtain ⟨q, rfl⟩ := h; exact ⟨mulG b q, (mulG_assoc _ _ _).symm⟩
/-- a step of Euclid's keeps the common divisors -/
theorem gcd_step {a b : Nat} (hb : b ≠ 0) (d : Nat) : (dvsG d a ∧ dvsG d b) ↔ (dvsG d b ∧ dvsG d (rmG a b)) := by
  have h := (dv_spec (a := a) hb).1
  have e : rmG a b = a ^^^ mulG (dvG a b).1 b := by
    have h2 := h
    rw [Nat.xor_comm] at h2
    exact xor_swap h2.symm
  constructor
  · rintro ⟨h1, h2⟩
    exact ⟨h2, by rw [e]; exact dvs_add h1 (dvs_mul _ h2)⟩
  · rintro ⟨h1, h2⟩
    refine ⟨?_, h1⟩
    rw [h]
    exact dvs_add (dvs_mul _ h1) h2
/-- the number that words are, the lowest first -/
def vW : List (BitVec 64) → Nat
  | [] => 0
  | x :: l => x.toNat + 2 ^ 64 * vW l
/-- the number that bits are -/
def vB : List Bool → Nat
  | [] => 0
  | x :: l => x.toNat + 2 * vB l
/-- so many words of a number -/
def wL (k n : Nat) : List (BitVec 64) := (List.range k).map fun i => BitVec.ofNat 64 (n / 2 ^ (64 * i))
theorem wL_len (k n : Nat) : (wL k n).length = k := by unfold wL; simp
theorem wL_get {k n i : Nat} (h : i < k) : (wL k n).getD i 0 = BitVec.ofNat 64 (n / 2 ^ (64 * i)) := by
  unfold wL; rw [List.getD_eq_getElem?_getD, List.getElem?_map, List.getElem?_range h]; rfl
theorem words_eq {l m : List (BitVec 64)} {n : Nat} (hl : l.length = n) (hm : m.length = n) (h : ∀ i, i < n → l.getD i 0 = m.getD i 0) : l = m := by
  apply List.ext_getElem?
  intro i
  by_cases hi : i < n
  · have := h i hi
    rw [List.getD_eq_getElem?_getD, List.getD_eq_getElem?_getD, List.getElem?_eq_getElem (by omega), List.getElem?_eq_getElem (by omega)] at this
    rw [List.getElem?_eq_getElem (by omega), List.getElem?_eq_getElem (by omega)]
    simpa using this
  · rw [List.getElem?_eq_none (by omega), List.getElem?_eq_none (by omega)]
theorem vW_lt : ∀ l : List (BitVec 64), vW l < 2 ^ (64 * l.length)
  | [] => by decide
  | x :: l => by
    have := vW_lt l
    have hx := x.isLt
    show x.toNat + 2 ^ 64 * vW l < 2 ^ (64 * (l.length + 1))
    rw [Nat.mul_add, Nat.pow_add, Nat.mul_one]
    have : 2 ^ 64 * (vW l + 1) ≤ 2 ^ 64 * 2 ^ (64 * l.length) := Nat.mul_le_mul_left _ this
    rw [Nat.mul_comm (2 ^ (64 * l.length))]
    omega
theorem vW_div : ∀ (l : List (BitVec 64)) (i : Nat), BitVec.ofNat 64 (vW l / 2 ^ (64 * i)) = l.getD i 0
  | [], i => by show BitVec.ofNat 64 (0 / _) = _; rw [Nat.zero_div]; simp
  | x :: l, 0 => by
    show BitVec.ofNat 64 ((x.toNat + 2 ^ 64 * vW l) / 1) = x
    apply BitVec.eq_of_toNat_eq
    rw [BitVec.toNat_ofNat, Nat.div_one, Nat.add_mul_mod_self_left, Nat.mod_eq_of_lt x.isLt]
  | x :: l, i + 1 => by
    have := vW_div l i
    show BitVec.ofNat 64 ((x.toNat + 2 ^ 64 * vW l) / 2 ^ (64 * (i + 1))) = l.getD i 0
    rw [← this, Nat.mul_add, Nat.pow_add, Nat.mul_one, Nat.mul_comm (2 ^ (64 * i)), ← Nat.div_div_eq_div_mul, Nat.add_mul_div_left _ _ (by decide), Nat.div_eq_of_lt x.isLt, Nat.zero_add]
theorem wL_vW (l : List (BitVec 64)) : wL l.length (vW l) = l := by
  apply words_eq (n := l.length) (wL_len _ _) rfl
  intro i hi
  rw [wL_get hi, vW_div]
theorem wL_mod (k n : Nat) : wL k (n % 2 ^ (64 * k)) = wL k n := by
  apply words_eq (n := k) (wL_len _ _) (wL_len _ _)
  intro i hi
  rw [wL_get hi, wL_get hi]
  apply BitVec.eq_of_toNat_eq
  rw [BitVec.toNat_ofNat, BitVec.toNat_ofNat]
  apply Nat.eq_of_testBit_eq
  intro j
  rw [Nat.testBit_mod_two_pow, Nat.testBit_mod_two_pow, Nat.testBit_div_two_pow, Nat.testBit_div_two_pow, Nat.testBit_mod_two_pow]
  by_cases hj : j < 64
  · have : 64 * i + j < 64 * k := by
      have : 64 * (i + 1) ≤ 64 * k := Nat.mul_le_mul_left _ hi
      omega
    simp [hj, show j + 64 * i < 64 * k by omega]
  · simp [hj]
theorem bits_split (n k : Nat) (x : Nat) (hx : x < 2 ^ k) : x + 2 ^ k * n = x ^^^ 2 ^ k * n := by
  apply Nat.eq_of_testBit_eq
  intro i
  rw [Nat.add_comm, Nat.testBit_two_pow_mul_add _ hx, Nat.testBit_xor, Nat.testBit_two_pow_mul]
  by_cases h : i < k
  · rw [if_pos h]; simp [show ¬ k ≤ i by omega]
  · rw [if_neg h, Nat.testBit_lt_two_pow (Nat.lt_of_lt_of_le hx (Nat.pow_le_pow_right (by decide) (by omega)))]
    simp [show k ≤ i by omega]
theorem vW_wL : ∀ (k n : Nat), vW (wL k n) = n % 2 ^ (64 * k)
  | 0, n => by rw [Nat.mul_zero, Nat.pow_zero, Nat.mod_one]; rfl
  | k + 1, n => by
    have h1 : wL (k + 1) n = BitVec.ofNat 64 n :: wL k (n / 2 ^ 64) := by
      unfold wL
      rw [List.range_succ_eq_map, List.map_cons, List.map_map]
      congr 1
      · simp
      · apply List.map_congr_left
        intro i _
        show BitVec.ofNat 64 (n / 2 ^ (64 * (i + 1))) = BitVec.ofNat 64 (n / 2 ^ 64 / 2 ^ (64 * i))
        rw [Nat.div_div_eq_div_mul, ← Nat.pow_add, show 64 * (i + 1) = 64 + 64 * i by omega]
    rw [h1]
    show (BitVec.ofNat 64 n).toNat + 2 ^ 64 * vW (wL k (n / 2 ^ 64)) = _
    rw [vW_wL k, BitVec.toNat_ofNat, show 64 * (k + 1) = 64 + 64 * k by omega, Nat.pow_add, Nat.mod_mul]
/-- the words of a number, none of which is 0 at the end -/
def tW (n : Nat) : List (BitVec 64) := wL ((bl n + 63) / 64) n
theorem tW_len (n : Nat) : (tW n).length = (bl n + 63) / 64 := wL_len _ _
theorem vW_tW (n : Nat) : vW (tW n) = n := by
  unfold tW
  rw [vW_wL]
  exact Nat.mod_eq_of_lt (Nat.lt_of_lt_of_le (lt_bl n) (Nat.pow_le_pow_right (by decide) (by omega)))
theorem tW_inj {a b : Nat} : tW a = tW b ↔ a = b := ⟨fun h => by rw [← vW_tW a, h, vW_tW], fun h => by rw [h]⟩
theorem bl_vW (l : List (BitVec 64)) : bl (vW l) ≤ 64 * l.length := bl_le.2 (vW_lt l)
/-- the words up to the last one that is not 0 -/
theorem take_tW {l : List (BitVec 64)} {u : Nat} (hu : u ≤ l.length) (h0 : ∀ i, u ≤ i → i < l.length → l.getD i 0 = 0#64) (h1 : u = 0 ∨ l.getD (u - 1) 0 ≠ 0#64) : l.take u = tW (vW l) ∧ u = (bl (vW l) + 63) / 64 := by
  have hz : vW l < 2 ^ (64 * u) := by
    apply lt_bits
    intro i hi
    have h2 := vW_div l (i / 64)
    have h3 : l.getD (i / 64) 0 = 0#64 := by
      by_cases hl : i / 64 < l.length
      · exact h0 _ (by omega) hl
      · rw [List.getD_eq_getElem?_getD, List.getElem?_eq_none (by omega)]; rfl
    rw [h3] at h2
    have h4 := congrArg (fun x => x.getLsbD (i % 64)) h2
    simp only [BitVec.getLsbD_ofNat] at h4
    rw [Nat.testBit_div_two_pow, show i % 64 + 64 * (i / 64) = i by omega] at h4
    simpa [show i % 64 < 64 by omega] using h4
  have hb := bl_le.2 hz
  have hu2 : u = (bl (vW l) + 63) / 64 := by
    rcases h1 with h1 | h1
    · subst h1; omega
    · have hge : 64 * (u - 1) < bl (vW l) := by
        apply Nat.lt_of_not_le
        intro h2
        have h3 := bl_le.1 h2
        have h4 := vW_div l (u - 1)
        rw [Nat.div_eq_of_lt h3] at h4
        exact h1 (by rw [← h4])
      omega
  refine ⟨?_, hu2⟩
  unfold tW
  rw [← hu2]
  apply words_eq (n := u) (by rw [List.length_take]; omega) (wL_len _ _)
  intro i hi
  rw [wL_get hi, vW_div, List.getD_eq_getElem?_getD, List.getElem?_take, if_pos hi, ← List.getD_eq_getElem?_getD]
/-- a bit -/
theorem bit_word (l : List (BitVec 64)) (i : Nat) : (vW l).testBit i = (l.getD (i / 64) 0).getLsbD (i % 64) := by
  rw [← vW_div l (i / 64), BitVec.getLsbD_ofNat, Nat.testBit_div_two_pow, show i % 64 + 64 * (i / 64) = i by omega]
  simp [show i % 64 < 64 by omega]
theorem bit_bool : ∀ (l : List Bool) (i : Nat), (vB l).testBit i = l.getD i false
  | [], i => by show (0 : Nat).testBit i = _; simp
  | x :: l, 0 => by
    show (x.toNat + 2 * vB l).testBit 0 = x
    rw [Nat.testBit_zero]; cases x <;> simp
  | x :: l, i + 1 => by
    show (x.toNat + 2 * vB l).testBit (i + 1) = l.getD i false
    rw [← bit_bool l i, Nat.testBit_succ]
    congr 1
    cases x <;> simp <;> omega
theorem vB_lt (l : List Bool) : vB l < 2 ^ l.length := by
  apply lt_bits
  intro i hi
  rw [bit_bool, List.getD_eq_getElem?_getD, List.getElem?_eq_none hi]; rfl
theorem bl_vB (l : List Bool) : bl (vB l) ≤ l.length := bl_le.2 (vB_lt l)
/-- a word of a list changed by XOR -/
theorem wL_xor {k n j : Nat} (hj : j < k) (x : BitVec 64) : (wL k n).set j (BitVec.ofNat 64 (n / 2 ^ (64 * j)) ^^^ x) = wL k (n ^^^ 2 ^ (64 * j) * x.toNat) := by
  apply words_eq (n := k) (by rw [List.length_set, wL_len]) (wL_len _ _)
  intro i hi
  rw [wL_get hi]
  have hx := x.isLt
  by_cases e : i = j
  · subst e
    rw [List.getD_eq_getElem?_getD, List.getElem?_set, if_pos rfl, if_pos (by rw [wL_len]; exact hi)]
    show _ ^^^ _ = _
    apply BitVec.eq_of_getLsbD_eq
    intro t ht
    rw [BitVec.getLsbD_xor, BitVec.getLsbD_ofNat, BitVec.getLsbD_ofNat, Nat.testBit_div_two_pow, Nat.testBit_div_two_pow, Nat.testBit_xor, Nat.testBit_two_pow_mul, Nat.add_sub_cancel]
    simp only [ht, decide_true, Bool.true_and, show t + 64 * i ≥ 64 * i from Nat.le_add_left _ _]
    rfl
  · rw [List.getD_eq_getElem?_getD, List.getElem?_set, if_neg (fun h => e h.symm), ← List.getD_eq_getElem?_getD, wL_get hi]
    apply BitVec.eq_of_getLsbD_eq
    intro t ht
    rw [BitVec.getLsbD_ofNat, BitVec.getLsbD_ofNat, Nat.testBit_div_two_pow, Nat.testBit_div_two_pow, Nat.testBit_xor, Nat.testBit_two_pow_mul]
    have : (decide (t + 64 * i ≥ 64 * j) && x.toNat.testBit (t + 64 * i - 64 * j)) = false := by
      by_cases h2 : 64 * j ≤ t + 64 * i
      · have h3 : j ≤ i := by omega
        rw [Nat.testBit_lt_two_pow (Nat.lt_of_lt_of_le hx (Nat.pow_le_pow_right (by decide) (by omega)))]
        simp
      · simp [show ¬ 64 * j ≤ t + 64 * i from h2]
    rw [this]; simp
end Go.G2
end
section
/- Plain lemmas: polynomials over two elements act on the states of a generator whose step is linear. -/
namespace Go.G2
set_option linter.unusedVariables false
/-- states with a sum and a step that keeps sums -/
structure Lin (S : Type) where
  x : S → S → S
  z : S
  st : S → S
  x_comm : ∀ p q, x p q = x q p
  x_assoc : ∀ p q r, x (x p q) r = x p (x q r)
  x_self : ∀ p, x p p = z
  x_z : ∀ p, x p z = p
  st_x : ∀ p q, st (x p q) = x (st p) (st q)
namespace Lin
variable {S : Type} (L : Lin S)
theorem z_x (p : S) : L.x L.z p = p := by rw [L.x_comm, L.x_z]
theorem st_z : L.st L.z = L.z := by
  have h := L.st_x L.z L.z
  rw [L.x_self, L.x_self] at h
  exact h
theorem x_four (a b c d : S) : L.x (L.x a b) (L.x c d) = L.x (L.x a c) (L.x b d) := by
  rw [L.x_assoc, L.x_assoc, ← L.x_assoc b, L.x_comm b c, L.x_assoc c]
theorem x_zero {p q : S} (h : L.x p q = L.z) : p = q := by
  have h2 : L.x (L.x p q) q = L.x L.z q := by rw [h]
  rw [L.x_assoc, L.x_self, L.x_z, L.z_x] at h2
  exact h2
/-- behind n steps -/
def it {S : Type} (L : Lin S) : Nat → S → S
  | 0, s => s
  | n + 1, s => it L n (L.st s)
theorem it_st : ∀ (n : Nat) (s : S), L.it n (L.st s) = L.st (L.it n s)
  | 0, s => rfl
  | n + 1, s => by show L.it n (L.st (L.st s)) = _; rw [it_st n]; rfl
theorem it_add : ∀ (a b : Nat) (s : S), L.it (a + b) s = L.it a (L.it b s)
  | a, 0, s => rfl
  | a, b + 1, s => by show L.it (a + b) (L.st s) = _; rw [it_add a b]; rfl
theorem it_z : ∀ n : Nat, L.it n L.z = L.z
  | 0 => rfl
  | n + 1 => by show L.it n (L.st L.z) = _; rw [L.st_z, it_z n]
theorem it_x : ∀ (n : Nat) (p q : S), L.it n (L.x p q) = L.x (L.it n p) (L.it n q)
  | 0, p, q => rfl
  | n + 1, p, q => by show L.it n (L.st _) = _; rw [L.st_x, it_x n]; rfl
theorem it_mul (n : Nat) (s : S) (h : L.it n s = s) : ∀ k : Nat, L.it (k * n) s = s
  | 0 => by rw [Nat.zero_mul]; rfl
  | k + 1 => by rw [Nat.succ_mul, L.it_add, h, it_mul n s h k]
/-- the sum of the states behind j steps, for all terms x^j of m -/
def act (m : Nat) (s : S) : S := if m = 0 then L.z else L.x (if m % 2 = 1 then s else L.z) (act (m / 2) (L.st s))
termination_by m
decreasing_by omega
theorem act_zero (s : S) : L.act 0 s = L.z := by unfold act; rfl
theorem act_step (m : Nat) (s : S) : L.act m s = L.x (if m % 2 = 1 then s else L.z) (L.act (m / 2) (L.st s)) := by
  by_cases h : m = 0
  · subst h
    rw [act_zero, act_zero, if_neg (by decide), L.x_z]
  · conv => lhs; unfold act
    rw [if_neg h]
theorem act_one (s : S) : L.act 1 s = s := by rw [act_step, act_zero, if_pos rfl, L.x_z]
theorem act_x (m : Nat) : ∀ p q : S, L.act m (L.x p q) = L.x (L.act m p) (L.act m q) := by
  induction m using Nat.strongRecOn with
  | ind m ih =>
    intro p q
    by_cases h : m = 0
    · subst h; rw [act_zero, act_zero, act_zero, L.x_z]
    · rw [act_step, L.st_x, ih (m / 2) (by omega), act_step L m p, act_step L m q, x_four]
      congr 1
      by_cases h2 : m % 2 = 1
      · rw [if_pos h2, if_pos h2, if_pos h2]
      · rw [if_neg h2, if_neg h2, if_neg h2, L.x_z]
theorem act_z (m : Nat) : L.act m L.z = L.z := by
  have h := L.act_x m L.z L.z
  rw [L.x_self, L.x_self] at h
  exact h
theorem act_st (m : Nat) : ∀ s : S, L.act m (L.st s) = L.st (L.act m s) := by
  induction m using Nat.strongRecOn with
  | ind m ih =>
    intro s
    by_cases h : m = 0
    · subst h; rw [act_zero, act_zero, st_z]
    · rw [act_step, ih (m / 2) (by omega), act_step L m s, L.st_x]
      congr 1
      by_cases h2 : m % 2 = 1
      · rw [if_pos h2, if_pos h2]
      · rw [if_neg h2, if_neg h2, st_z]
theorem act_xor (a : Nat) : ∀ (b : Nat) (s : S), L.act (a ^^^ b) s = L.x (L.act a s) (L.act b s) := by
  induction a using Nat.strongRecOn with
  | ind a ih =>
    intro b s
    by_cases h : a = 0
    · subst h; rw [act_zero, Nat.zero_xor, z_x]
    · rw [act_step, xor_two, ih (a / 2) (by omega), act_step L a s, act_step L b s, x_four]
      congr 1
      rw [xor_odd]
      have h1 : a % 2 = 0 ∨ a % 2 = 1 := by omega
      have h2 : b % 2 = 0 ∨ b % 2 = 1 := by omega
      rcases h1 with h1 | h1 <;> rcases h2 with h2 | h2 <;> rw [h1, h2] <;> simp [L.x_z, L.z_x, L.x_self]
theorem act_two (m : Nat) (s : S) : L.act (2 * m) s = L.st (L.act m s) := by
  rw [act_step, if_neg (by omega), z_x, Nat.mul_div_cancel_left _ (by decide), act_st]
theorem act_mul (a : Nat) : ∀ (b : Nat) (s : S), L.act (mulG a b) s = L.act a (L.act b s) := by
  induction a using Nat.strongRecOn with
  | ind a ih =>
    intro b s
    by_cases h : a = 0
    · subst h; rw [mulG_zero, act_zero, act_zero]
    · rw [mulG_step, act_xor, act_two, ih (a / 2) (by omega), act_step L a, act_st]
      congr 1
      by_cases h2 : a % 2 = 1
      · rw [if_pos h2, if_pos h2]
      · rw [if_neg h2, if_neg h2, act_zero]
theorem act_pow : ∀ (n : Nat) (s : S), L.act (2 ^ n) s = L.it n s
  | 0, s => by rw [Nat.pow_zero, act_one]; rfl
  | n + 1, s => by rw [Nat.pow_succ, Nat.mul_comm, act_two, act_pow n, ← it_st]; rfl
theorem act_rm {P : Nat} (hP : P ≠ 0) (h : ∀ s, L.act P s = L.z) (m : Nat) (s : S) : L.act (rmG m P) s = L.act m s := by
  have h2 := congrArg (fun m => L.act m s) (dv_spec (a := m) hP).1
  simp only [act_xor, act_mul, h, act_z, z_x] at h2
  exact h2.symm
/-- the sum as a loop makes it -/
def byL {S : Type} (L : Lin S) : Nat → Nat → S → S → S
  | 0, _, _, acc => acc
  | f + 1, m, s, acc => byL L f (m / 2) (L.st s) (if m % 2 = 1 then L.x acc s else acc)
theorem byL_act : ∀ (f m : Nat) (s acc : S), m < 2 ^ f → L.byL f m s acc = L.x acc (L.act m s)
  | 0, m, s, acc, h => by
    have h0 : m = 0 := by rw [Nat.pow_zero] at h; omega
    subst h0
    show acc = _
    rw [act_zero, L.x_z]
  | f + 1, m, s, acc, h => by
    show L.byL f (m / 2) (L.st s) (if m % 2 = 1 then L.x acc s else acc) = _
    rw [byL_act f (m / 2) _ _ (by rw [Nat.pow_succ] at h; omega), act_step L m s]
    by_cases h2 : m % 2 = 1
    · rw [if_pos h2, if_pos h2, L.x_assoc]
    · rw [if_neg h2, if_neg h2, z_x]
end Lin
end Go.G2
end
section
/- Plain lemmas: the steps of the generators are linear, and their polynomials send every state to zero (by the kernel, on the states of one bit). -/
namespace Go.G2
set_option linter.unusedVariables false
theorem ofNat_xr (a b : Nat) : BitVec.ofNat 64 (a ^^^ b) = BitVec.ofNat 64 a ^^^ BitVec.ofNat 64 b := by
  apply BitVec.eq_of_getLsbD_eq
  intro i hi
  simp only [BitVec.getLsbD_xor, BitVec.getLsbD_ofNat, Nat.testBit_xor, hi, decide_true, Bool.true_and]
/-- what is zero on the words of one bit is zero on all words -/
theorem span64 {S : Type} (L : Lin S) (f : BitVec 64 → S) (hx : ∀ x y, f (x ^^^ y) = L.x (f x) (f y)) (h1 : ∀ i, i < 64 → f (BitVec.ofNat 64 (2 ^ i)) = L.z) (v : BitVec 64) : f v = L.z := by
  have h0 : f 0#64 = L.z := by
    have h := hx 0#64 0#64
    rw [L.x_self, BitVec.xor_self] at h
    exact h
  have key : ∀ k, k ≤ 64 → ∀ n, n < 2 ^ k → f (BitVec.ofNat 64 n) = L.z := by
    intro k
    induction k with
    | zero =>
      intro _ n hn
      rw [Nat.pow_zero] at hn
      rw [show n = 0 by omega]
      exact h0
    | succ k ih =>
      intro hk n hn
      by_cases hb : n.testBit k = true
      · have h2 : n ^^^ 2 ^ k < 2 ^ k := xor_top hn (by rw [Nat.pow_succ]; have := Nat.two_pow_pos k; omega) (by rw [hb, Nat.testBit_two_pow_self])
        have h3 : n = (n ^^^ 2 ^ k) ^^^ 2 ^ k := by rw [Nat.xor_assoc, Nat.xor_self, Nat.xor_zero]
        rw [h3, ofNat_xr, hx, ih (by omega) _ h2, h1 k (by omega), L.x_self]
      · exact ih (by omega) n (lt_less hn (by simpa using hb))
  have h := key 64 (by omega) v.toNat v.isLt
  rw [BitVec.ofNat_toNat, BitVec.setWidth_eq] at h
  exact h
theorem rot_xr (x y : BitVec 64) (k : Nat) (hk : k < 64) : (x ^^^ y).rotateLeft k = x.rotateLeft k ^^^ y.rotateLeft k := by
  apply BitVec.eq_of_getLsbD_eq
  intro i hi
  rw [BitVec.getLsbD_xor, BitVec.getLsbD_rotateLeft_of_le hk, BitVec.getLsbD_rotateLeft_of_le hk, BitVec.getLsbD_rotateLeft_of_le hk, BitVec.getLsbD_xor, BitVec.getLsbD_xor]
  cases decide (i < k) <;> cases decide (i < 64) <;> simp
theorem rot_nat (x : BitVec 64) (k : Nat) (hk : k < 64) : (x.rotateLeft k).toNat = (x.toNat <<< k) % 18446744073709551616 ||| x.toNat >>> (64 - k) := by
  rw [BitVec.toNat_rotateLeft, Nat.mod_eq_of_lt hk]
theorem shl_nat (x : BitVec 64) (k : Nat) : (x <<< k).toNat = (x.toNat <<< k) % 18446744073709551616 := BitVec.toNat_shiftLeft
/-- a state of four words -/
structure V4 where
  a : BitVec 64
  b : BitVec 64
  c : BitVec 64
  d : BitVec 64
/-- a state of two words -/
structure V2 where
  a : BitVec 64
  b : BitVec 64
def stV4 (q : V4) : V4 := ⟨q.a ^^^ (q.d ^^^ q.b), q.b ^^^ (q.c ^^^ q.a), (q.c ^^^ q.a) ^^^ q.b <<< 17, (q.d ^^^ q.b).rotateLeft 45⟩
def xV4 (p q : V4) : V4 := ⟨p.a ^^^ q.a, p.b ^^^ q.b, p.c ^^^ q.c, p.d ^^^ q.d⟩
def stV2 (A B C : Nat) (q : V2) : V2 := ⟨(q.a.rotateLeft A ^^^ (q.a ^^^ q.b)) ^^^ (q.a ^^^ q.b) <<< B, (q.a ^^^ q.b).rotateLeft C⟩
def xV2 (p q : V2) : V2 := ⟨p.a ^^^ q.a, p.b ^^^ q.b⟩
theorem stV4_x (p q : V4) : stV4 (xV4 p q) = xV4 (stV4 p) (stV4 q) := by
  obtain ⟨s0, s1, s2, s3⟩ := p
  obtain ⟨t0, t1, t2, t3⟩ := q
  simp only [stV4, xV4, V4.mk.injEq]
  refine ⟨by grind, by grind, ?_, ?_⟩
  · rw [BitVec.shiftLeft_xor_distrib]
    generalize s1 <<< 17 = u
    generalize t1 <<< 17 = v
    grind
  · rw [← rot_xr _ _ 45 (by omega)]
    congr 1
    grind
theorem stV2_x (A B C : Nat) (hA : A < 64) (hC : C < 64) (p q : V2) : stV2 A B C (xV2 p q) = xV2 (stV2 A B C p) (stV2 A B C q) := by
  obtain ⟨s0, s1⟩ := p
  obtain ⟨t0, t1⟩ := q
  simp only [stV2, xV2, V2.mk.injEq]
  have hr : (s0 ^^^ t0) ^^^ (s1 ^^^ t1) = (s0 ^^^ s1) ^^^ (t0 ^^^ t1) := by grind
  refine ⟨?_, ?_⟩
  · rw [hr, rot_xr _ _ A hA, BitVec.shiftLeft_xor_distrib]
    generalize (s0 ^^^ s1) <<< B = u
    generalize (t0 ^^^ t1) <<< B = v
    generalize s0.rotateLeft A = u2
    generalize t0.rotateLeft A = v2
    grind
  · rw [hr, rot_xr _ _ C hC]
def LV4 : Lin V4 where
  x := xV4
  z := ⟨0#64, 0#64, 0#64, 0#64⟩
  st := stV4
  x_comm := fun p q => by simp only [xV4, V4.mk.injEq]; exact ⟨BitVec.xor_comm _ _, BitVec.xor_comm _ _, BitVec.xor_comm _ _, BitVec.xor_comm _ _⟩
  x_assoc := fun p q r => by simp only [xV4, BitVec.xor_assoc]
  x_self := fun p => by simp only [xV4, BitVec.xor_self]
  x_z := fun p => by simp only [xV4, BitVec.xor_zero]
  st_x := stV4_x
def LV2 (A B C : Nat) (hA : A < 64) (hC : C < 64) : Lin V2 where
  x := xV2
  z := ⟨0#64, 0#64⟩
  st := stV2 A B C
  x_comm := fun p q => by simp only [xV2, V2.mk.injEq]; exact ⟨BitVec.xor_comm _ _, BitVec.xor_comm _ _⟩
  x_assoc := fun p q r => by simp only [xV2, BitVec.xor_assoc]
  x_self := fun p => by simp only [xV2, BitVec.xor_self]
  x_z := fun p => by simp only [xV2, BitVec.xor_zero]
  st_x := stV2_x A B C hA hC
/-- states as numbers, for the kernel -/
structure N4 where
  a : Nat
  b : Nat
  c : Nat
  d : Nat
deriving DecidableEq
structure N2 where
  a : Nat
  b : Nat
deriving DecidableEq
def stN4 (q : N4) : N4 := ⟨q.a ^^^ (q.d ^^^ q.b), q.b ^^^ (q.c ^^^ q.a), (q.c ^^^ q.a) ^^^ (q.b <<< 17) % 18446744073709551616, ((q.d ^^^ q.b) <<< 45) % 18446744073709551616 ||| (q.d ^^^ q.b) >>> 19⟩
def xN4 (p q : N4) : N4 := ⟨p.a ^^^ q.a, p.b ^^^ q.b, p.c ^^^ q.c, p.d ^^^ q.d⟩
def stN2 (A B C : Nat) (q : N2) : N2 := ⟨(((q.a <<< A) % 18446744073709551616 ||| q.a >>> (64 - A)) ^^^ (q.a ^^^ q.b)) ^^^ ((q.a ^^^ q.b) <<< B) % 18446744073709551616, ((q.a ^^^ q.b) <<< C) % 18446744073709551616 ||| (q.a ^^^ q.b) >>> (64 - C)⟩
def xN2 (p q : N2) : N2 := ⟨p.a ^^^ q.a, p.b ^^^ q.b⟩
def toN4 (q : V4) : N4 := ⟨q.a.toNat, q.b.toNat, q.c.toNat, q.d.toNat⟩
def toN2 (q : V2) : N2 := ⟨q.a.toNat, q.b.toNat⟩
theorem toN4_st (q : V4) : toN4 (stV4 q) = stN4 (toN4 q) := by
  simp only [toN4, stV4, stN4, BitVec.toNat_xor, shl_nat, rot_nat _ 45 (by omega)]
theorem toN2_st (A B C : Nat) (hA : A < 64) (hC : C < 64) (q : V2) : toN2 (stV2 A B C q) = stN2 A B C (toN2 q) := by
  simp only [toN2, stV2, stN2, BitVec.toNat_xor, shl_nat, rot_nat _ A hA, rot_nat _ C hC]
theorem toN4_x (p q : V4) : toN4 (xV4 p q) = xN4 (toN4 p) (toN4 q) := by
  simp only [toN4, xV4, xN4, BitVec.toNat_xor]
theorem toN2_x (p q : V2) : toN2 (xV2 p q) = xN2 (toN2 p) (toN2 q) := by
  simp only [toN2, xV2, xN2, BitVec.toNat_xor]
theorem toN4_inj {p q : V4} (h : toN4 p = toN4 q) : p = q := by
  obtain ⟨a, b, c, d⟩ := p
  obtain ⟨a', b', c', d'⟩ := q
  simp only [toN4, N4.mk.injEq, BitVec.toNat_inj] at h
  obtain ⟨rfl, rfl, rfl, rfl⟩ := h
  rfl
theorem toN2_inj {p q : V2} (h : toN2 p = toN2 q) : p = q := by
  obtain ⟨a, b⟩ := p
  obtain ⟨a', b'⟩ := q
  simp only [toN2, N2.mk.injEq, BitVec.toNat_inj] at h
  obtain ⟨rfl, rfl⟩ := h
  rfl
def byN4 : Nat → Nat → N4 → N4 → N4
  | 0, _, _, acc => acc
  | f + 1, m, s, acc => byN4 f (m / 2) (stN4 s) (if m % 2 = 1 then xN4 acc s else acc)
def byN2 (A B C : Nat) : Nat → Nat → N2 → N2 → N2
  | 0, _, _, acc => acc
  | f + 1, m, s, acc => byN2 A B C f (m / 2) (stN2 A B C s) (if m % 2 = 1 then xN2 acc s else acc)
theorem byN4_is : ∀ (f m : Nat) (s acc : V4), toN4 (LV4.byL f m s acc) = byN4 f m (toN4 s) (toN4 acc)
  | 0, m, s, acc => rfl
  | f + 1, m, s, acc => by
    show toN4 (LV4.byL f (m / 2) (stV4 s) (if m % 2 = 1 then xV4 acc s else acc)) = byN4 f (m / 2) (stN4 (toN4 s)) (if m % 2 = 1 then xN4 (toN4 acc) (toN4 s) else toN4 acc)
    rw [byN4_is f, toN4_st]
    by_cases h : m % 2 = 1
    · rw [if_pos h, if_pos h, toN4_x]
    · rw [if_neg h, if_neg h]
theorem byN2_is (A B C : Nat) (hA : A < 64) (hC : C < 64) : ∀ (f m : Nat) (s acc : V2), toN2 ((LV2 A B C hA hC).byL f m s acc) = byN2 A B C f m (toN2 s) (toN2 acc)
  | 0, m, s, acc => rfl
  | f + 1, m, s, acc => by
    show toN2 ((LV2 A B C hA hC).byL f (m / 2) (stV2 A B C s) (if m % 2 = 1 then xV2 acc s else acc)) = byN2 A B C f (m / 2) (stN2 A B C (toN2 s)) (if m % 2 = 1 then xN2 (toN2 acc) (toN2 s) else toN2 acc)
    rw [byN2_is A B C hA hC f, toN2_st A B C hA hC]
    by_cases h : m % 2 = 1
    · rw [if_pos h, if_pos h, toN2_x]
    · rw [if_neg h, if_neg h]
theorem act4_n (f m : Nat) (s : V4) (hm : m < 2 ^ f) : toN4 (LV4.act m s) = byN4 f m (toN4 s) ⟨0, 0, 0, 0⟩ := by
  have h := byN4_is f m s LV4.z
  rw [LV4.byL_act f m s _ hm, LV4.z_x] at h
  exact h
theorem act2_n (A B C : Nat) (hA : A < 64) (hC : C < 64) (f m : Nat) (s : V2) (hm : m < 2 ^ f) : toN2 ((LV2 A B C hA hC).act m s) = byN2 A B C f m (toN2 s) ⟨0, 0⟩ := by
  have h := byN2_is A B C hA hC f m s (LV2 A B C hA hC).z
  rw [(LV2 A B C hA hC).byL_act f m s _ hm, (LV2 A B C hA hC).z_x] at h
  exact h
theorem kill4_of {P f : Nat} (hP : P < 2 ^ f) (h : (List.range 64).all (fun i => (decide (byN4 f P ⟨2 ^ i, 0, 0, 0⟩ ⟨0, 0, 0, 0⟩ = ⟨0, 0, 0, 0⟩) && decide (byN4 f P ⟨0, 2 ^ i, 0, 0⟩ ⟨0, 0, 0, 0⟩ = ⟨0, 0, 0, 0⟩)) && (decide (byN4 f P ⟨0, 0, 2 ^ i, 0⟩ ⟨0, 0, 0, 0⟩ = ⟨0, 0, 0, 0⟩) && decide (byN4 f P ⟨0, 0, 0, 2 ^ i⟩ ⟨0, 0, 0, 0⟩ = ⟨0, 0, 0, 0⟩))) = true) (s : V4) : LV4.act P s = LV4.z := by
  simp only [List.all_eq_true, List.mem_range, Bool.and_eq_true, decide_eq_true_eq] at h
  have hn : ∀ i, i < 64 → (BitVec.ofNat 64 (2 ^ i)).toNat = 2 ^ i := by
    intro i hi
    rw [BitVec.toNat_ofNat]
    exact Nat.mod_eq_of_lt (Nat.pow_lt_pow_right (by decide) hi)
  have hz : ∀ i, i < 64 → LV4.act P ⟨BitVec.ofNat 64 (2 ^ i), 0#64, 0#64, 0#64⟩ = LV4.z ∧ LV4.act P ⟨0#64, BitVec.ofNat 64 (2 ^ i), 0#64, 0#64⟩ = LV4.z ∧ LV4.act P ⟨0#64, 0#64, BitVec.ofNat 64 (2 ^ i), 0#64⟩ = LV4.z ∧ LV4.act P ⟨0#64, 0#64, 0#64, BitVec.ofNat 64 (2 ^ i)⟩ = LV4.z := by
    intro i hi
    have h2 := h i hi
    have hni := hn i hi
    refine ⟨toN4_inj ?_, toN4_inj ?_, toN4_inj ?_, toN4_inj ?_⟩
    · rw [act4_n f P _ hP]; show byN4 f P ⟨(BitVec.ofNat 64 (2 ^ i)).toNat, 0, 0, 0⟩ _ = _; rw [hni, h2.1.1]; rfl
    · rw [act4_n f P _ hP]; show byN4 f P ⟨0, (BitVec.ofNat 64 (2 ^ i)).toNat, 0, 0⟩ _ = _; rw [hni, h2.1.2]; rfl
    · rw [act4_n f P _ hP]; show byN4 f P ⟨0, 0, (BitVec.ofNat 64 (2 ^ i)).toNat, 0⟩ _ = _; rw [hni, h2.2.1]; rfl
    · rw [act4_n f P _ hP]; show byN4 f P ⟨0, 0, 0, (BitVec.ofNat 64 (2 ^ i)).toNat⟩ _ = _; rw [hni, h2.2.2]; rfl
  obtain ⟨a, b, c, d⟩ := s
  have ha := span64 LV4 (fun x => LV4.act P ⟨x, 0#64, 0#64, 0#64⟩) (fun x y => by rw [← LV4.act_x]; refine congrArg _ ?_; show _ = xV4 _ _; simp [xV4]) (fun i hi => (hz i hi).1) a
  have hb := span64 LV4 (fun x => LV4.act P ⟨0#64, x, 0#64, 0#64⟩) (fun x y => by rw [← LV4.act_x]; refine congrArg _ ?_; show _ = xV4 _ _; simp [xV4]) (fun i hi => (hz i hi).2.1) b
  have hc := span64 LV4 (fun x => LV4.act P ⟨0#64, 0#64, x, 0#64⟩) (fun x y => by rw [← LV4.act_x]; refine congrArg _ ?_; show _ = xV4 _ _; simp [xV4]) (fun i hi => (hz i hi).2.2.1) c
  have hd := span64 LV4 (fun x => LV4.act P ⟨0#64, 0#64, 0#64, x⟩) (fun x y => by rw [← LV4.act_x]; refine congrArg _ ?_; show _ = xV4 _ _; simp [xV4]) (fun i hi => (hz i hi).2.2.2) d
  have hs : (⟨a, b, c, d⟩ : V4) = LV4.x (LV4.x ⟨a, 0#64, 0#64, 0#64⟩ ⟨0#64, b, 0#64, 0#64⟩) (LV4.x ⟨0#64, 0#64, c, 0#64⟩ ⟨0#64, 0#64, 0#64, d⟩) := by
    show _ = xV4 (xV4 _ _) (xV4 _ _)
    simp [xV4]
  rw [hs, LV4.act_x, LV4.act_x, LV4.act_x, ha, hb, hc, hd, LV4.x_self]
theorem kill2_of (A B C : Nat) (hA : A < 64) (hC : C < 64) {P f : Nat} (hP : P < 2 ^ f) (h : (List.range 64).all (fun i => decide (byN2 A B C f P ⟨2 ^ i, 0⟩ ⟨0, 0⟩ = ⟨0, 0⟩) && decide (byN2 A B C f P ⟨0, 2 ^ i⟩ ⟨0, 0⟩ = ⟨0, 0⟩)) = true) (s : V2) : (LV2 A B C hA hC).act P s = (LV2 A B C hA hC).z := by
  simp only [List.all_eq_true, List.mem_range, Bool.and_eq_true, decide_eq_true_eq] at h
  have hn : ∀ i, i < 64 → (BitVec.ofNat 64 (2 ^ i)).toNat = 2 ^ i := by
    intro i hi
    rw [BitVec.toNat_ofNat]
    exact Nat.mod_eq_of_lt (Nat.pow_lt_pow_right (by decide) hi)
  have hz : ∀ i, i < 64 → (LV2 A B C hA hC).act P ⟨BitVec.ofNat 64 (2 ^ i), 0#64⟩ = (LV2 A B C hA hC).z ∧ (LV2 A B C hA hC).act P ⟨0#64, BitVec.ofNat 64 (2 ^ i)⟩ = (LV2 A B C hA hC).z := by
    intro i hi
    have h2 := h i hi
    have hni := hn i hi
    refine ⟨toN2_inj ?_, toN2_inj ?_⟩
    · rw [act2_n A B C hA hC f P _ hP]; show byN2 A B C f P ⟨(BitVec.ofNat 64 (2 ^ i)).toNat, 0⟩ _ = _; rw [hni, h2.1]; rfl
    · rw [act2_n A B C hA hC f P _ hP]; show byN2 A B C f P ⟨0, (BitVec.ofNat 64 (2 ^ i)).toNat⟩ _ = _; rw [hni, h2.2]; rfl
  obtain ⟨a, b⟩ := s
  have ha := span64 (LV2 A B C hA hC) (fun x => (LV2 A B C hA hC).act P ⟨x, 0#64⟩) (fun x y => by rw [← (LV2 A B C hA hC).act_x]; refine congrArg _ ?_; show _ = xV2 _ _; simp [xV2]) (fun i hi => (hz i hi).1) a
  have hb := span64 (LV2 A B C hA hC) (fun x => (LV2 A B C hA hC).act P ⟨0#64, x⟩) (fun x y => by rw [← (LV2 A B C hA hC).act_x]; refine congrArg _ ?_; show _ = xV2 _ _; simp [xV2]) (fun i hi => (hz i hi).2) b
  have hs : (⟨a, b⟩ : V2) = (LV2 A B C hA hC).x ⟨a, 0#64⟩ ⟨0#64, b⟩ := by
    show _ = xV2 _ _
    simp [xV2]
  rw [hs, (LV2 A B C hA hC).act_x, ha, hb, (LV2 A B C hA hC).x_self]
/-- the polynomials of xoshiro256 and of both xoroshiro128 -/
def pol4 : Nat := 115798716538066420455068828734077908777090750648323562404903972173143537152001
def polS : Nat := 340326553284594226574365246790349529089
def polP : Nat := 340540621810083540934483770044175134849
set_option maxRecDepth 100000 in
theorem kill4 (s : V4) : LV4.act pol4 s = LV4.z := kill4_of (f := 257) (by decide +kernel) (by decide +kernel) s
set_option maxRecDepth 100000 in
theorem killS (s : V2) : (LV2 24 16 37 (by decide) (by decide)).act polS s = (LV2 24 16 37 (by decide) (by decide)).z := kill2_of _ _ _ _ _ (f := 129) (by decide +kernel) (by decide +kernel) s
set_option maxRecDepth 100000 in
theorem killP (s : V2) : (LV2 49 21 28 (by decide) (by decide)).act polP s = (LV2 49 21 28 (by decide) (by decide)).z := kill2_of _ _ _ _ _ (f := 129) (by decide +kernel) (by decide +kernel) s
end Go.G2
end
