import Derived.Test.YtebcfbcfipmahaaGreatYPolE
import Derived.Test.YtebcfbcfipmahaaGreatYPolW
section
/- Plain lemmas on numbers: a number whose powers reach all residues but 0; hence the power of each residue but 0 to the prime less 1 is 1. No program in sight. -/
namespace Go.Fer
/-- a power modulo p, in few steps -/
def powm (p : Nat) : Nat → Nat → Nat → Nat
  | 0, _, _ => 1 % p
  | f + 1, a, e => if e = 0 then 1 % p else if e % 2 = 1 then a * powm p f (a * a % p) (e / 2) % p else powm p f (a * a % p) (e / 2)
theorem pow_mod_base (a e p : Nat) : (a % p) ^ e % p = a ^ e % p := (Nat.pow_mod a e p).symm
theorem powm_eq (p : Nat) : ∀ f a e, e < 2 ^ f → powm p f a e = a ^ e % p := by
  intro f
  induction f with
  | zero => intro a e h; have : e = 0 := by omega
            subst this; simp [powm]
  | succ f ih =>
    intro a e h
    unfold powm
    by_cases h0 : e = 0
    · subst h0; simp
    · rw [if_neg h0, ih _ _ (by rw [Nat.pow_succ] at h; omega), pow_mod_base]
      have e2 : (a * a) ^ (e / 2) = a ^ (2 * (e / 2)) := by rw [Nat.pow_mul, Nat.pow_two]
      rw [e2]
      split
      · rename_i h1
        rw [Nat.mul_mod, Nat.mod_mod, ← Nat.mul_mod, ← Nat.pow_succ']
        congr 2; omega
      · congr 2; omega
/-- q is a prime, as far as it is needed: whatever divides it is 1 or it -/
def Pr (q : Nat) : Prop := ∀ d, d ∣ q → d = 1 ∨ d = q
/-- no number from d on, with f of them, divides q -/
def noDiv (q : Nat) : Nat → Nat → Bool
  | 0, _ => true
  | f + 1, d => (q % d != 0) && noDiv q f (d + 1)
theorem noDiv_out (q : Nat) : ∀ f d, noDiv q f d = true → ∀ x, d ≤ x → x < d + f → ¬ x ∣ q := by
  intro f
  induction f with
  | zero => intro d _ x h1 h2; omega
  | succ f ih =>
    intro d h x h1 h2
    simp only [noDiv, Bool.and_eq_true, bne_iff_ne, ne_eq] at h
    rcases Nat.lt_or_ge d x with h3 | h3
    · exact ih (d + 1) h.2 x h3 (by omega)
    · have : x = d := by omega
      subst this
      exact fun hd => h.1 (Nat.mod_eq_zero_of_dvd hd)
theorem pr_of (q r : Nat) (h1 : q ≤ r * r + 2 * r) (hq : 1 < q) (h : noDiv q (r - 1) 2 = true) : Pr q := by
  intro d hd
  obtain ⟨e, he⟩ := hd
  have hno := noDiv_out q (r - 1) 2 h
  rcases Nat.lt_or_ge 1 d with h2 | h2
  · rcases Nat.lt_or_ge 1 e with h3 | h3
    · exfalso
      by_cases hdr : d ≤ r
      · exact hno d (by omega) (by omega) ⟨e, he⟩
      · by_cases her : e ≤ r
        · exact hno e (by omega) (by omega) ⟨d, by rw [he, Nat.mul_comm]⟩
        · have : (r + 1) * (r + 1) ≤ d * e := Nat.mul_le_mul (by omega) (by omega)
          rw [← he] at this
          have e3 : (r + 1) * (r + 1) = r * r + 2 * r + 1 := by rw [Nat.add_mul, Nat.mul_add]; omega
          omega
    · right
      have : e = 1 := by
        rcases Nat.eq_zero_or_pos e with h4 | h4
        · subst h4; omega
        · omega
      subst this; omega
  · left
    rcases Nat.eq_zero_or_pos d with h4 | h4
    · subst h4; omega
    · omega
/-- the product of a list -/
def prod : List Nat → Nat
  | [] => 1
  | q :: l => q * prod l
theorem factor_in : ∀ (l : List Nat), (∀ q ∈ l, Pr q) → ∀ m, 1 < m → m ∣ prod l → ∃ q ∈ l, q ∣ m := by
  intro l
  induction l with
  | nil => intro _ m h1 h2; exact absurd (Nat.le_of_dvd (by decide) h2) (by simp [prod]; omega)
  | cons q l ih =>
    intro hp m h1 h2
    rcases hp q (List.mem_cons_self ..) (Nat.gcd m q) (Nat.gcd_dvd_right m q) with h | h
    · obtain ⟨r, hr, hd⟩ := ih (fun x hx => hp x (List.mem_cons_of_mem _ hx)) m h1 (Nat.Coprime.dvd_of_dvd_mul_left (show Nat.Coprime m q from h) h2)
      exact ⟨r, List.mem_cons_of_mem _ hr, hd⟩
    · exact ⟨q, List.mem_cons_self .., by rw [← h]; exact Nat.gcd_dvd_left m q⟩
/-- one for one into as many is onto -/
theorem onto : ∀ (n : Nat) (f : Nat → Nat), (∀ i, i < n → f i < n) → (∀ i j, i < n → j < n → f i = f j → i = j) → ∀ y, y < n → ∃ i, i < n ∧ f i = y := by
  intro n
  induction n with
  | zero => intro f _ _ y h; omega
  | succ n ih =>
    intro f hlt hinj y hy
    by_cases hn : ∃ k, k < n + 1 ∧ f k = n
    · obtain ⟨k, hk, hfk⟩ := hn
      by_cases hyn : y = n
      · exact ⟨k, hk, by rw [hfk, hyn]⟩
      · -- leave k out: g i = f i, but at k it is f n
        have key := ih (fun i => if i = k then f n else f i) (by
            intro i hi
            show (if i = k then f n else f i) < n
            split
            · rename_i e
              have := hlt n (by omega)
              have hne : f n ≠ n := by
                intro h2
                have := hinj n k (by omega) hk (by rw [h2, hfk])
                omega
              omega
            · rename_i e
              have := hlt i (by omega)
              have hne : f i ≠ n := by
                intro h2
                exact e (hinj i k (by omega) hk (by rw [h2, hfk]))
              omega) (by
            intro i j hi hj h2
            try simp only at h2
            split at h2 <;> split at h2
            · omega
            · rename_i e1 e2
              have := hinj n j (by omega) (by omega) h2
              omega
            · rename_i e1 e2
              have := hinj i n (by omega) (by omega) h2
              omega
            · exact hinj i j (by omega) (by omega) h2) y (by omega)
        obtain ⟨i, hi, h3⟩ := key
        try simp only at h3
        split at h3
        · exact ⟨n, by omega, h3⟩
        · exact ⟨i, by omega, h3⟩
    · exfalso
      have hlt2 : ∀ i, i < n + 1 → f i < n := by
        intro i hi
        have := hlt i hi
        have : f i ≠ n := fun h => hn ⟨i, hi, h⟩
        omega
      rcases Nat.eq_zero_or_pos n with h0 | h0
      · subst h0; have := hlt2 0 (by omega); omega
      · obtain ⟨i, hi, h3⟩ := ih f (fun i hi => hlt2 i (by omega)) (fun i j hi hj h => hinj i j (by omega) (by omega) h) (f n) (hlt2 n (by omega))
        have := hinj i n (by omega) (by omega) h3
        omega
theorem one_mod {p : Nat} (hp : 1 < p) : 1 % p = 1 := Nat.mod_eq_of_lt hp
/-- the least number of steps behind which the powers of g are 1 again divides each such number -/
theorem order_dvd {p g : Nat} (hp : 1 < p) (d : Nat) (hd0 : 0 < d) (hd : g ^ d % p = 1) (hmin : ∀ k, 0 < k → k < d → g ^ k % p ≠ 1) (n : Nat) (hn : g ^ n % p = 1) : d ∣ n := by
  apply Nat.dvd_of_mod_eq_zero
  by_cases h0 : n % d = 0
  · exact h0
  · exfalso
    apply hmin (n % d) (by omega) (Nat.mod_lt _ hd0)
    have e : n = d * (n / d) + n % d := (Nat.div_add_mod n d).symm
    rw [e, Nat.pow_add, Nat.mul_mod, Nat.pow_mul, Nat.pow_mod, hd, Nat.one_pow, one_mod hp, Nat.one_mul, Nat.mod_mod] at hn
    exact hn
/-- the numbers that make p a prime's field: g's powers are 1 behind p - 1 steps, and not behind any (p - 1) / q -/
structure Gen (p g : Nat) (l : List Nat) : Prop where
  big : 1 < p
  prod : prod l = p - 1
  prs : ∀ q ∈ l, Pr q
  one : g ^ (p - 1) % p = 1
  not : ∀ q ∈ l, g ^ ((p - 1) / q) % p ≠ 1
theorem Gen.order {p g : Nat} {l : List Nat} (h : Gen p g l) : ∀ k, 0 < k → k < p - 1 → g ^ k % p ≠ 1 := by
  -- the least one
  have hex : ∃ d, 0 < d ∧ d ≤ p - 1 ∧ g ^ d % p = 1 ∧ ∀ k, 0 < k → k < d → g ^ k % p ≠ 1 := by
    have hall : ∀ n, (∃ d, 0 < d ∧ d ≤ n ∧ g ^ d % p = 1 ∧ ∀ k, 0 < k → k < d → g ^ k % p ≠ 1) ∨ ∀ k, 0 < k → k ≤ n → g ^ k % p ≠ 1 := by
      intro n
      induction n with
      | zero => exact Or.inr (fun k h1 h2 => by omega)
      | succ n ih =>
        rcases ih with ⟨d, h1, h2, h3⟩ | ih
        · exact Or.inl ⟨d, h1, by omega, h3⟩
        · by_cases h4 : g ^ (n + 1) % p = 1
          · exact Or.inl ⟨n + 1, by omega, Nat.le_refl _, h4, fun k h5 h6 => ih k h5 (by omega)⟩
          · refine Or.inr (fun k h5 h6 => ?_)
            rcases Nat.lt_or_ge k (n + 1) with h7 | h7
            · exact ih k h5 (by omega)
            · have : k = n + 1 := by omega
              rw [this]; exact h4
    rcases hall (p - 1) with h1 | h1
    · exact h1
    · exact absurd h.one (h1 (p - 1) (by have := h.big; omega) (Nat.le_refl _))
  obtain ⟨d, hd0, hdp, hd1, hmin⟩ := hex
  have hdv := order_dvd h.big d hd0 hd1 hmin (p - 1) h.one
  obtain ⟨m, hm⟩ := hdv
  have hp1 : 0 < p - 1 := by have := h.big; omega
  have hm0 : 0 < m := by
    rcases Nat.eq_zero_or_pos m with h0 | h0
    · subst h0; omega
    · exact h0
  have hm1 : m = 1 := by
    rcases Nat.lt_or_ge 1 m with h2 | h2
    · exfalso
      obtain ⟨q, hq, r, hr⟩ := factor_in l h.prs m h2 (by rw [h.prod, hm]; exact Nat.dvd_mul_left m d)
      have hq0 : 0 < q := by
        rcases Nat.eq_zero_or_pos q with h0 | h0
        · subst h0; omega
        · exact h0
      apply h.not q hq
      have e : (p - 1) / q = d * r := by
        rw [hm, hr, show d * (q * r) = q * (d * r) from by rw [← Nat.mul_assoc, Nat.mul_comm d q, Nat.mul_assoc]]
        exact Nat.mul_div_cancel_left _ hq0
      rw [e, Nat.pow_mul, Nat.pow_mod, hd1, Nat.one_pow, one_mod h.big]
    · omega
  subst hm1
  rw [Nat.mul_one] at hm
  rw [hm]
  exact hmin
theorem Gen.step {p g : Nat} {l : List Nat} (h : Gen p g l) (i : Nat) (hi : i ≤ p - 1) : (g ^ i * g ^ (p - 1 - i)) % p = 1 := by
  rw [← Nat.pow_add, show i + (p - 1 - i) = p - 1 by omega]; exact h.one
/-- each residue but 0 is a power of g -/
theorem Gen.reach {p g : Nat} {l : List Nat} (h : Gen p g l) (a : Nat) (ha : a % p ≠ 0) : ∃ i, i < p - 1 ∧ g ^ i % p = a % p := by
  have hb := h.big
  have hpos : ∀ i, i ≤ p - 1 → g ^ i % p ≠ 0 := by
    intro i hi h0
    have := h.step i hi
    rw [Nat.mul_mod, h0, Nat.zero_mul, Nat.zero_mod] at this
    omega
  obtain ⟨i, hi, he⟩ := onto (p - 1) (fun i => g ^ i % p - 1) (by
      intro i hi
      have := hpos i (by omega)
      have := Nat.mod_lt (g ^ i) (show 0 < p by omega)
      show g ^ i % p - 1 < p - 1
      omega) (by
      have key : ∀ i j, i < j → j < p - 1 → g ^ i % p = g ^ j % p → False := by
        intro i j hij hj he
        apply h.order (j - i) (by omega) (by omega)
        have e1 : (g ^ (p - 1 - i) * g ^ i) % p = 1 := by rw [Nat.mul_comm]; exact h.step i (by omega)
        have e2 : g ^ (p - 1 - i) * g ^ j = g ^ (p - 1) * g ^ (j - i) := by rw [← Nat.pow_add, ← Nat.pow_add]; congr 1; omega
        have e3 : (g ^ (p - 1 - i) * g ^ i) % p = (g ^ (p - 1 - i) * g ^ j) % p := by rw [Nat.mul_mod, he, ← Nat.mul_mod]
        rw [e2, Nat.mul_mod (g ^ (p - 1)), h.one, Nat.one_mul, Nat.mod_mod] at e3
        rw [← e3, e1]
      intro i j hi hj he
      have he2 : g ^ i % p = g ^ j % p := by
        have := hpos i (by omega)
        have := hpos j (by omega)
        try simp only at he
        omega
      rcases Nat.lt_trichotomy i j with h1 | h1 | h1
      · exact absurd (key i j h1 hj he2) id
      · exact h1
      · exact absurd (key j i h1 hi he2.symm) id) (a % p - 1) (by have := Nat.mod_lt a (show 0 < p by omega); omega)
  refine ⟨i, hi, ?_⟩
  have := hpos i (by omega)
  try simp only at he
  omega
/-- the power of each residue but 0 to the prime less 1 is 1 -/
theorem Gen.fermat {p g : Nat} {l : List Nat} (h : Gen p g l) (a : Nat) (ha : a % p ≠ 0) : a ^ (p - 1) % p = 1 := by
  obtain ⟨i, _, he⟩ := h.reach a ha
  rw [Nat.pow_mod, ← he, ← Nat.pow_mod, ← Nat.pow_mul, Nat.mul_comm, Nat.pow_mul, Nat.pow_mod, h.one, Nat.one_pow, one_mod h.big]
/-- products of what isn't 0 aren't 0 -/
theorem Gen.mul_ne {p g : Nat} {l : List Nat} (h : Gen p g l) (a b : Nat) (ha : a % p ≠ 0) (hb : b % p ≠ 0) : a * b % p ≠ 0 := by
  intro h0
  have e : (a * b) ^ (p - 1) % p = 1 := by rw [Nat.mul_pow, Nat.mul_mod, h.fermat a ha, h.fermat b hb, Nat.mul_one, one_mod h.big]
  rw [Nat.pow_mod, h0, Nat.zero_pow (by have := h.big; omega), Nat.zero_mod] at e
  omega
/-- a number's inverse as a power -/
theorem Gen.inv {p g : Nat} {l : List Nat} (h : Gen p g l) (hp : 2 < p) (a : Nat) (ha : a % p ≠ 0) : a * (a ^ (p - 2) % p) % p = 1 := by
  rw [Nat.mul_mod, Nat.mod_mod, ← Nat.mul_mod, ← Nat.pow_succ', show (p - 2).succ = p - 1 by omega]; exact h.fermat a ha
theorem gen_of (p g f : Nat) (l : List Nat) (hp : 1 < p) (hf : p - 1 < 2 ^ f) (h1 : prod l = p - 1) (h2 : ∀ q ∈ l, Pr q) (h3 : powm p f g (p - 1) = 1)
    (h4 : (l.all fun q => powm p f g ((p - 1) / q) != 1) = true) : Gen p g l where
  big := hp
  prod := h1
  prs := h2
  one := by rw [← powm_eq p f g (p - 1) hf]; exact h3
  not := by
    intro q hq
    have := List.all_eq_true.1 h4 q hq
    rw [powm_eq p f g _ (Nat.lt_of_le_of_lt (Nat.div_le_self _ _) hf)] at this
    simpa using this
theorem pr_small (q : Nat) (h : (decide (q ≤ (q - 2) * (q - 2) + 2 * (q - 2)) && decide (1 < q) && noDiv q (q - 2 - 1) 2) = true) : Pr q := by
  simp only [Bool.and_eq_true, decide_eq_true_eq] at h
  exact pr_of q (q - 2) h.1.1 h.1.2 h.2
theorem pr2 : Pr 2 := by
  intro d hd
  have := Nat.le_of_dvd (by decide) hd
  rcases hd with ⟨e, he⟩
  rcases Nat.eq_zero_or_pos d with h | h
  · subst h; omega
  · omega
theorem pr3 : Pr 3 := by
  intro d hd
  have := Nat.le_of_dvd (by decide) hd
  have h2 : ¬ (2 ∣ 3) := by decide
  rcases hd with ⟨e, he⟩
  rcases Nat.eq_zero_or_pos d with h | h
  · subst h; omega
  · by_cases h3 : d = 2
    · subst h3; exact absurd ⟨e, he⟩ h2
    · omega
theorem all_pr (l : List Nat) (h : (l.all fun q => q == 2 || q == 3 || (decide (q ≤ (q - 2) * (q - 2) + 2 * (q - 2)) && decide (1 < q) && noDiv q (q - 2 - 1) 2)) = true) : ∀ q ∈ l, Pr q := by
  intro q hq
  have := List.all_eq_true.1 h q hq
  simp only [Bool.or_eq_true, beq_iff_eq] at this
  rcases this with (h1 | h1) | h1
  · rw [h1]; exact pr2
  · rw [h1]; exact pr3
  · exact pr_small q h1
def P31 : Nat := 2147483647
def P61 : Nat := 2305843009213693951
def P89 : Nat := 618970019642690137449562111
theorem gen31 : Gen P31 7 [2, 3, 3, 7, 11, 31, 151, 331] :=
  gen_of _ _ 31 _ (by decide +kernel) (by decide +kernel) (by decide +kernel) (all_pr _ (by decide +kernel)) (by decide +kernel) (by decide +kernel)
theorem gen61 : Gen P61 37 [2, 3, 3, 5, 5, 7, 11, 13, 31, 41, 61, 151, 331, 1321] :=
  gen_of _ _ 61 _ (by decide +kernel) (by decide +kernel) (by decide +kernel) (all_pr _ (by decide +kernel)) (by decide +kernel) (by decide +kernel)
theorem big_pr : Pr 2931542417 := pr_of _ 54144 (by decide +kernel) (by decide +kernel) (by decide +kernel)
theorem gen89 : Gen P89 3 [2, 3, 5, 17, 23, 89, 353, 397, 683, 2113, 2931542417] :=
  gen_of _ _ 89 _ (by decide +kernel) (by decide +kernel) (by decide +kernel) (by
    intro q hq
    rcases (List.mem_append.1 (show q ∈ [2, 3, 5, 17, 23, 89, 353, 397, 683, 2113] ++ [2931542417] from hq)) with h | h
    · exact all_pr _ (by decide +kernel) q h
    · simp at h; rw [h]; exact big_pr) (by decide +kernel) (by decide +kernel)
end Go.Fer
end
section
/- Plain lemmas: the field of 2^61 - 1 elements; divided differences; polynomials by their values. -/
namespace Go.Bv
open Go Go.RowKit
set_option linter.unusedVariables false
abbrev FF := Fin 2305843009213693951
/-- a number as an element of the field -/
def ff (N : Nat) : FF := ⟨N % 2305843009213693951, Nat.mod_lt _ (by decide)⟩
def fw (x : BitVec 64) : FF := ff x.toNat
theorem ff_val (N : Nat) : (ff N).val = N % PP := rfl
theorem ff_iff {a b : Nat} : ff a = ff b ↔ a % PP = b % PP := ⟨fun h => congrArg Fin.val h, fun h => Fin.ext h⟩
theorem ff_add (a b : Nat) : ff (a + b) = ff a + ff b := by
  apply Fin.ext; rw [Fin.val_add]; show (a + b) % PP = (a % PP + b % PP) % PP; rw [← Nat.add_mod]
theorem ff_mul (a b : Nat) : ff (a * b) = ff a * ff b := by
  apply Fin.ext; rw [Fin.val_mul]; show (a * b) % PP = (a % PP * (b % PP)) % PP; rw [← Nat.mul_mod]
theorem ff_zero : ff 0 = 0 := rfl
theorem ff_one : ff 1 = 1 := rfl
theorem fw_mp (N : Nat) : fw (mp N) = ff N := by unfold fw; rw [ff_iff, mp_toNat, Nat.mod_mod]
theorem fw_zero : fw 0#64 = 0 := rfl
theorem fw_inj {x y : BitVec 64} (hx : x.toNat < PP) (hy : y.toNat < PP) (h : fw x = fw y) : x = y := by
  have := ff_iff.1 h
  rw [Nat.mod_eq_of_lt hx, Nat.mod_eq_of_lt hy] at this
  exact BitVec.eq_of_toNat_eq this
theorem mp_ff {a b : Nat} (h : ff a = ff b) : mp a = mp b := mp_congr (ff_iff.1 h)
theorem mp_lt (N : Nat) : (mp N).toNat < PP := by rw [mp_toNat]; exact Nat.mod_lt _ PP_pos
theorem ff_self (a : FF) : ff a.val = a := Fin.ext (Nat.mod_eq_of_lt a.isLt)
theorem nozero (a b : FF) (h : a * b = 0) : a = 0 ∨ b = 0 := by
  by_cases ha : a = 0
  · exact Or.inl ha
  · by_cases hb : b = 0
    · exact Or.inr hb
    · exfalso
      have h1 : a.val % Fer.P61 ≠ 0 := fun e => ha (Fin.ext ((Nat.mod_eq_of_lt a.isLt).symm.trans e))
      have h2 : b.val % Fer.P61 ≠ 0 := fun e => hb (Fin.ext ((Nat.mod_eq_of_lt b.isLt).symm.trans e))
      have h3 := congrArg Fin.val h
      rw [Fin.val_mul] at h3
      exact Fer.gen61.mul_ne a.val b.val h1 h2 h3
theorem cancel {a b u : FF} (hu : u ≠ 0) (h : a * u = b * u) : a = b := by
  have h1 : (a - b) * u = 0 := by grind
  rcases nozero _ _ h1 with h2 | h2
  · grind
  · exact absurd h2 hu
def eI : Nat := 2305843009213693949
/-- the inverse, as a power -/
def inv (a : FF) : FF := ff (a.val ^ eI)
theorem inv_mul {a : FF} (h : a ≠ 0) : a * inv a = 1 := by
  have h1 : a.val % Fer.P61 ≠ 0 := fun e => h (Fin.ext ((Nat.mod_eq_of_lt a.isLt).symm.trans e))
  have h2 := Fer.gen61.inv (by decide) a.val h1
  apply Fin.ext
  rw [Fin.val_mul]
  exact h2
/-- a difference of words, as the program takes it -/
def sb (a b : BitVec 64) : BitVec 64 := mp (a.toNat + (2305843009213693951#64 - mp b.toNat).toNat)
theorem fw_sb (a b : BitVec 64) : fw (sb a b) = fw a - fw b := by
  unfold sb
  rw [fw_mp, ff_add]
  have h1 : (2305843009213693951#64 - mp b.toNat).toNat = PP - b.toNat % PP := by
    have hmt := mp_toNat b.toNat
    have hml := Nat.mod_lt b.toNat PP_pos
    rw [BitVec.toNat_sub_of_le (by rw [BitVec.le_def, hmt]; show _ ≤ PP; omega), hmt]; rfl
  have h2 : ff (PP - b.toNat % PP) + fw b = 0 := by
    show ff (PP - b.toNat % PP) + ff b.toNat = 0
    rw [← ff_add]
    apply Fin.ext
    show (PP - b.toNat % PP + b.toNat) % PP = 0
    have h3 := Nat.div_add_mod b.toNat PP
    have h4 := Nat.mod_lt b.toNat PP_pos
    have h5 : PP - b.toNat % PP + b.toNat = PP * (b.toNat / PP) + PP := by omega
    rw [h5, Nat.mul_add_mod, Nat.mod_self]
  rw [h1]
  show fw a + ff (PP - b.toNat % PP) = fw a - fw b
  grind
/-- the inverse of a word, as the program takes it -/
def iv (a : BitVec 64) : BitVec 64 := if mp a.toNat = 0#64 then 0#64 else mp (a.toNat ^ eI)
theorem fw_iv {a : BitVec 64} (h : fw a ≠ 0) : fw (iv a) = inv (fw a) := by
  unfold iv
  rw [if_neg (fun e => h (by rw [← mp_zero] at e; exact ff_iff.2 (mp_iff.1 e)))]
  rw [fw_mp]
  unfold inv
  rw [ff_iff]
  show a.toNat ^ eI % PP = (a.toNat % PP) ^ eI % PP
  rw [← Nat.pow_mod]
/-- divided differences with the first a points from s on, and m -/
def gg (X Y : Nat → FF) (s : Nat) : Nat → Nat → FF
  | 0, m => Y m
  | a + 1, m => (gg X Y s a m - gg X Y s a (s + a)) * inv (X m - X (s + a))
theorem gg_mul {X Y : Nat → FF} {s a m : Nat} (h : X m - X (s + a) ≠ 0) : gg X Y s (a + 1) m * (X m - X (s + a)) = gg X Y s a m - gg X Y s a (s + a) := by
  show (gg X Y s a m - gg X Y s a (s + a)) * inv (X m - X (s + a)) * (X m - X (s + a)) = _
  have := inv_mul h
  generalize inv (X m - X (s + a)) = q at *
  generalize X m - X (s + a) = u at *
  grind
theorem shift_alg {A B C D E G H u v w : FF} (h0 : v = u + w) (h1 : A * v = C - E) (h2 : B * w = D - E) (h3 : G * u = A - B) (h4 : H * u = C - D) : (G * v) * u = (H - B) * u := by grind
theorem gg_shift {X Y : Nat → FF} {n : Nat} (hX : ∀ i j, i < n → j < n → i ≠ j → X i - X j ≠ 0) : ∀ a s m, s + a < m → m < n →
    gg X Y s (a + 1) m * (X m - X s) = gg X Y (s + 1) a m - gg X Y s a (s + a)
  | 0, s, m, h1, h2 => gg_mul (hX m (s + 0) h2 (by omega) (by omega))
  | a + 1, s, m, h1, h2 => by
    have hu : X m - X (s + (a + 1)) ≠ 0 := hX _ _ h2 (by omega) (by omega)
    have e1 := gg_shift (Y := Y) hX a s m (by omega) h2
    have e2 := gg_shift (Y := Y) hX a s (s + (a + 1)) (by omega) (by omega)
    have e3 := gg_mul (Y := Y) (s := s) (a := a + 1) (m := m) hu
    have e4 := gg_mul (Y := Y) (s := s + 1) (a := a) (m := m) (by rw [show s + 1 + a = s + (a + 1) by omega]; exact hu)
    rw [show s + 1 + a = s + (a + 1) by omega] at e4
    apply cancel hu
    generalize gg X Y s (a + 1 + 1) m = G at *
    generalize gg X Y (s + 1) (a + 1) m = H at *
    generalize gg X Y s (a + 1) m = A at *
    generalize gg X Y s (a + 1) (s + (a + 1)) = B at *
    generalize gg X Y (s + 1) a m = C at *
    generalize gg X Y (s + 1) a (s + (a + 1)) = D at *
    generalize gg X Y s a (s + a) = E at *
    have hv : X m - X s = (X m - X (s + (a + 1))) + (X (s + (a + 1)) - X s) := by
      generalize X m = p
      generalize X s = q
      generalize X (s + (a + 1)) = r
      grind
    generalize X m - X s = v at *
    generalize X m - X (s + (a + 1)) = u at *
    generalize X (s + (a + 1)) - X s = z at *
    clear hX h1 h2 hu
    exact shift_alg hv e1 e2 e3 e4
/-- the same as the program makes them: behind a steps, at t -/
def dd (X Y : Nat → FF) : Nat → Nat → FF
  | 0, t => Y t
  | a + 1, t => if t < a + 1 then dd X Y a t else (dd X Y a t - dd X Y a (t - 1)) * inv (X t - X (t - (a + 1)))
theorem dd_gg {X Y : Nat → FF} {n : Nat} (hX : ∀ i j, i < n → j < n → i ≠ j → X i - X j ≠ 0) : ∀ a s, s + a < n → dd X Y a (s + a) = gg X Y s a (s + a)
  | 0, s, _ => rfl
  | a + 1, s, h => by
    show (if s + (a + 1) < a + 1 then _ else _) = _
    rw [if_neg (by omega), show s + (a + 1) - 1 = s + a by omega, show s + (a + 1) - (a + 1) = s by omega]
    have e1 := dd_gg (Y := Y) hX a s (by omega)
    have e2 := dd_gg (Y := Y) hX a (s + 1) (by omega)
    rw [show s + 1 + a = s + (a + 1) by omega] at e2
    have e3 := gg_shift (Y := Y) hX a s (s + (a + 1)) (by omega) h
    have hu : X (s + (a + 1)) - X s ≠ 0 := hX _ _ h (by omega) (by omega)
    have e4 := inv_mul hu
    rw [e1, e2]
    generalize gg X Y s (a + 1) (s + (a + 1)) = G at *
    generalize gg X Y (s + 1) a (s + (a + 1)) = C at *
    generalize gg X Y s a (s + a) = E at *
    generalize inv (X (s + (a + 1)) - X s) = q at *
    generalize X (s + (a + 1)) - X s = u at *
    grind
theorem dd_stay (X Y : Nat → FF) (t : Nat) : ∀ d, dd X Y (t + d) t = dd X Y t t
  | 0 => rfl
  | d + 1 => by
    show (if t < t + d + 1 then dd X Y (t + d) t else _) = _
    rw [if_pos (by omega), dd_stay X Y t d]
/-- Newton's sum from i on, d of them, at z -/
def nw (X D : Nat → FF) (z : FF) : Nat → Nat → FF
  | 0, _ => 0
  | d + 1, i => nw X D z d (i + 1) * (z - X i) + D i
theorem nw_at {X Y : Nat → FF} {n : Nat} (hX : ∀ i j, i < n → j < n → i ≠ j → X i - X j ≠ 0) (m : Nat) (hm : m < n) : ∀ d i, i + d = m + 1 → i ≤ m →
    ∀ e, nw X (fun i => gg X Y 0 i i) (X m) (d + e) i = gg X Y 0 i m
  | 0, i, h1, h2, e => by omega
  | d + 1, i, h1, h2, e => by
    rw [show d + 1 + e = (d + e) + 1 by omega]
    show nw X _ (X m) (d + e) (i + 1) * (X m - X i) + gg X Y 0 i i = _
    by_cases h3 : i = m
    · subst h3
      have : X i - X i = 0 := by grind
      rw [this]
      grind
    · rw [nw_at hX m hm d (i + 1) (by omega) (by omega) e]
      have hu : X m - X (0 + i) ≠ 0 := by rw [Nat.zero_add]; exact hX _ _ hm (by omega) (fun e => h3 e.symm)
      have e1 := gg_mul (Y := Y) (s := 0) (a := i) (m := m) hu
      rw [Nat.zero_add] at e1
      generalize gg X Y 0 (i + 1) m = G at *
      generalize gg X Y 0 i m = A at *
      generalize gg X Y 0 i i = B at *
      grind
theorem nw_all {X Y : Nat → FF} {n : Nat} (hX : ∀ i j, i < n → j < n → i ≠ j → X i - X j ≠ 0) (m : Nat) (hm : m < n) :
    nw X (fun i => gg X Y 0 i i) (X m) n 0 = Y m := by
  have h := nw_at (Y := Y) hX m hm (m + 1) 0 (by omega) (by omega) (n - (m + 1))
  rw [show m + 1 + (n - (m + 1)) = n by omega] at h
  exact h
/-- powers and sums of powers in the field -/
def pwF (z : FF) : Nat → FF
  | 0 => 1
  | n + 1 => pwF z n * z
def pvF (f : Nat → FF) (z : FF) : Nat → FF
  | 0 => 0
  | n + 1 => pvF f z n + f n * pwF z n
theorem pwF_pow (x : Nat) : ∀ n, ff (x ^ n) = pwF (ff x) n
  | 0 => by rw [Nat.pow_zero]; rfl
  | n + 1 => by rw [Nat.pow_succ, ff_mul, pwF_pow x n]; rfl
theorem pvF_pv (f : Nat → Nat) (x : Nat) : ∀ n, ff (pv f x n) = pvF (fun i => ff (f i)) (ff x) n
  | 0 => rfl
  | n + 1 => by
    show ff (pv f x n + f n * x ^ n) = _
    rw [ff_add, ff_mul, pvF_pv f x n, pwF_pow]; rfl
theorem nv_ff (l : List (BitVec 64)) (x : BitVec 64) : ff (nv l x) = pvF (fun i => fw (l.getD i 0)) (fw x) l.length := pvF_pv _ _ _
theorem pvF_split {f H : Nat → FF} {a : FF} (z : FF) (h : ∀ k, f k = H k - a * H (k + 1)) : ∀ N, pvF f z N = H 0 + (z - a) * pvF (fun k => H (k + 1)) z N - H N * pwF z N
  | 0 => by show (0 : FF) = H 0 + (z - a) * 0 - H 0 * 1; grind
  | N + 1 => by
    show pvF f z N + f N * pwF z N = H 0 + (z - a) * (pvF (fun k => H (k + 1)) z N + H (N + 1) * pwF z N) - H (N + 1) * (pwF z N * z)
    rw [pvF_split z h N, h N]
    generalize pvF (fun k => H (k + 1)) z N = Q
    generalize pwF z N = p
    grind
/-- Horner's numbers from k on, of the first n -/
def hF (f : Nat → FF) (a : FF) (n : Nat) : Nat → Nat → FF
  | 0, _ => 0
  | d + 1, k => f k + a * hF f a n d (k + 1)
theorem roots_none : ∀ (n : Nat) (f X : Nat → FF), (∀ i j, i < n → j < n → i ≠ j → X i - X j ≠ 0) → (∀ i, i < n → pvF f (X i) n = 0) → ∀ k, k < n → f k = 0
  | 0, _, _, _, _, k, hk => by omega
  | n + 1, f, X, hX, h0, k, hk => by
    let g : Nat → FF := fun i => if i < n + 1 then f i else 0
    let H : Nat → FF := fun k => hF g (X 0) 0 (n + 1 - k) k
    have hH : ∀ k, g k = H k - X 0 * H (k + 1) := fun k => by
      show g k = hF g (X 0) 0 (n + 1 - k) k - X 0 * hF g (X 0) 0 (n + 1 - (k + 1)) (k + 1)
      by_cases e : k < n + 1
      · rw [show n + 1 - k = (n + 1 - (k + 1)) + 1 by omega]
        show g k = g k + X 0 * hF g (X 0) 0 (n + 1 - (k + 1)) (k + 1) - X 0 * hF g (X 0) 0 (n + 1 - (k + 1)) (k + 1)
        generalize X 0 * hF g (X 0) 0 (n + 1 - (k + 1)) (k + 1) = q
        generalize g k = r
        grind
      · rw [show n + 1 - k = 0 by omega, show n + 1 - (k + 1) = 0 by omega]
        have : g k = 0 := if_neg e
        rw [this]
        show (0 : FF) = 0 - X 0 * 0
        grind
    have hfg : ∀ N z, N ≤ n + 1 → pvF f z N = pvF g z N := by
      intro N z
      induction N with
      | zero => intro _; rfl
      | succ N ih =>
        intro hN
        show pvF f z N + f N * pwF z N = pvF g z N + g N * pwF z N
        rw [ih (by omega), show g N = f N from if_pos (by omega)]
    have hHn : H (n + 1) = 0 := by
      show hF g (X 0) 0 (n + 1 - (n + 1)) (n + 1) = 0
      rw [Nat.sub_self]; rfl
    have hsp : ∀ z, pvF f z (n + 1) = H 0 + (z - X 0) * pvF (fun k => H (k + 1)) z (n + 1) := fun z => by
      rw [hfg _ z (Nat.le_refl _), pvF_split z hH (n + 1), hHn]; grind
    have hH0 : H 0 = 0 := by
      have h1 := h0 0 (by omega)
      rw [hsp] at h1
      grind
    have hq : ∀ k, k < n → H (k + 1) = 0 := by
      refine roots_none n (fun k => H (k + 1)) (fun i => X (i + 1)) (fun i j hi hj hij => hX _ _ (by omega) (by omega) (by omega)) (fun i hi => ?_)
      have h1 := h0 (i + 1) (by omega)
      rw [hsp, hH0] at h1
      have h2 : (X (i + 1) - X 0) * pvF (fun k => H (k + 1)) (X (i + 1)) (n + 1) = 0 := by grind
      rcases nozero _ _ h2 with h3 | h3
      · exact absurd h3 (hX _ _ (by omega) (by omega) (by omega))
      · have h4 : pvF (fun k => H (k + 1)) (X (i + 1)) n + H (n + 1) * pwF (X (i + 1)) n = 0 := h3
        rw [hHn] at h4
        show pvF (fun k => H (k + 1)) (X (i + 1)) n = 0
        grind
    have hk1 : H k = 0 := by
      cases k with
      | zero => exact hH0
      | succ j => exact hq j (by omega)
    have hk2 : H (k + 1) = 0 := by
      by_cases e : k < n
      · exact hq k e
      · rw [show k = n by omega]; exact hHn
    have := hH k
    rw [show g k = f k from if_pos hk, hk1, hk2] at this
    rw [this]; grind
theorem pvF_sub (f g : Nat → FF) (z : FF) : ∀ n, pvF (fun i => f i - g i) z n = pvF f z n - pvF g z n
  | 0 => by show (0 : FF) = 0 - 0; grind
  | n + 1 => by
    show pvF (fun i => f i - g i) z n + (f n - g n) * pwF z n = (pvF f z n + f n * pwF z n) - (pvF g z n + g n * pwF z n)
    rw [pvF_sub f g z n]; grind
/-- coefficients are told by the values at as many points -/
theorem only_one {n : Nat} {c d : List (BitVec 64)} {X : Nat → FF} (hc : c.length = n) (hd : d.length = n) (hcl : ∀ i, i < n → (c.getD i 0).toNat < PP) (hdl : ∀ i, i < n → (d.getD i 0).toNat < PP)
    (hX : ∀ i j, i < n → j < n → i ≠ j → X i - X j ≠ 0) (h : ∀ i, i < n → pvF (fun k => fw (c.getD k 0)) (X i) n = pvF (fun k => fw (d.getD k 0)) (X i) n) : c = d := by
  have h1 := roots_none n (fun k => fw (c.getD k 0) - fw (d.getD k 0)) X hX (fun i hi => by rw [pvF_sub, h i hi]; grind)
  apply List.ext_getElem (by omega)
  intro j hj1 hj2
  have h2 := h1 j (by omega)
  have h3 : fw (c.getD j 0) = fw (d.getD j 0) := by grind
  have h4 := fw_inj (hcl j (by omega)) (hdl j (by omega)) h3
  rw [List.getD_eq_getElem?_getD, List.getD_eq_getElem?_getD, List.getElem?_eq_getElem hj1, List.getElem?_eq_getElem hj2] at h4
  exact h4
end Go.Bv
end
section
/- through: which words are below the prime, what is wrong with points, factors; the document's own values. -/
namespace Go.Proofs.YtebcfbcfipmahaaGreat
open Go.RowKit Go.Bv
set_option linter.unusedVariables false
/-- whether all words are below the prime -/
def blw (l : List (BitVec 64)) : Bool := decide (∀ j, j < l.length → (l.getD j 0).toNat < PP)
theorem blw_yes {l : List (BitVec 64)} (h : ∀ j, j < l.length → (l.getD j 0).toNat < PP) : blw l = true := decide_eq_true h
theorem blw_no {l : List (BitVec 64)} {k : Nat} (hk : k < l.length) (h : ¬ (l.getD k 0).toNat < PP) : blw l = false := decide_eq_false (fun hh => h (hh k hk))
theorem blw_out {l : List (BitVec 64)} (h : blw l = true) : ∀ j, j < l.length → (l.getD j 0).toNat < PP := of_decide_eq_true h
/-- no two are alike -/
def unl (l : List (BitVec 64)) : Prop := ∀ i, i < l.length → ∀ k, k < i → l.getD k 0 ≠ l.getD i 0
instance (l : List (BitVec 64)) : Decidable (unl l) := by unfold unl; infer_instance
/-- what is wrong with points -/
def chkT (xs ys : List (BitVec 64)) : Int := if xs.length < 1 ∨ 64 < xs.length ∨ xs.length ≠ ys.length then 1 else if (blw xs && blw ys) = true then (if unl xs then 0 else 15) else 2
/-- the values of coefficients -/
def vals (c xs : List (BitVec 64)) : List (BitVec 64) := xs.map fun x => mp (nv c x)
theorem vals_len (c xs : List (BitVec 64)) : (vals c xs).length = xs.length := by unfold vals; simp
theorem vals_get (c xs : List (BitVec 64)) (i : Nat) (h : i < xs.length) : (vals c xs).getD i 0 = mp (nv c (xs.getD i 0)) := by
  unfold vals
  rw [List.getD_eq_getElem?_getD, List.getElem?_map, List.getElem?_eq_getElem h, List.getD_eq_getElem?_getD, List.getElem?_eq_getElem h]; rfl
theorem vals_take (c xs : List (BitVec 64)) (k : Nat) (h : k < xs.length) : vals c (xs.take (k + 1)) = vals c (xs.take k) ++ [mp (nv c (xs.getD k 0))] := by
  unfold vals
  rw [List.take_add_one, List.map_append, List.getElem?_eq_getElem h, List.getD_eq_getElem?_getD, List.getElem?_eq_getElem h]; rfl
set_option maxHeartbeats 1000000 in
theorem inf_q (a : Option Addr) (n c : Nat) (l : List (BitVec 64)) (w : World) (h : QRow w a n c l) :
    Calls Tryz.prog 148 #[.slice a n c] w fun e w' => e = .returned (.bool (blw l)) ∧ w' = w := by
  have hm := h.most
  have HL := Lib.hid h.len_eq
  have HH := Lib.hid h
  clear h
  go_enter Tryz.func148, Tryz.ntmps148
  go_wp2
  go_loop [7] (fun i => ∃ k : Nat, k ≤ n ∧ i = .int .i64 (k : Int) ∧ Hid (∀ j, j < k → (l.getD j 0).toNat < PP)) (fun i => n - (intOf i).toNat)
  case atStart => exact ⟨0, Nat.zero_le _, rfl, Lib.hid (fun j hj => by omega)⟩
  case round =>
    obtain ⟨k, hk, rfl, H⟩ := hrel
    by_cases hlt : (k : Int) < (n : Int)
    · obtain ⟨b, off, rfl, hc⟩ := HH.out.addr (by omega)
      have c1 := hc k (by omega)
      clear hc
      have hk0 : (0 : Int) ≤ (k : Int) := by omega
      by_cases hp : (l.getD k 0).toNat < PP
      · have HP : Hid ((l.getD k 0).toNat < PP) := Lib.hid hp
        have hg : decide (2305843009213693951 ≤ W64 (l.getD k 0)) = false := decide_eq_false (by unfold PP at hp; unfold W64; omega)
        clear hp
        obtain ⟨y, hy⟩ : ∃ z, l.getD k 0 = z := ⟨_, rfl⟩
        rw [hy] at c1 hg
        clear hy
        go_wp2
        refine ⟨⟨k + 1, by omega, by go_num, Lib.hid (fun j hj => ?_)⟩, by simp [intOf]; omega⟩
        by_cases e : j = k
        · subst e; exact HP.out
        · exact H.out j (by omega)
      · have HE : Hid (blw l = false) := Lib.hid (blw_no (by rw [HL.out]; omega) hp)
        have hg : decide (2305843009213693951 ≤ W64 (l.getD k 0)) = true := decide_eq_true (by unfold PP at hp; unfold W64; omega)
        clear hp
        obtain ⟨y, hy⟩ : ∃ z, l.getD k 0 = z := ⟨_, rfl⟩
        rw [hy] at c1 hg
        clear hy
        go_wp2
        go_ret
        rw [HE.out]; exact ⟨rfl, rfl⟩
    · obtain rfl : k = n := by omega
      have HE : Hid (blw l = true) := Lib.hid (blw_yes (by rw [HL.out]; exact H.out))
      clear H
      go_wp2
      go_ret
      rw [HE.out]; exact ⟨rfl, rfl⟩
theorem msub_p (a b : BitVec 64) (w : World) : Calls Tryz.prog 121 #[.int .i64 61, .int .u64 (W64 a), .int .u64 (W64 b)] w fun e w' => e = .returned (.int .u64 (W64 (sb a b))) ∧ New w w' := by
  have h := mersub_any 61 a b w
  rw [pM61, md_mp, md_mp] at h
  exact h
theorem factor_q (x : BitVec 64) (w : World) : Calls Tryz.prog 153 #[.int .u64 (W64 x)] w fun e w' => ∃ a, e = .returned (.slice a 2 2) ∧ QRow w' a 2 2 [sb 0#64 x, 1#64] ∧ New w w' := by
  have HS := Lib.hid (fun w => msub_p 0#64 x w)
  obtain ⟨s, hs⟩ : ∃ z, sb 0#64 x = z := ⟨_, rfl⟩
  rw [hs, lo_zero] at HS
  rw [hs]
  clear hs
  go_enter Tryz.func153, Tryz.ntmps153
  go_wp2_with fail
  refine (HS.out _).mono ?_
  rintro e w9 ⟨rfl, hn⟩
  have HQ := Lib.hid (qrow2 w9 s 1#64)
  have HN := Lib.hid (hn.alloc (.cells #[.int .u64 (W64 s), .int .u64 (W64 1#64)] 31))
  rw [show W64 1#64 = 1 by decide] at HQ HN
  clear hn HS
  go_wp2
  go_ret
  exact ⟨_, rfl, HQ.out, HN.out⟩
end Go.Proofs.YtebcfbcfipmahaaGreat
end
section
/- Plain lemmas: through's words: the table of differences, Newton's sum, its values at the points. -/
namespace Go.Proofs.YtebcfbcfipmahaaGreat
open Go Go.RowKit Go.Bv
set_option linter.unusedVariables false
/-- the table of differences behind a steps -/
def dw (xs ys : List (BitVec 64)) : Nat → Nat → BitVec 64
  | 0, t => ys.getD t 0
  | a + 1, t => if t < a + 1 then dw xs ys a t else mp ((sb (dw xs ys a t) (dw xs ys a (t - 1))).toNat * (iv (sb (xs.getD t 0) (xs.getD (t - (a + 1)) 0))).toNat)
theorem dw_low (xs ys : List (BitVec 64)) (a t : Nat) (h : t < a + 1) : dw xs ys (a + 1) t = dw xs ys a t := if_pos h
theorem dw_up (xs ys : List (BitVec 64)) (a t : Nat) (h : ¬ t < a + 1) : dw xs ys (a + 1) t = mp ((sb (dw xs ys a t) (dw xs ys a (t - 1))).toNat * (iv (sb (xs.getD t 0) (xs.getD (t - (a + 1)) 0))).toNat) := if_neg h
def dL (xs ys : List (BitVec 64)) : List (BitVec 64) := (List.range xs.length).map (dw xs ys (xs.length - 1))
theorem map_range_get (f : Nat → BitVec 64) (n i : Nat) (h : i < n) : ((List.range n).map f).getD i 0 = f i := by
  rw [List.getD_eq_getElem?_getD, List.getElem?_map, List.getElem?_range h]; rfl
theorem map_range_far (f : Nat → BitVec 64) (n i : Nat) (h : n ≤ i) : ((List.range n).map f).getD i 0 = 0#64 := getD_far _ _ (by simpa using h)
theorem dL_len (xs ys : List (BitVec 64)) : (dL xs ys).length = xs.length := by unfold dL; simp
theorem dL_get (xs ys : List (BitVec 64)) (i : Nat) (h : i < xs.length) : (dL xs ys).getD i 0 = dw xs ys (xs.length - 1) i := map_range_get _ _ _ h
def XF (xs : List (BitVec 64)) (i : Nat) : FF := fw (xs.getD i 0)
theorem fw_dw {xs ys : List (BitVec 64)} {n : Nat} (hX : ∀ i j, i < n → j < n → i ≠ j → XF xs i - XF xs j ≠ 0) : ∀ a t, t < n → fw (dw xs ys a t) = dd (XF xs) (XF ys) a t
  | 0, t, _ => rfl
  | a + 1, t, h => by
    show fw (if t < a + 1 then _ else _) = (if t < a + 1 then _ else _)
    by_cases e : t < a + 1
    · rw [if_pos e, if_pos e]; exact fw_dw hX a t h
    · rw [if_neg e, if_neg e]
      rw [fw_mp, ff_mul]
      show fw (sb _ _) * fw (iv _) = _
      have h1 : fw (sb (xs.getD t 0) (xs.getD (t - (a + 1)) 0)) = XF xs t - XF xs (t - (a + 1)) := fw_sb _ _
      have h2 := hX t (t - (a + 1)) h (by omega) (by omega)
      rw [fw_iv (by rw [h1]; exact h2), h1, fw_sb, fw_dw hX a t h, fw_dw hX a (t - 1) (by omega)]
/-- Newton's sum of the program -/
def sm (xs ds : List (BitVec 64)) : Nat → Nat → List (BitVec 64)
  | 0, _ => []
  | d + 1, i => trimL (addL (trimL (mulL (sm xs ds d (i + 1)) [sb 0#64 (xs.getD i 0), 1#64])) [ds.getD i 0])
theorem topF_zero (f : Nat → BitVec 64) (m : Nat) (h : ∀ i, m ≤ i → f i = 0#64) : ∀ n, topF f n ≤ m
  | 0 => Nat.zero_le _
  | n + 1 => by
    show (if f n = 0#64 then topF f n else n + 1) ≤ m
    by_cases e : f n = 0#64
    · rw [if_pos e]; exact topF_zero f m h n
    · rw [if_neg e]
      by_cases e2 : m ≤ n
      · exact absurd (h n e2) e
      · omega
theorem trimL_short (l : List (BitVec 64)) (m : Nat) (h : ∀ i, m ≤ i → cm l i = 0#64) : (trimL l).length ≤ m := by
  unfold trimL; rw [trimF_len]; exact topF_zero _ _ h _
theorem mul2_short (q : List (BitVec 64)) (m : BitVec 64) : (trimL (mulL q [m, 1#64])).length ≤ q.length + 1 := by
  refine trimL_short _ _ (fun i hi => ?_)
  rw [mulL_cm, cs_two, nf_far q i (by omega), Nat.zero_mul, if_neg (by omega), nf_far q (i - 1) (by omega)]
  exact mp_zero
theorem sm_len (xs ds : List (BitVec 64)) : ∀ d i, (sm xs ds d i).length ≤ d
  | 0, _ => Nat.le_refl _
  | d + 1, i => by
    have h1 := sm_len xs ds d (i + 1)
    have h2 := mul2_short (sm xs ds d (i + 1)) (sb 0#64 (xs.getD i 0))
    refine trimL_short _ _ (fun j hj => ?_)
    refine cm_far _ _ ?_
    unfold addL
    rw [addP_len]
    show max _ 1 ≤ j
    omega
theorem mp_to_ff {a b : Nat} (h : mp a = mp b) : ff a = ff b := by rw [← fw_mp, h, fw_mp]
theorem nv_single (v z : BitVec 64) : nv [v] z = v.toNat := by
  show 0 + v.toNat * z.toNat ^ 0 = v.toNat
  rw [Nat.pow_zero, Nat.mul_one, Nat.zero_add]
theorem nv_two (m z : BitVec 64) : nv [m, 1#64] z = m.toNat + z.toNat := by
  show (0 + m.toNat * z.toNat ^ 0) + (1#64).toNat * z.toNat ^ 1 = _
  rw [Nat.pow_zero, Nat.mul_one, Nat.zero_add, Nat.pow_one, show (1#64).toNat = 1 from rfl, Nat.one_mul]
theorem sm_value (xs ds : List (BitVec 64)) (z : BitVec 64) : ∀ d i, ff (nv (sm xs ds d i) z) = nw (XF xs) (XF ds) (fw z) d i
  | 0, i => rfl
  | d + 1, i => by
    have h1 := mp_to_ff (nv_trim (addL (trimL (mulL (sm xs ds d (i + 1)) [sb 0#64 (xs.getD i 0), 1#64])) [ds.getD i 0]) z)
    have h2 := mp_to_ff (nv_add (trimL (mulL (sm xs ds d (i + 1)) [sb 0#64 (xs.getD i 0), 1#64])) [ds.getD i 0] z)
    have h3 := mp_to_ff (nv_trim (mulL (sm xs ds d (i + 1)) [sb 0#64 (xs.getD i 0), 1#64]) z)
    have h4 := mp_to_ff (nv_mul (sm xs ds d (i + 1)) [sb 0#64 (xs.getD i 0), 1#64] z)
    rw [ff_add] at h2
    rw [ff_mul, sm_value xs ds z d (i + 1), nv_two, ff_add] at h4
    rw [nv_single] at h2
    have h5 : ff (sb 0#64 (xs.getD i 0)).toNat = fw 0#64 - XF xs i := fw_sb _ _
    rw [h5, fw_zero] at h4
    show ff (nv (trimL _) z) = nw (XF xs) (XF ds) (fw z) d (i + 1) * (fw z - XF xs i) + XF ds i
    rw [h1, h2, h3, h4]
    show nw (XF xs) (XF ds) (fw z) d (i + 1) * (0 - XF xs i + fw z) + XF ds i = _
    generalize nw (XF xs) (XF ds) (fw z) d (i + 1) = q
    generalize XF xs i = u
    generalize fw z = v
    generalize XF ds i = r
    grind
theorem nw_ext {X D E : Nat → FF} {z : FF} : ∀ d i, (∀ k, i ≤ k → k < i + d → D k = E k) → nw X D z d i = nw X E z d i
  | 0, _, _ => rfl
  | d + 1, i, h => by
    show nw X D z d (i + 1) * (z - X i) + D i = nw X E z d (i + 1) * (z - X i) + E i
    rw [nw_ext d (i + 1) (fun k h1 h2 => h k (by omega) (by omega)), h i (Nat.le_refl _) (by omega)]
/-- what through answers: as many as points -/
def thr (xs ys : List (BitVec 64)) : List (BitVec 64) := (List.range xs.length).map fun i => (sm xs (dL xs ys) xs.length 0).getD i 0
theorem thr_len (xs ys : List (BitVec 64)) : (thr xs ys).length = xs.length := by unfold thr; simp
theorem thr_get (xs ys : List (BitVec 64)) (i : Nat) : (thr xs ys).getD i 0 = (sm xs (dL xs ys) xs.length 0).getD i 0 := by
  by_cases h : i < xs.length
  · exact map_range_get _ _ _ h
  · unfold thr
    rw [map_range_far _ _ _ (by omega), getD_far _ _ (by have := sm_len xs (dL xs ys) xs.length 0; omega)]
theorem sm_lt (xs ds : List (BitVec 64)) : ∀ d i j, ((sm xs ds d i).getD j 0).toNat < PP
  | 0, i, j => by show ((0#64 : BitVec 64)).toNat < PP; decide
  | d + 1, i, j => by
    show ((trimL _).getD j 0).toNat < PP
    rw [trimL_get]; exact mp_lt _
theorem thr_lt (xs ys : List (BitVec 64)) (i : Nat) : ((thr xs ys).getD i 0).toNat < PP := by rw [thr_get]; exact sm_lt _ _ _ _ _
/-- points that Check lets pass -/
theorem good_X {xs : List (BitVec 64)} (hb : blw xs = true) (hu : unl xs) : ∀ i j, i < xs.length → j < xs.length → i ≠ j → XF xs i - XF xs j ≠ 0 := by
  intro i j hi hj hij h
  have h1 : XF xs i = XF xs j := by
    generalize XF xs i = p at *
    generalize XF xs j = q at *
    grind
  have h2 := fw_inj (blw_out hb i hi) (blw_out hb j hj) h1
  rcases Nat.lt_or_gt_of_ne hij with h3 | h3
  · exact hu j hj i h3 h2
  · exact hu i hi j h3 h2.symm
theorem chk_parts {xs ys : List (BitVec 64)} (h : chkT xs ys = 0) : 1 ≤ xs.length ∧ xs.length ≤ 64 ∧ xs.length = ys.length ∧ blw xs = true ∧ blw ys = true ∧ unl xs := by
  unfold chkT at h
  by_cases h1 : xs.length < 1 ∨ 64 < xs.length ∨ xs.length ≠ ys.length
  · rw [if_pos h1] at h; exact absurd h (by decide)
  · rw [if_neg h1] at h
    by_cases h2 : (blw xs && blw ys) = true
    · rw [if_pos h2] at h
      rw [Bool.and_eq_true] at h2
      by_cases h3 : unl xs
      · exact ⟨by omega, by omega, by omega, h2.1, h2.2, h3⟩
      · rw [if_neg h3] at h; exact absurd h (by decide)
    · rw [if_neg h2] at h; exact absurd h (by decide)
theorem chk_make {xs ys : List (BitVec 64)} (h1 : 1 ≤ xs.length) (h2 : xs.length ≤ 64) (h3 : xs.length = ys.length) (h4 : blw xs = true) (h5 : blw ys = true) (h6 : unl xs) : chkT xs ys = 0 := by
  unfold chkT
  rw [if_neg (by omega), if_pos (by rw [h4, h5]; rfl), if_pos h6]
theorem thr_value {xs ys : List (BitVec 64)} (hX : ∀ i j, i < xs.length → j < xs.length → i ≠ j → XF xs i - XF xs j ≠ 0) (m : Nat) (hm : m < xs.length) : ff (nv (thr xs ys) (xs.getD m 0)) = XF ys m := by
  have h1 : mp (nv (thr xs ys) (xs.getD m 0)) = mp (nv (sm xs (dL xs ys) xs.length 0) (xs.getD m 0)) := nv_mod _ (fun i => by unfold cm; rw [thr_get])
  rw [mp_to_ff h1, sm_value]
  have h2 := nw_all (Y := XF ys) hX m hm
  rw [← h2]
  refine nw_ext _ _ (fun k _ hk => ?_)
  have hk2 : k < xs.length := by omega
  show fw ((dL xs ys).getD k 0) = gg (XF xs) (XF ys) 0 k k
  rw [dL_get _ _ _ hk2, fw_dw hX _ _ hk2]
  have h3 := dd_stay (XF xs) (XF ys) k (xs.length - 1 - k)
  rw [show k + (xs.length - 1 - k) = xs.length - 1 by omega] at h3
  have h4 := dd_gg (Y := XF ys) hX k 0 (by omega)
  rw [Nat.zero_add] at h4
  rw [h3, h4]
theorem mp_low {x : BitVec 64} (h : x.toNat < PP) : mp x.toNat = x := by
  apply BitVec.eq_of_toNat_eq; rw [mp_toNat, Nat.mod_eq_of_lt h]
theorem ff_word {N : Nat} {y : BitVec 64} (hy : y.toNat < PP) (h : ff N = fw y) : mp N = y := by
  rw [mp_ff (h : ff N = ff y.toNat), mp_low hy]
theorem list_of_get {a b : List (BitVec 64)} (hl : a.length = b.length) (h : ∀ i, i < a.length → a.getD i 0 = b.getD i 0) : a = b := by
  apply List.ext_getElem hl
  intro j hj1 hj2
  have h4 := h j hj1
  rw [List.getD_eq_getElem?_getD, List.getD_eq_getElem?_getD, List.getElem?_eq_getElem hj1, List.getElem?_eq_getElem hj2] at h4
  exact h4
theorem thr_points {xs ys : List (BitVec 64)} (h : chkT xs ys = 0) : vals (thr xs ys) xs = ys := by
  obtain ⟨_, _, h3, h4, h5, h6⟩ := chk_parts h
  refine list_of_get (by rw [vals_len, h3]) (fun i hi => ?_)
  rw [vals_len] at hi
  rw [vals_get _ _ _ hi]
  exact ff_word (blw_out h5 i (by omega)) (thr_value (good_X h4 h6) i hi)
theorem blw_of {l : List (BitVec 64)} (h : ∀ i, (l.getD i 0).toNat < PP) : blw l = true := blw_yes (fun j _ => h j)
theorem vals_blw (c xs : List (BitVec 64)) : blw (vals c xs) = true := blw_yes (fun j hj => by
  rw [vals_len] at hj; rw [vals_get _ _ _ hj]; exact mp_lt _)
theorem nv_pv (l : List (BitVec 64)) (x : BitVec 64) (n : Nat) (h : l.length ≤ n) : ff (nv l x) = pvF (XF l) (fw x) n := by
  rw [nv_up l x n h]; exact pvF_pv _ _ _
theorem thr_only {c xs : List (BitVec 64)} (hl : c.length = xs.length) (hc : blw c = true) (h : chkT xs (vals c xs) = 0) : thr xs (vals c xs) = c := by
  obtain ⟨_, _, h3, h4, h5, h6⟩ := chk_parts h
  have hX := good_X h4 h6
  refine only_one (n := xs.length) (X := XF xs) (thr_len _ _) hl (fun i _ => thr_lt _ _ i) (fun i hi => blw_out hc i (by omega)) hX (fun i hi => ?_)
  have e1 := thr_value (ys := vals c xs) hX i hi
  rw [nv_pv _ _ xs.length (by rw [thr_len]; exact Nat.le_refl _)] at e1
  have e2 := nv_pv c (xs.getD i 0) xs.length (by omega)
  have e3 : XF (vals c xs) i = ff (nv c (xs.getD i 0)) := by
    show fw ((vals c xs).getD i 0) = _
    rw [vals_get _ _ _ hi, fw_mp]
  rw [e3, e2] at e1
  exact e1
end Go.Proofs.YtebcfbcfipmahaaGreat
end
