/- Plain lemmas on numbers: a number whose powers reach all residues but 0; hence the power of each residue but 0 to the prime less 1 is 1. No program in sight. -/
namespace Go.Fer
/-- a power modulo p, in few steps -/
def powm (p : Nat) : Nat → Nat → Nat → Nat
  | 0, _, _ => 1 % p
  | f + 1, a, e => if e = 0 then 1 % p else if e % 2 = 1 then a * powm p f (a * a % p) (e / 2) % p else powm p f (a * a % p) (e / 2)
theorem pow_mod_base (a e p : Nat) : (a % p) ^ e % p = a ^ e % p := (Nat.pow_mod a e p).symm
theorem powm_eq (p : Nat) : ∀ f a e, e < 2 ^ f → powm p f a e = a ^ e % p := by
  intro f
  induction f with
  | zero => intro a e h; have : e = 0 := by omega
            subst this; simp [powm]
  | succ f ih =>
    intro a e h
    unfold powm
    by_cases h0 : e = 0
    · subst h0; simp
    · rw [if_neg h0, ih _ _ (by rw [Nat.pow_succ] at h; omega), pow_mod_base]
      have e2 : (a * a) ^ (e / 2) = a ^ (2 * (e / 2)) := by rw [Nat.pow_mul, Nat.pow_two]
      rw [e2]
      split
      · rename_i h1
        rw [Nat.mul_mod, Nat.mod_mod, ← Nat.mul_mod, ← Nat.pow_succ']
        congr 2; omega
      · congr 2; omega
/-- q is a prime, as far as it is needed: whatever divides it is 1 or it -/
def Pr (q : Nat) : Prop := ∀ d, d ∣ q → d = 1 ∨ d = q
/-- no number from d on, with f of them, divides q -/
def noDiv (q : Nat) : Nat → Nat → Bool
  | 0, _ => true
  | f + 1, d => (q % d != 0) && noDiv q f (d + 1)
theorem noDiv_out (q : Nat) : ∀ f d, noDiv q f d = true → ∀ x, d ≤ x → x < d + f → ¬ x ∣ q := by
  intro f
  induction f with
  | zero => intro d _ x h1 h2; omega
  | succ f ih =>
    intro d h x h1 h2
    simp only [noDiv, Bool.and_eq_true, bne_iff_ne, ne_eq] at h
    rcases Nat.lt_or_ge d x with h3 | h3
    · exact ih (d + 1) h.2 x h3 (by omega)
    · have : x = d := by omega
      subst this
      exact fun hd => h.1 (Nat.mod_eq_zero_of_dvd hd)
theorem pr_of (q r : Nat) (h1 : q ≤ r * r + 2 * r) (hq : 1 < q) (h : noDiv q (r - 1) 2 = true) : Pr q := by
  intro d hd
  obtain ⟨e, he⟩ := hd
  have hno := noDiv_out q (r - 1) 2 h
  rcases Nat.lt_or_ge 1 d with h2 | h2
  · rcases Nat.lt_or_ge 1 e with h3 | h3
    · exfalso
      by_cases hdr : d ≤ r
      · exact hno d (by omega) (by omega) ⟨e, he⟩
      · by_cases her : e ≤ r
        · exact hno e (by omega) (by omega) ⟨d, by rw [he, Nat.mul_comm]⟩
        · have : (r + 1) * (r + 1) ≤ d * e := Nat.mul_le_mul (by omega) (by omega)
          rw [← he] at this
          have e3 : (r + 1) * (r + 1) = r * r + 2 * r + 1 := by rw [Nat.add_mul, Nat.mul_add]; omega
          omega
    · right
      have : e = 1 := by
        rcases Nat.eq_zero_or_pos e with h4 | h4
        · subst h4; omega
        · omega
      subst this; omega
  · left
    rcases Nat.eq_zero_or_pos d with h4 | h4
    · subst h4; omega
    · omega
/-- the product of a list -/
def prod : List Nat → Nat
  | [] => 1
  | q :: l => q * prod l
theorem factor_in : ∀ (l : List Nat), (∀ q ∈ l, Pr q) → ∀ m, 1 < m → m ∣ prod l → ∃ q ∈ l, q ∣ m := by
  intro l
  induction l with
  | nil => intro _ m h1 h2; exact absurd (Nat.le_of_dvd (by decide) h2) (by simp [prod]; omega)
  | cons q l ih =>
    intro hp m h1 h2
    rcases hp q (List.mem_cons_self ..) (Nat.gcd m q) (Nat.gcd_dvd_right m q) with h | h
    · obtain ⟨r, hr, hd⟩ := ih (fun x hx => hp x (List.mem_cons_of_mem _ hx)) m h1 (Nat.Coprime.dvd_of_dvd_mul_left (show Nat.Coprime m q from h) h2)
      exact ⟨r, List.mem_cons_of_mem _ hr, hd⟩
    · exact ⟨q, List.mem_cons_self .., by rw [← h]; exact Nat.gcd_dvd_left m q⟩
/-- one for one into as many is onto -/
theorem onto : ∀ (n : Nat) (f : Nat → Nat), (∀ i, i < n → f i < n) → (∀ i j, i < n → j < n → f i = f j → i = j) → ∀ y, y < n → ∃ i, i < n ∧ f i = y := by
  intro n
  induction n with
  | zero => intro f _ _ y h; omega
  | succ n ih =>
    intro f hlt hinj y hy
    by_cases hn : ∃ k, k < n + 1 ∧ f k = n
    · obtain ⟨k, hk, hfk⟩ := hn
      by_cases hyn : y = n
      · exact ⟨k, hk, by rw [hfk, hyn]⟩
      · -- leave k out: g i = f i, but at k it is f n
        have key := ih (fun i => if i = k then f n else f i) (by
            intro i hi
            show (if i = k then f n else f i) < n
            split
            · rename_i e
              have := hlt n (by omega)
              have hne : f n ≠ n := by
                intro h2
                have := hinj n k (by omega) hk (by rw [h2, hfk])
                omega
              omega
            · rename_i e
              have := hlt i (by omega)
              have hne : f i ≠ n := by
                intro h2
                exact e (hinj i k (by omega) hk (by rw [h2, hfk]))
              omega) (by
            intro i j hi hj h2
            try simp only at h2
            split at h2 <;> split at h2
            · omega
            · rename_i e1 e2
              have := hinj n j (by omega) (by omega) h2
              omega
            · rename_i e1 e2
              have := hinj i n (by omega) (by omega) h2
              omega
            · exact hinj i j (by omega) (by omega) h2) y (by omega)
        obtain ⟨i, hi, h3⟩ := key
        try simp only at h3
        split at h3
        · exact ⟨n, by omega, h3⟩
        · exact ⟨i, by omega, h3⟩
    · exfalso
      have hlt2 : ∀ i, i < n + 1 → f i < n := by
        intro i hi
        have := hlt i hi
        have : f i ≠ n := fun h => hn ⟨i, hi, h⟩
        omega
      rcases Nat.eq_zero_or_pos n with h0 | h0
      · subst h0; have := hlt2 0 (by omega); omega
      · obtain ⟨i, hi, h3⟩ := ih f (fun i hi => hlt2 i (by omega)) (fun i j hi hj h => hinj i j (by omega) (by omega) h) (f n) (hlt2 n (by omega))
        have := hinj i n (by omega) (by omega) h3
        omega
theorem one_mod {p : Nat} (hp : 1 < p) : 1 % p = 1 := Nat.mod_eq_of_lt hp
/-- the least number of steps behind which the powers of g are 1 again divides each such number -/
theorem order_dvd {p g : Nat} (hp : 1 < p) (d : Nat) (hd0 : 0 < d) (hd : g ^ d % p = 1) (hmin : ∀ k, 0 < k → k < d → g ^ k % p ≠ 1) (n : Nat) (hn : g ^ n % p = 1) : d ∣ n := by
  apply Nat.dvd_of_mod_eq_zero
  by_cases h0 : n % d = 0
  · exact h0
  · exfalso
    apply hmin (n % d) (by omega) (Nat.mod_lt _ hd0)
    have e : n = d * (n / d) + n % d := (Nat.div_add_mod n d).symm
    rw [e, Nat.pow_add, Nat.mul_mod, Nat.pow_mul, Nat.pow_mod, hd, Nat.one_pow, one_mod hp, Nat.one_mul, Nat.mod_mod] at hn
    exact hn
/-- the numbers that make p a prime's field: g's powers are 1 behind p - 1 steps, and not behind any (p - 1) / q -/
structure Gen (p g : Nat) (l : List Nat) : Prop where
  big : 1 < p
  prod : prod l = p - 1
  prs : ∀ q ∈ l, Pr q
  one : g ^ (p - 1) % p = 1
  not : ∀ q ∈ l, g ^ ((p - 1) / q) % p ≠ 1
theorem Gen.order {p g : Nat} {l : List Nat} (h : Gen p g l) : ∀ k, 0 < k → k < p - 1 → g ^ k % p ≠ 1 := by
  -- the least one
  have hex : ∃ d, 0 < d ∧ d ≤ p - 1 ∧ g ^ d % p = 1 ∧ ∀ k, 0 < k → k < d → g ^ k % p ≠ 1 := by
    have hall : ∀ n, (∃ d, 0 < d ∧ d ≤ n ∧ g ^ d % p = 1 ∧ ∀ k, 0 < k → k < d → g ^ k % p ≠ 1) ∨ ∀ k, 0 < k → k ≤ n → g ^ k % p ≠ 1 := by
      intro n
      induction n with
      | zero => exact Or.inr (fun k h1 h2 => by omega)
      | succ n ih =>
        rcases ih with ⟨d, h1, h2, h3⟩ | ih
        · exact Or.inl ⟨d, h1, by omega, h3⟩
        · by_cases h4 : g ^ (n + 1) % p = 1
          · exact Or.inl ⟨n + 1, by omega, Nat.le_refl _, h4, fun k h5 h6 => ih k h5 (by omega)⟩
          · refine Or.inr (fun k h5 h6 => ?_)
            rcases Nat.lt_or_ge k (n + 1) with h7 | h7
            · exact ih k h5 (by omega)
            · have : k = n + 1 := by omega
              rw [this]; exact h4
    rcases hall (p - 1) with h1 | h1
    · exact h1
    · exact absurd h.one (h1 (p - 1) (by have := h.big; omega) (Nat.le_refl _))
  obtain ⟨d, hd0, hdp, hd1, hmin⟩ := hex
  have hdv := order_dvd h.big d hd0 hd1 hmin (p - 1) h.one
  obtain ⟨m, hm⟩ := hdv
  have hp1 : 0 < p - 1 := by have := h.big; omega
  have hm0 : 0 < m := by
    rcases Nat.eq_zero_or_pos m with h0 | h0
    · subst h0; omega
    · exact h0
  have hm1 : m = 1 := by
    rcases Nat.lt_or_ge 1 m with h2 | h2
    · exfalso
      obtain ⟨q, hq, r, hr⟩ := factor_in l h.prs m h2 (by rw [h.prod, hm]; exact Nat.dvd_mul_left m d)
      have hq0 : 0 < q := by
        rcases Nat.eq_zero_or_pos q with h0 | h0
        · subst h0; omega
        · exact h0
      apply h.not q hq
      have e : (p - 1) / q = d * r := by
        rw [hm, hr, show d * (q * r) = q * (d * r) from by rw [← Nat.mul_assoc, Nat.mul_comm d q, Nat.mul_assoc]]
        exact Nat.mul_div_cancel_left _ hq0
      rw [e, Nat.pow_mul, Nat.pow_mod, hd1, Nat.one_pow, one_mod h.big]
    · omega
  subst hm1
  rw [Nat.mul_one] at hm
  rw [hm]
  exact hmin
theorem Gen.step {p g : Nat} {l : List Nat} (h : Gen p g l) (i : Nat) (hi : i ≤ p - 1) : (g ^ i * g ^ (p - 1 - i)) % p = 1 := by
  rw [← Nat.pow_add, show i + (p - 1 - i) = p - 1 by omega]; exact h.one
/-- each residue but 0 is a power of g -/
theorem Gen.reach {p g : Nat} {l : List Nat} (h : Gen p g l) (a : Nat) (ha : a % p ≠ 0) : ∃ i, i < p - 1 ∧ g ^ i % p = a % p := by
  have hb := h.big
  have hpos : ∀ i, i ≤ p - 1 → g ^ i % p ≠ 0 := by
    intro i hi h0
    have := h.step i hi
    rw [Nat.mul_mod, h0, Nat.zero_mul, Nat.zero_mod] at this
    omega
  obtain ⟨i, hi, he⟩ := onto (p - 1) (fun i => g ^ i % p - 1) (by
      intro i hi
      have := hpos i (by omega)
      have := Nat.mod_lt (g ^ i) (show 0 < p by omega)
      show g ^ i % p - 1 < p - 1
      omega) (by
      have key : ∀ i j, i < j → j < p - 1 → g ^ i % p = g ^ j % p → False := by
        intro i j hij hj he
        apply h.order (j - i) (by omega) (by omega)
        have e1 : (g ^ (p - 1 - i) * g ^ i) % p = 1 := by rw [Nat.mul_comm]; exact h.step i (by omega)
        have e2 : g ^ (p - 1 - i) * g ^ j = g ^ (p - 1) * g ^ (j - i) := by rw [← Nat.pow_add, ← Nat.pow_add]; congr 1; omega
        have e3 : (g ^ (p - 1 - i) * g ^ i) % p = (g ^ (p - 1 - i) * g ^ j) % p := by rw [Nat.mul_mod, he, ← Nat.mul_mod]
        rw [e2, Nat.mul_mod (g ^ (p - 1)), h.one, Nat.one_mul, Nat.mod_mod] at e3
        rw [← e3, e1]
      intro i j hi hj he
      have he2 : g ^ i % p = g ^ j % p := by
        have := hpos i (by omega)
        have := hpos j (by omega)
        try simp only at he
        omega
      rcases Nat.lt_trichotomy i j with h1 | h1 | h1
      · exact absurd (key i j h1 hj he2) id
      · exact h1
      · exact absurd (key j i h1 hi he2.symm) id) (a % p - 1) (by have := Nat.mod_lt a (show 0 < p by omega); omega)
  refine ⟨i, hi, ?_⟩
  have := hpos i (by omega)
  try simp only at he
  omega
/-- the power of each residue but 0 to the prime less 1 is 1 -/
theorem Gen.fermat {p g : Nat} {l : List Nat} (h : Gen p g l) (a : Nat) (ha : a % p ≠ 0) : a ^ (p - 1) % p = 1 := by
  obtain ⟨i, _, he⟩ := h.reach a ha
  rw [Nat.pow_mod, ← he, ← Nat.pow_mod, ← Nat.pow_mul, Nat.mul_comm, Nat.pow_mul, Nat.pow_mod, h.one, Nat.one_pow, one_mod h.big]
/-- products of what isn't 0 aren't 0 -/
theorem Gen.mul_ne {p g : Nat} {l : List Nat} (h : Gen p g l) (a b : Nat) (ha : a % p ≠ 0) (hb : b % p ≠ 0) : a * b % p ≠ 0 := by
  intro h0
  have e : (a * b) ^ (p - 1) % p = 1 := by rw [Nat.mul_pow, Nat.mul_mod, h.fermat a ha, h.fermat b hb, Nat.mul_one, one_mod h.big]
  rw [Nat.pow_mod, h0, Nat.zero_pow (by have := h.big; omega), Nat.zero_mod] at e
  omega
/-- a number's inverse as a power -/
theorem Gen.inv {p g : Nat} {l : List Nat} (h : Gen p g l) (hp : 2 < p) (a : Nat) (ha : a % p ≠ 0) : a * (a ^ (p - 2) % p) % p = 1 := by
  rw [Nat.mul_mod, Nat.mod_mod, ← Nat.mul_mod, ← Nat.pow_succ', show (p - 2).succ = p - 1 by omega]; exact h.fermat a ha
theorem gen_of (p g f : Nat) (l : List Nat) (hp : 1 < p) (hf : p - 1 < 2 ^ f) (h1 : prod l = p - 1) (h2 : ∀ q ∈ l, Pr q) (h3 : powm p f g (p - 1) = 1)
    (h4 : (l.all fun q => powm p f g ((p - 1) / q) != 1) = true) : Gen p g l where
  big := hp
  prod := h1
  prs := h2
  one := by rw [← powm_eq p f g (p - 1) hf]; exact h3
  not := by
    intro q hq
    have := List.all_eq_true.1 h4 q hq
    rw [powm_eq p f g _ (Nat.lt_of_le_of_lt (Nat.div_le_self _ _) hf)] at this
    simpa using this
theorem pr_small (q : Nat) (h : (decide (q ≤ (q - 2) * (q - 2) + 2 * (q - 2)) && decide (1 < q) && noDiv q (q - 2 - 1) 2) = true) : Pr q := by
  simp only [Bool.and_eq_true, decide_eq_true_eq] at h
  exact pr_of q (q - 2) h.1.1 h.1.2 h.2
theorem pr2 : Pr 2 := by
  intro d hd
  have := Nat.le_of_dvd (by decide) hd
  rcases hd with ⟨e, he⟩
  rcases Nat.eq_zero_or_pos d with h | h
  · subst h; omega
  · omega
theorem pr3 : Pr 3 := by
  intro d hd
  have := Nat.le_of_dvd (by decide) hd
  have h2 : ¬ (2 ∣ 3) := by decide
  rcases hd with ⟨e, he⟩
  rcases Nat.eq_zero_or_pos d with h | h
  · subst h; omega
  · by_cases h3 : d = 2
    · subst h3; exact absurd ⟨e, he⟩ h2
    · omega
theorem all_pr (l : List Nat) (h : (l.all fun q => q == 2 || q == 3 || (decide (q ≤ (q - 2) * (q - 2) + 2 * (q - 2)) && decide (1 < q) && noDiv q (q - 2 - 1) 2)) = true) : ∀ q ∈ l, Pr q := by
  intro q hq
  have := List.all_eq_true.1 h q hq
  simp only [Bool.or_eq_true, beq_iff_eq] at this
  rcases this with (h1 | h1) | h1
  · rw [h1]; exact pr2
  · rw [h1]; exact pr3
  · exact pr_small q h1
def P31 : Nat := 2147483647
def P61 : Nat := 2305843009213693951
def P89 : Nat := 618970019642690137449562111
theorem gen31 : Gen P31 7 [2, 3, 3, 7, 11, 31, 151, 331] :=
  gen_of _ _ 31 _ (by decide +kernel) (by decide +kernel) (by decide +kernel) (all_pr _ (by decide +kernel)) (by decide +kernel) (by decide +kernel)
theorem gen61 : Gen P61 37 [2, 3, 3, 5, 5, 7, 11, 13, 31, 41, 61, 151, 331, 1321] :=
  gen_of _ _ 61 _ (by decide +kernel) (by decide +kernel) (by decide +kernel) (all_pr _ (by decide +kernel)) (by decide +kernel) (by decide +kernel)
theorem big_pr : Pr 2931542417 := pr_of _ 54144 (by decide +kernel) (by decide +kernel) (by decide +kernel)
theorem gen89 : Gen P89 3 [2, 3, 5, 17, 23, 89, 353, 397, 683, 2113, 2931542417] :=
  gen_of _ _ 89 _ (by decide +kernel) (by decide +kernel) (by decide +kernel) (by
    intro q hq
    rcases (List.mem_append.1 (show q ∈ [2, 3, 5, 17, 23, 89, 353, 397, 683, 2113] ++ [2931542417] from hq)) with h | h
    · exact all_pr _ (by decide +kernel) q h
    · simp at h; rw [h]; exact big_pr) (by decide +kernel) (by decide +kernel)
end Go.Fer
