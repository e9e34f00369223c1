namespace Go.Tly
set_option linter.unusedVariables false
/-- how many numbers below are such -/
def cntN (p : Nat → Bool) : Nat → Nat
  | 0 => 0
  | n + 1 => cntN p n + (p n).toNat
theorem cnt_congr {p q : Nat → Bool} : ∀ (N : Nat), (∀ x, x < N → p x = q x) → cntN p N = cntN q N
  | 0, _ => rfl
  | N + 1, h => by rw [cntN, cntN, cnt_congr N fun x hx => h x (by omega), h N (by omega)]
theorem cnt_le (p : Nat → Bool) : ∀ N : Nat, cntN p N ≤ N
  | 0 => Nat.le_refl 0
  | N + 1 => by have := cnt_le p N; rw [cntN]; have : (p N).toNat ≤ 1 := by cases p N <;> simp
                omega
theorem cnt_span (L q : Nat) : ∀ N : Nat, cntN (fun x => decide (L ≤ x) && decide (x < L + q)) N = min N (L + q) - min N L
  | 0 => by simp [cntN]
  | N + 1 => by
    rw [cntN, cnt_span L q N]
    rcases h1 : decide (L ≤ N) <;> rcases h2 : decide (N < L + q) <;> simp at h1 h2 ⊢ <;> omega
def sumN (g : Nat → Nat) : Nat → Nat
  | 0 => 0
  | n + 1 => sumN g n + g n
theorem sum_congr {g h : Nat → Nat} : ∀ n : Nat, (∀ v, v < n → g v = h v) → sumN g n = sumN h n
  | 0, _ => rfl
  | n + 1, e => by rw [sumN, sumN, sum_congr n fun v hv => e v (by omega), e n (by omega)]
theorem sum_const (c : Nat) : ∀ n : Nat, sumN (fun _ => c) n = n * c
  | 0 => by simp [sumN]
  | n + 1 => by rw [sumN, sum_const c n, Nat.succ_mul]
theorem sum_add (g h : Nat → Nat) : ∀ n : Nat, sumN (fun v => g v + h v) n = sumN g n + sumN h n
  | 0 => rfl
  | n + 1 => by rw [sumN, sumN, sumN, sum_add g h n]; omega
theorem sum_one (o : Option Nat) : ∀ n : Nat, sumN (fun v => (o == some v).toNat) n = (match o with | none => 0 | some u => if u < n then 1 else 0)
  | 0 => by cases o <;> simp [sumN]
  | n + 1 => by
    rw [sumN, sum_one o n]
    cases o with
    | none => simp
    | some u =>
      rcases Nat.lt_trichotomy u n with h | h | h
      · have : u < n + 1 := by omega
        have h3 : ¬ u = n := by omega
        simp [h, this, h3]
      · subst h; simp
      · have h1 : ¬ u < n := by omega
        have h2 : ¬ u < n + 1 := by omega
        have h3 : ¬ u = n := by omega
        simp [h1, h2, h3]
/-- all numbers are told once, or not at all -/
theorem cnt_all (f : Nat → Option Nat) (n : Nat) : ∀ N : Nat, (∀ x, x < N → ∀ v, f x = some v → v < n) → sumN (fun v => cntN (fun x => f x == some v) N) n + cntN (fun x => (f x).isNone) N = N
  | 0, _ => by
    have h : sumN (fun _ => 0) n = 0 := by rw [sum_const]; simp
    exact h
  | N + 1, h => by
    have ih := cnt_all f n N fun x hx v hv => h x (by omega) v hv
    have h1 := sum_add (fun v => cntN (fun x => f x == some v) N) (fun v => (f N == some v).toNat) n
    have h2 := sum_one (f N) n
    have h3 : sumN (fun v => cntN (fun x => f x == some v) (N + 1)) n = sumN (fun v => cntN (fun x => f x == some v) N) n + sumN (fun v => (f N == some v).toNat) n := h1
    rw [h3, h2, cntN]
    cases hf : f N with
    | none => simp; omega
    | some u => have := h N (by omega) u hf; simp [this]; omega
def lemF (A n x : Nat) : Option Nat := if x * n % A < A % n then none else some (x * n / A)
theorem lem_lt {A n x v : Nat} (hA : 0 < A) (hx : x < A) (h : lemF A n x = some v) : v < n := by
  unfold lemF at h
  split at h
  · cases h
  · cases h
    have h1 : x * n < A * n := Nat.mul_lt_mul_of_pos_right hx (by
      rcases Nat.eq_zero_or_pos n with h0 | h0
      · subst h0; simp_all
      · exact h0)
    exact (Nat.div_lt_iff_lt_mul hA).2 (by rw [Nat.mul_comm n A]; exact h1)
theorem lem_even {A n v : Nat} (hA : 0 < A) (hn : 0 < n) (hv : v < n) : cntN (fun x => lemF A n x == some v) A = A / n := by
  have hd := Nat.div_add_mod A n
  have hr := Nat.mod_lt A hn
  have hdv : n * (A / n) = A - A % n := by omega
  -- the least x with x * n ≥ v * A + A % n
  obtain ⟨L, hL⟩ : ∃ L, L = (v * A + A % n + (n - 1)) / n := ⟨_, rfl⟩
  have hL1 : ∀ x, L ≤ x ↔ v * A + A % n ≤ x * n := by
    intro x
    rw [hL, Nat.div_le_iff_le_mul_add_pred hn, Nat.mul_comm n x]
    omega
  have hL2 : ∀ x, x < L + A / n ↔ x * n < (v + 1) * A := by
    intro x
    rcases Nat.lt_or_ge x (A / n) with h | h
    · have h1 : x * n < A := by
        have : x * n < A / n * n := Nat.mul_lt_mul_of_pos_right h hn
        have : A / n * n ≤ A := Nat.div_mul_le_self A n
        omega
      have h2 : A ≤ (v + 1) * A := Nat.le_mul_of_pos_left A (by omega)
      constructor <;> intro _ <;> omega
    · have h1 := hL1 (x - A / n)
      have h2 : (x - A / n) * n = x * n - A / n * n := Nat.sub_mul _ _ _
      have h3 : A / n * n ≤ x * n := Nat.mul_le_mul_right n h
      rw [Nat.mul_comm n] at hdv
      rw [h2] at h1
      rw [Nat.succ_mul]
      constructor
      · intro h4
        have h5 : ¬ L ≤ x - A / n := by omega
        rw [h1] at h5
        omega
      · intro h4
        have h5 : ¬ (v * A + A % n ≤ x * n - A / n * n) := by omega
        rw [← h1] at h5
        omega
  have e : ∀ x, x < A → (lemF A n x == some v) = (decide (L ≤ x) && decide (x < L + A / n)) := by
    intro x hx
    have a1 := hL1 x
    have a2 := hL2 x
    have dm := Nat.div_add_mod (x * n) A
    have ml := Nat.mod_lt (x * n) hA
    rw [Bool.eq_iff_iff, Bool.and_eq_true, decide_eq_true_iff, decide_eq_true_iff, a1, a2]
    unfold lemF
    split
    · rename_i h
      constructor
      · intro h5; simp at h5
      · rintro ⟨h5, h6⟩
        exfalso
        have h7 : x * n / A = v := by
          apply Nat.div_eq_of_lt_le
          · rw [Nat.mul_comm] ; rw [Nat.mul_comm A v]; omega
          · exact h6
        rw [h7, Nat.mul_comm A v] at dm
        omega
    · rename_i h
      constructor
      · intro h5
        have h7 : x * n / A = v := by simpa using h5
        rw [h7, Nat.mul_comm A v] at dm
        rw [Nat.succ_mul]
        omega
      · rintro ⟨h5, h6⟩
        have h7 : x * n / A = v := by
          apply Nat.div_eq_of_lt_le
          · omega
          · exact h6
        rw [h7]; simp
  rw [cnt_congr A e, cnt_span]
  have hq : A / n ≤ A := Nat.div_le_self A n
  have hb : L + A / n ≤ A := by
    rcases Nat.lt_or_ge A (L + A / n) with h | h
    · have := (hL2 A).1 h
      have h2 : (v + 1) * A ≤ n * A := Nat.mul_le_mul_right A (by omega)
      rw [Nat.mul_comm A n] at this
      omega
    · exact h
  obtain ⟨Q, hQ⟩ : ∃ Q, A / n = Q := ⟨_, rfl⟩
  rw [hQ] at hb ⊢
  clear hL1 hL2 e hL hdv hd hr hq hQ
  omega
theorem lem_lost {A n : Nat} (hA : 0 < A) (hn : 0 < n) : cntN (fun x => (lemF A n x).isNone) A = A % n := by
  have h := cnt_all (lemF A n) n A fun x hx v hv => lem_lt hA hx hv
  rw [sum_congr n fun v hv => lem_even hA hn hv, sum_const] at h
  have := Nat.div_add_mod A n
  omega
def mskF (S n x : Nat) : Option Nat := if x % S < n then some (x % S) else none
theorem msk_lt {S n x v : Nat} (h : mskF S n x = some v) : v < n := by
  unfold mskF at h
  split at h
  · cases h; assumption
  · cases h
theorem cnt_more (p : Nat → Bool) (a : Nat) : ∀ b : Nat, cntN p (a + b) = cntN p a + cntN (fun x => p (a + x)) b
  | 0 => rfl
  | b + 1 => by rw [← Nat.add_assoc, cntN, cntN, cnt_more p a b]; omega
theorem msk_even {S n v : Nat} (hS : 0 < S) (hn : n ≤ S) (hv : v < n) : ∀ t : Nat, cntN (fun x => mskF S n x == some v) (S * t) = t
  | 0 => rfl
  | t + 1 => by
    rw [Nat.mul_succ, cnt_more, msk_even hS hn hv t]
    have e : ∀ x, x < S → (mskF S n (S * t + x) == some v) = (decide (v ≤ x) && decide (x < v + 1)) := by
      intro x hx
      unfold mskF
      rw [Nat.mul_add_mod, Nat.mod_eq_of_lt hx, Bool.eq_iff_iff, Bool.and_eq_true, decide_eq_true_iff, decide_eq_true_iff]
      split
      · simp; omega
      · simp; omega
    rw [cnt_congr S e, cnt_span]
    omega
theorem msk_lost {S n : Nat} (hS : 0 < S) (hn : n ≤ S) (t : Nat) : n * t + cntN (fun x => (mskF S n x).isNone) (S * t) = S * t := by
  have h := cnt_all (mskF S n) n (S * t) fun x hx v hv => msk_lt hv
  rw [sum_congr n fun v hv => msk_even hS hn hv t, sum_const] at h
  exact h
end Go.Tly
