/- Plain lemmas: decisions, and the orders that they lead to. -/
import Derived.Test.YtajjpllhihgkdaaShfM
namespace Go.Bv
open Go Go.RowKit
set_option linter.unusedVariables false
/-- the row after j arrivals -/
def oS (k : Nat) (d : Nat → Nat) : Nat → Nat → Nat
  | 0 => fun x => x
  | j + 1 => sw (oS k d j) (k + j) (d j)
def rtD (k m : Nat) (d : Nat → Nat) : Prop := ∀ i, i < m → d i ≤ k + i
theorem oS_high {k m : Nat} {d : Nat → Nat} (h : rtD k m d) : ∀ j, j ≤ m → ∀ x, k + j ≤ x → oS k d j x = x
  | 0, _, x, _ => rfl
  | j + 1, hj, x, hx => by
    have h1 := h j (by omega)
    show sw (oS k d j) (k + j) (d j) x = x
    unfold sw
    rw [if_neg (by omega), if_neg (by omega)]
    exact oS_high h j (by omega) x (by omega)
theorem oS_lt {k m : Nat} {d : Nat → Nat} (h : rtD k m d) : ∀ j, j ≤ m → ∀ n, k + j ≤ n → ∀ x, x < n → oS k d j x < n
  | 0, _, n, _, x, hx => hx
  | j + 1, hj, n, hn, x, hx => sw_lt (by omega) (by have := h j (by omega); omega) (oS_lt h j (by omega) n (by omega)) x hx
/-- of the slots -/
theorem oS_low {k m : Nat} {d : Nat → Nat} (h : rtD k m d) {j : Nat} (hj : j < m) {x : Nat} (hx : x < k) : oS k d (j + 1) x = if d j = x then k + j else oS k d j x := by
  show sw (oS k d j) (k + j) (d j) x = _
  unfold sw
  by_cases e : d j = x
  · rw [if_pos e.symm, if_pos e]
    exact oS_high h j (by omega) (k + j) (Nat.le_refl _)
  · rw [if_neg (fun e2 => e e2.symm), if_neg (by omega), if_neg e]
theorem sw_sw (f : Nat → Nat) (i j : Nat) : sw (sw f i j) i j = f := by
  funext x
  unfold sw
  by_cases e : x = j
  · subst e
    by_cases e2 : i = x
    · subst e2; simp
    · simp [e2]
  · by_cases e2 : x = i
    · subst e2; simp [e]
    · simp [e, e2]
theorem sw_inj {f : Nat → Nat} {n i j : Nat} (hi : i < n) (hj : j < n) (h : ∀ x y, x < n → y < n → f x = f y → x = y) : ∀ x y, x < n → y < n → sw f i j x = sw f i j y → x = y := by
  intro x y hx hy he
  unfold sw at he
  by_cases e1 : x = j
  · by_cases e2 : y = j
    · omega
    · rw [if_pos e1, if_neg e2] at he
      by_cases e3 : y = i
      · rw [if_pos e3] at he; have := h i j hi hj he; omega
      · rw [if_neg e3] at he; have := h i y hi hy he; omega
  · by_cases e2 : y = j
    · rw [if_neg e1, if_pos e2] at he
      by_cases e3 : x = i
      · rw [if_pos e3] at he; have := h j i hj hi he; omega
      · rw [if_neg e3] at he; have := h x i hx hi he; omega
    · rw [if_neg e1, if_neg e2] at he
      by_cases e3 : x = i
      · by_cases e4 : y = i
        · omega
        · rw [if_pos e3, if_neg e4] at he; have := h j y hj hy he; omega
      · by_cases e4 : y = i
        · rw [if_neg e3, if_pos e4] at he; have := h x j hx hj he; omega
        · rw [if_neg e3, if_neg e4] at he; exact h x y hx hy he
theorem oS_inj {k m : Nat} {d : Nat → Nat} (h : rtD k m d) : ∀ j, j ≤ m → ∀ n, k + j ≤ n → ∀ x y, x < n → y < n → oS k d j x = oS k d j y → x = y
  | 0, _, n, _, x, y, _, _, he => he
  | j + 1, hj, n, hn, x, y, hx, hy, he => sw_inj (i := k + j) (j := d j) (by omega) (by have := h j (by omega); omega) (oS_inj h j (by omega) n (by omega)) x y hx hy he
/-- whether d may be decisions of n items and k slots -/
def rdI (n k : Nat) (d : List Int) : Prop := d.length = n - k ∧ ∀ i, i < n - k → 0 ≤ d.getD i 0 ∧ d.getD i 0 ≤ (k : Int) + (i : Int)
theorem rdI_F {n k : Nat} {d : List Int} (h : rdI n k d) : rtD k (n - k) (fnI d) := fun i hi => by have := h.2 i hi; unfold fnI; omega
/-- the slots, the order -/
def slI (n k : Nat) (d : List Int) : List Int := liI (oS k (fnI d) (n - k)) k
def odI (n k : Nat) (d : List Int) : List Int := liI (oS k (fnI d) (n - k)) n
theorem slI_len (n k : Nat) (d : List Int) : (slI n k d).length = k := liI_len _ _
theorem odI_len (n k : Nat) (d : List Int) : (odI n k d).length = n := liI_len _ _
theorem odI_or {n k : Nat} {d : List Int} (hk : k ≤ n) (h : rdI n k d) : isO (odI n k d) := by
  have h2 := rdI_F h
  unfold isO odI
  rw [liI_len]
  constructor
  · intro j hj
    rw [liI_get _ hj]
    have := oS_lt h2 (n - k) (Nat.le_refl _) n (by omega) j hj
    omega
  · intro j l hj hl he
    rw [liI_get _ (by omega), liI_get _ hl] at he
    have := oS_inj h2 (n - k) (Nat.le_refl _) n (by omega) j l (by omega) hl (by omega)
    omega
/-- undone: the place of a number in the row, from the front -/
def ixF (f : Nat → Nat) (v : Nat) : Nat → Nat
  | 0 => 0
  | c + 1 => if ixF f v c < c then ixF f v c else if f c = v then c else c + 1
theorem ixF_le (f : Nat → Nat) (v : Nat) : ∀ c, ixF f v c ≤ c
  | 0 => Nat.le_refl _
  | c + 1 => by
    show (if ixF f v c < c then ixF f v c else if f c = v then c else c + 1) ≤ c + 1
    have := ixF_le f v c
    split
    · omega
    · split <;> omega
theorem ixF_at {f : Nat → Nat} {v : Nat} : ∀ {c}, ixF f v c < c → f (ixF f v c) = v
  | 0, h => by omega
  | c + 1, h => by
    have e : ixF f v (c + 1) = if ixF f v c < c then ixF f v c else if f c = v then c else c + 1 := rfl
    by_cases h1 : ixF f v c < c
    · rw [e, if_pos h1]; exact ixF_at h1
    · rw [e, if_neg h1] at h ⊢
      by_cases h2 : f c = v
      · rw [if_pos h2]; exact h2
      · rw [if_neg h2] at h; omega
theorem ixF_some {f : Nat → Nat} {v : Nat} : ∀ {c j}, j < c → f j = v → ixF f v c < c
  | 0, j, h, _ => by omega
  | c + 1, j, h, he => by
    show (if ixF f v c < c then ixF f v c else if f c = v then c else c + 1) < c + 1
    by_cases h1 : ixF f v c < c
    · rw [if_pos h1]; omega
    · rw [if_neg h1]
      by_cases e : j = c
      · subst e; rw [if_pos he]; omega
      · exact absurd (ixF_some (c := c) (by omega) he) h1
theorem ixF_one {f : Nat → Nat} {v c j : Nat} (hj : j < c) (he : f j = v) (h : ∀ x y, x < c → y < c → f x = f y → x = y) : ixF f v c = j := by
  have h1 := ixF_some hj he
  exact h _ _ h1 hj ((ixF_at h1).trans he.symm)
/-- the row after t items are taken off -/
def unF (p : Nat → Nat) (n : Nat) : Nat → Nat → Nat
  | 0 => p
  | t + 1 => sw (unF p n t) (n - 1 - t) (ixF (unF p n t) (n - 1 - t) (n - t))
/-- a row on the first c places is an order of the first c numbers, the rest stand at their places -/
def onF (f : Nat → Nat) (c n : Nat) : Prop := (∀ x, x < c → f x < c) ∧ (∀ x y, x < c → y < c → f x = f y → x = y) ∧ ∀ x, c ≤ x → x < n → f x = x
theorem onF_has {f : Nat → Nat} {c n : Nat} (h : onF f c n) {v : Nat} (hv : v < c) : ∃ j, j < c ∧ f j = v := by
  have ho : isO (liI f c) := by
    unfold isO
    rw [liI_len]
    refine ⟨fun j hj => ?_, fun j k hj hk he => ?_⟩
    · rw [liI_get _ hj]; have := h.1 j hj; omega
    · rw [liI_get _ (by omega), liI_get _ hk] at he
      have := h.2.1 j k (by omega) hk (by omega)
      omega
  obtain ⟨j, hj, he⟩ := isO_on ho (i := v) (by rw [liI_len]; exact hv)
  rw [liI_len] at hj
  rw [liI_get _ hj] at he
  exact ⟨j, hj, by omega⟩
theorem onF_step {f : Nat → Nat} {c n j : Nat} (h : onF f (c + 1) n) (hj : j < c + 1) (he : f j = c) : onF (sw f c j) c n := by
  obtain ⟨h1, h2, h3⟩ := h
  have hs : ∀ x, sw f c j x = if x = j then f c else if x = c then f j else f x := fun x => rfl
  refine ⟨fun x hx => ?_, fun x y hx hy hxy => ?_, fun x hx hn => ?_⟩
  · rw [hs]
    by_cases e : x = j
    · rw [if_pos e]
      have h4 := h1 c (by omega)
      by_cases e2 : f c = c
      · have := h2 c j (by omega) hj (by omega); omega
      · omega
    · rw [if_neg e, if_neg (by omega)]
      have h4 := h1 x (by omega)
      by_cases e2 : f x = c
      · have := h2 x j (by omega) hj (by omega); omega
      · omega
  · exact sw_inj (n := c + 1) (by omega) hj h2 x y (by omega) (by omega) hxy
  · rw [hs]
    by_cases e : x = c
    · subst e
      by_cases e2 : x = j
      · rw [if_pos e2]; rw [← e2] at he; exact he
      · rw [if_neg e2, if_pos rfl]; exact he
    · rw [if_neg (by omega), if_neg e]; exact h3 x (by omega) hn
theorem unF_on {p : Nat → Nat} {n : Nat} (hp : orF p n) : ∀ t, t ≤ n → onF (unF p n t) (n - t) n
  | 0, _ => ⟨hp.1, hp.2, fun x hx hn => by omega⟩
  | t + 1, ht => by
    have ih := unF_on hp t (by omega)
    obtain ⟨c, hc⟩ : ∃ c, n - 1 - t = c := ⟨_, rfl⟩
    have hc1 : n - t = c + 1 := by omega
    rw [hc1] at ih
    show onF (sw (unF p n t) (n - 1 - t) (ixF (unF p n t) (n - 1 - t) (n - t))) (n - (t + 1)) n
    rw [hc, hc1, show n - (t + 1) = c by omega]
    obtain ⟨j, hj, he⟩ := onF_has ih (v := c) (by omega)
    have h1 := ixF_some hj he
    exact onF_step ih h1 (ixF_at h1)
/-- the decisions that are told of an order -/
def unD (p : Nat → Nat) (n k : Nat) (i : Nat) : Nat := ixF (unF p n (n - 1 - (k + i))) (k + i) (k + i + 1)
theorem unD_rt {p : Nat → Nat} {n k : Nat} (hp : orF p n) : rtD k (n - k) (unD p n k) := fun i hi => by
  have h := unF_on hp (n - 1 - (k + i)) (by omega)
  rw [show n - (n - 1 - (k + i)) = k + i + 1 by omega] at h
  obtain ⟨j, hj, he⟩ := onF_has h (v := k + i) (by omega)
  have h1 := ixF_some hj he
  unfold unD
  omega
/-- the row that comes if f stood there at first -/
def frS (f : Nat → Nat) (k : Nat) (d : Nat → Nat) : Nat → Nat → Nat
  | 0 => f
  | j + 1 => sw (frS f k d j) (k + j) (d j)
theorem oS_fr (k : Nat) (d : Nat → Nat) : ∀ j, oS k d j = frS (fun x => x) k d j
  | 0 => rfl
  | j + 1 => by show sw (oS k d j) _ _ = sw (frS _ k d j) _ _; rw [oS_fr k d j]
/-- from what stood there at first the decisions lead back -/
theorem fr_un {p : Nat → Nat} {n k : Nat} (hk : k ≤ n) : ∀ j, j ≤ n - k → frS (unF p n (n - k)) k (unD p n k) j = unF p n (n - k - j)
  | 0, _ => rfl
  | j + 1, hj => by
    show sw (frS (unF p n (n - k)) k (unD p n k) j) (k + j) (unD p n k j) = _
    rw [fr_un hk j (by omega)]
    obtain ⟨t, ht⟩ : ∃ t, n - k - (j + 1) = t := ⟨_, rfl⟩
    rw [show n - k - j = t + 1 by omega, ht]
    show sw (sw (unF p n t) (n - 1 - t) (ixF (unF p n t) (n - 1 - t) (n - t))) (k + j) (unD p n k j) = _
    unfold unD
    rw [show n - 1 - (k + j) = t by omega, show n - 1 - t = k + j by omega, show n - t = k + j + 1 by omega]
    exact sw_sw _ _ _
/-- of an order that decisions lead to, they are told -/
theorem un_od {n k : Nat} {d : Nat → Nat} (hk : k ≤ n) (h : rtD k (n - k) d) : ∀ t, t ≤ n - k → unF (oS k d (n - k)) n t = oS k d (n - k - t)
  | 0, _ => rfl
  | t + 1, ht => by
    show sw (unF (oS k d (n - k)) n t) (n - 1 - t) (ixF (unF (oS k d (n - k)) n t) (n - 1 - t) (n - t)) = _
    rw [un_od hk h t (by omega)]
    obtain ⟨j, hj⟩ : ∃ j, n - k - (t + 1) = j := ⟨_, rfl⟩
    rw [show n - k - t = j + 1 by omega, hj, show n - 1 - t = k + j by omega, show n - t = k + j + 1 by omega]
    have hd := h j (by omega)
    have hx : ixF (oS k d (j + 1)) (k + j) (k + j + 1) = d j := by
      refine ixF_one (by omega) ?_ (oS_inj h (j + 1) (by omega) (k + j + 1) (by omega))
      show sw (oS k d j) (k + j) (d j) (d j) = _
      unfold sw
      rw [if_pos rfl]
      exact oS_high h j (by omega) _ (Nat.le_refl _)
    rw [hx]
    exact sw_sw _ _ _
theorem unD_od {n k : Nat} {d : Nat → Nat} (hk : k ≤ n) (h : rtD k (n - k) d) {i : Nat} (hi : i < n - k) : unD (oS k d (n - k)) n k i = d i := by
  unfold unD
  rw [un_od hk h _ (by omega), show n - k - (n - 1 - (k + i)) = i + 1 by omega]
  have hd := h i hi
  refine ixF_one (by omega) ?_ (oS_inj h (i + 1) (by omega) (k + i + 1) (by omega))
  show sw (oS k d i) (k + i) (d i) (d i) = _
  unfold sw
  rw [if_pos rfl]
  exact oS_high h i (by omega) _ (Nat.le_refl _)
end Go.Bv
