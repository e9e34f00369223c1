/- Plain lemmas: orders, and the choices that lead to them. · Plain lemmas: rows of one's own that are written at an index. -/
import Derived.Test.YtdjlbpgjbgepdaaGreatRowI
import Derived.Laws.AppendOwn
import Derived.Deep.OwnRows
namespace Go.Bv
set_option linter.unusedVariables false
/-- two places exchanged -/
def sw (f : Nat → Nat) (i j : Nat) : Nat → Nat := fun x => if x = j then f i else if x = i then f j else f x
/-- the inverse behind that -/
def swI (f g : Nat → Nat) (i j : Nat) : Nat → Nat := fun y => if y = f i then j else if y = f j then i else g y
theorem sw_inv {f g : Nat → Nat} {n i j : Nat} (hi : i < n) (hj : j < n) (h1 : ∀ x, x < n → g (f x) = x) (h2 : ∀ y, y < n → f (g y) = y) :
    (∀ x, x < n → swI f g i j (sw f i j x) = x) ∧ (∀ y, y < n → sw f i j (swI f g i j y) = y) := by
  have inj : ∀ x y, x < n → y < n → f x = f y → x = y := fun x y hx hy h => by rw [← h1 x hx, ← h1 y hy, h]
  constructor
  · intro x hx
    unfold sw swI
    by_cases e1 : x = j
    · subst e1; rw [if_pos rfl, if_pos rfl]
    · rw [if_neg e1]
      by_cases e2 : x = i
      · subst e2
        rw [if_pos rfl, if_neg (fun h => e1 (inj _ _ hj hx h).symm), if_pos rfl]
      · rw [if_neg e2, if_neg (fun h => e2 (inj _ _ hx hi h)), if_neg (fun h => e1 (inj _ _ hx hj h)), h1 x hx]
  · intro y hy
    unfold sw swI
    by_cases e1 : y = f i
    · rw [if_pos e1, if_pos rfl, e1]
    · rw [if_neg e1]
      by_cases e2 : y = f j
      · rw [if_pos e2]
        by_cases e3 : i = j
        · subst e3; exact absurd e2 e1
        · rw [if_neg e3, if_pos rfl, e2]
      · rw [if_neg e2, if_neg (fun h => e2 (by rw [← h, h2 y hy])), if_neg (fun h => e1 (by rw [← h, h2 y hy])), h2 y hy]
theorem sw_lt {f : Nat → Nat} {n i j : Nat} (hi : i < n) (hj : j < n) (h : ∀ x, x < n → f x < n) : ∀ x, x < n → sw f i j x < n := by
  intro x hx; unfold sw; split
  · exact h i hi
  · split
    · exact h j hj
    · exact h x hx
theorem swI_lt {f g : Nat → Nat} {n i j : Nat} (hi : i < n) (hj : j < n) (h : ∀ x, x < n → g x < n) : ∀ x, x < n → swI f g i j x < n := by
  intro x hx; unfold swI; split
  · exact hj
  · split
    · exact hi
    · exact h x hx
/-- the row after k exchanges, from the last place down -/
def stF (c : Nat → Nat) (n : Nat) : Nat → Nat → Nat
  | 0 => fun x => x
  | k + 1 => sw (stF c n k) (n - 1 - k) (c (n - 1 - k))
/-- its inverse -/
def inF (c : Nat → Nat) (n : Nat) : Nat → Nat → Nat
  | 0 => fun x => x
  | k + 1 => swI (stF c n k) (inF c n k) (n - 1 - k) (c (n - 1 - k))
/-- whether c may be choices -/
def rtF (c : Nat → Nat) (n : Nat) : Prop := ∀ i, i < n → c i ≤ i
theorem st_lt {c : Nat → Nat} {n : Nat} (hc : rtF c n) : ∀ k, k ≤ n → ∀ x, x < n → stF c n k x < n
  | 0, _, x, hx => hx
  | k + 1, hk, x, hx => sw_lt (by omega) (by have := hc (n - 1 - k) (by omega); omega) (st_lt hc k (by omega)) x hx
theorem in_lt {c : Nat → Nat} {n : Nat} (hc : rtF c n) : ∀ k, k ≤ n → ∀ x, x < n → inF c n k x < n
  | 0, _, x, hx => hx
  | k + 1, hk, x, hx => swI_lt (by omega) (by have := hc (n - 1 - k) (by omega); omega) (in_lt hc k (by omega)) x hx
theorem st_in {c : Nat → Nat} {n : Nat} (hc : rtF c n) : ∀ k, k ≤ n → (∀ x, x < n → inF c n k (stF c n k x) = x) ∧ (∀ y, y < n → stF c n k (inF c n k y) = y)
  | 0, _ => ⟨fun _ _ => rfl, fun _ _ => rfl⟩
  | k + 1, hk => by
    obtain ⟨h1, h2⟩ := st_in hc k (by omega)
    exact sw_inv (i := n - 1 - k) (j := c (n - 1 - k)) (by omega) (by have := hc (n - 1 - k) (by omega); omega) h1 h2
theorem st_inj {c : Nat → Nat} {n : Nat} (hc : rtF c n) {k : Nat} (hk : k ≤ n) {x y : Nat} (hx : x < n) (hy : y < n) (h : stF c n k x = stF c n k y) : x = y := by
  rw [← (st_in hc k hk).1 x hx, ← (st_in hc k hk).1 y hy, h]
theorem st_congr {c d : Nat → Nat} {n : Nat} : ∀ k, (∀ j, j < k → c (n - 1 - j) = d (n - 1 - j)) → stF c n k = stF d n k
  | 0, _ => rfl
  | k + 1, h => by
    show sw _ _ _ = sw _ _ _
    rw [st_congr k (fun j hj => h j (by omega)), h k (by omega)]
theorem in_congr {c d : Nat → Nat} {n : Nat} : ∀ k, (∀ j, j < k → c (n - 1 - j) = d (n - 1 - j)) → inF c n k = inF d n k
  | 0, _ => rfl
  | k + 1, h => by
    show swI _ _ _ _ = swI _ _ _ _
    rw [in_congr k (fun j hj => h j (by omega)), st_congr k (fun j hj => h j (by omega)), h k (by omega)]
/-- what stands behind the place that is next stays -/
theorem st_stay {c : Nat → Nat} {n : Nat} (hc : rtF c n) {k x : Nat} (hx : n ≤ x + k) (hxn : x < n) : ∀ d, k + d ≤ n → stF c n (k + d) x = stF c n k x
  | 0, _ => rfl
  | d + 1, h => by
    show sw (stF c n (k + d)) (n - 1 - (k + d)) (c (n - 1 - (k + d))) x = _
    have h1 := hc (n - 1 - (k + d)) (by omega)
    unfold sw
    rw [if_neg (by omega), if_neg (by omega)]
    exact st_stay hc hx hxn d (by omega)
/-- the choices of an order p after k steps -/
def chC (p : Nat → Nat) (n : Nat) : Nat → Nat → Nat
  | 0 => fun _ => 0
  | k + 1 => fun x => if x = n - 1 - k then inF (chC p n k) n k (p (n - 1 - k)) else chC p n k x
theorem ch_at (p : Nat → Nat) (n k : Nat) : chC p n (k + 1) (n - 1 - k) = inF (chC p n k) n k (p (n - 1 - k)) := by
  show (if _ then _ else _) = _; rw [if_pos rfl]
theorem ch_old (p : Nat → Nat) (n k x : Nat) (h : x ≠ n - 1 - k) : chC p n (k + 1) x = chC p n k x := by
  show (if _ then _ else _) = _; rw [if_neg h]
theorem ch_same (p : Nat → Nat) (n k : Nat) (hk : k < n) : ∀ j, j < k → chC p n (k + 1) (n - 1 - j) = chC p n k (n - 1 - j) := fun j hj => ch_old p n k _ (by omega)
theorem ch_st (p : Nat → Nat) (n k : Nat) (hk : k < n) : stF (chC p n (k + 1)) n k = stF (chC p n k) n k := st_congr k (ch_same p n k hk)
theorem ch_in (p : Nat → Nat) (n k : Nat) (hk : k < n) : inF (chC p n (k + 1)) n k = inF (chC p n k) n k := in_congr k (ch_same p n k hk)
/-- whether p is an order -/
def orF (p : Nat → Nat) (n : Nat) : Prop := (∀ x, x < n → p x < n) ∧ ∀ x y, x < n → y < n → p x = p y → x = y
theorem ch_all {p : Nat → Nat} {n : Nat} (hp : orF p n) : ∀ k, k ≤ n → rtF (chC p n k) n ∧ ∀ x, n ≤ x + k → x < n → stF (chC p n k) n k x = p x
  | 0, _ => ⟨fun i _ => Nat.zero_le _, fun x h1 h2 => by omega⟩
  | k + 1, hk => by
    obtain ⟨hr, hx⟩ := ch_all hp k (by omega)
    have hi : n - 1 - k < n := by omega
    have hpi := hp.1 _ hi
    obtain ⟨j, hj⟩ : ∃ j, inF (chC p n k) n k (p (n - 1 - k)) = j := ⟨_, rfl⟩
    have hjn : j < n := by rw [← hj]; exact in_lt hr k (by omega) _ hpi
    have hsj : stF (chC p n k) n k j = p (n - 1 - k) := by rw [← hj]; exact (st_in hr k (by omega)).2 _ hpi
    have hji : j ≤ n - 1 - k := by
      rcases Nat.lt_or_ge (n - 1 - k) j with c | c
      · have h1 := hx j (by omega) hjn
        rw [hsj] at h1
        have := hp.2 _ _ hi hjn h1
        omega
      · exact c
    have hr' : rtF (chC p n (k + 1)) n := fun x hxn => by
      by_cases e : x = n - 1 - k
      · subst e; rw [ch_at, hj]; exact hji
      · rw [ch_old p n k x e]; exact hr x hxn
    refine ⟨hr', fun x h1 h2 => ?_⟩
    show sw (stF (chC p n (k + 1)) n k) (n - 1 - k) (chC p n (k + 1) (n - 1 - k)) x = p x
    rw [ch_st p n k (by omega), ch_at, hj]
    unfold sw
    by_cases e1 : x = j
    · rw [if_pos e1]
      have e2 : x = n - 1 - k := by omega
      rw [← e2, e1, hsj, ← e2, e1]
    · rw [if_neg e1]
      by_cases e2 : x = n - 1 - k
      · rw [if_pos e2, hsj, e2]
      · rw [if_neg e2]; exact hx x (by omega) h2
/-- the choices of an order lead to it -/
theorem ch_leads {p : Nat → Nat} {n : Nat} (hp : orF p n) : rtF (chC p n n) n ∧ ∀ x, x < n → stF (chC p n n) n n x = p x :=
  ⟨(ch_all hp n (Nat.le_refl _)).1, fun x hx => (ch_all hp n (Nat.le_refl _)).2 x (by omega) hx⟩
/-- the choices of the order that choices make are they -/
theorem ch_only {c : Nat → Nat} {n : Nat} (hc : rtF c n) : ∀ k, k ≤ n → ∀ x, n ≤ x + k → x < n → chC (stF c n n) n k x = c x
  | 0, _, x, h1, h2 => by omega
  | k + 1, hk, x, h1, h2 => by
    by_cases e : x = n - 1 - k
    · subst e
      rw [ch_at, in_congr (d := c) k (fun j hj => ch_only hc k (by omega) _ (by omega) (by omega))]
      have h3 := st_stay hc (k := k + 1) (x := n - 1 - k) (by omega) (by omega) (n - (k + 1)) (by omega)
      rw [show k + 1 + (n - (k + 1)) = n by omega] at h3
      rw [h3]
      have hcn : c (n - 1 - k) < n := by have := hc (n - 1 - k) (by omega); omega
      have h4 : stF c n (k + 1) (n - 1 - k) = stF c n k (c (n - 1 - k)) := by
        show sw _ _ _ _ = _
        unfold sw
        by_cases e1 : n - 1 - k = c (n - 1 - k)
        · rw [if_pos e1]; exact congrArg _ e1
        · rw [if_neg e1, if_pos rfl]
      rw [h4]
      exact (st_in hc k (by omega)).1 _ hcn
    · rw [ch_old _ n k x e]; exact ch_only hc k (by omega) x (by omega) h2
/-- the step for the first place changes nothing -/
theorem st_one {c : Nat → Nat} {n : Nat} (hc : rtF c n) (hn : 0 < n) : stF c n n = stF c n (n - 1) := by
  obtain ⟨m, rfl⟩ : ∃ m, n = m + 1 := ⟨n - 1, by omega⟩
  rw [Nat.add_sub_cancel]
  show sw (stF c (m + 1) m) (m + 1 - 1 - m) (c (m + 1 - 1 - m)) = _
  have h := hc 0 (by omega)
  rw [show m + 1 - 1 - m = 0 by omega, show c 0 = 0 by omega]
  funext x
  unfold sw
  by_cases e : x = 0
  · rw [if_pos e, e]
  · rw [if_neg e, if_neg e]
theorem ch_one {p : Nat → Nat} {n : Nat} (hp : orF p n) (hn : 0 < n) : ∀ x, x < n → chC p n n x = chC p n (n - 1) x := by
  obtain ⟨m, rfl⟩ : ∃ m, n = m + 1 := ⟨n - 1, by omega⟩
  intro x hx
  rw [Nat.add_sub_cancel]
  by_cases e : x = m + 1 - 1 - m
  · have h1 := (ch_all hp (m + 1) (Nat.le_refl _)).1 x hx
    have h2 := (ch_all hp m (by omega)).1 x hx
    omega
  · exact ch_old p (m + 1) m x e
/-- the sum of f i for i below n -/
def smN (f : Nat → Nat) : Nat → Nat
  | 0 => 0
  | n + 1 => smN f n + f n
theorem sm_add (f g : Nat → Nat) : ∀ n, smN (fun i => f i + g i) n = smN f n + smN g n
  | 0 => rfl
  | n + 1 => by
    show smN (fun i => f i + g i) n + (f n + g n) = smN f n + f n + (smN g n + g n)
    rw [sm_add f g n]; omega
theorem sm_le {f : Nat → Nat} : ∀ {n}, (∀ i, i < n → f i ≤ 1) → smN f n ≤ n
  | 0, _ => Nat.le_refl _
  | n + 1, h => by
    have h1 := sm_le (n := n) (fun i hi => h i (by omega))
    have h2 := h n (by omega)
    show smN f n + f n ≤ n + 1
    omega
theorem sm_full {f : Nat → Nat} : ∀ {n}, (∀ i, i < n → f i ≤ 1) → smN f n = n → ∀ i, i < n → f i = 1
  | 0, _, _, i, hi => by omega
  | n + 1, h, h0, i, hi => by
    have h1 := sm_le (f := f) (n := n) (fun i hi => h i (by omega))
    have h2 := h n (by omega)
    have h3 : smN f n + f n = n + 1 := h0
    by_cases e : i = n
    · subst e; omega
    · exact sm_full (n := n) (fun i hi => h i (by omega)) (by omega) i (by omega)
theorem sm_ones {f : Nat → Nat} : ∀ {n}, (∀ i, i < n → f i = 1) → smN f n = n
  | 0, _ => rfl
  | n + 1, h => by
    show smN f n + f n = n + 1
    rw [sm_ones (fun i hi => h i (by omega)), h n (by omega)]
theorem sm_zero {f : Nat → Nat} : ∀ {n}, (∀ i, i < n → f i = 0) → smN f n = 0
  | 0, _ => rfl
  | n + 1, h => by
    show smN f n + f n = 0
    rw [sm_zero (fun i hi => h i (by omega)), h n (by omega)]
/-- one at the number x -/
def at1 (x : Int) (i : Nat) : Nat := if x = (i : Int) then 1 else 0
theorem sm_at1 (x : Int) : ∀ n : Nat, smN (at1 x) n = if 0 ≤ x ∧ x < (n : Int) then 1 else 0
  | 0 => by
    show 0 = _
    rw [if_neg (by omega)]
  | n + 1 => by
    show smN (at1 x) n + (if x = (n : Int) then 1 else 0) = _
    rw [sm_at1 x n]
    by_cases e : x = (n : Int)
    · rw [if_neg (by omega), if_pos e, if_pos (by omega)]
    · rw [if_neg e]
      by_cases e2 : 0 ≤ x ∧ x < (n : Int)
      · rw [if_pos e2, if_pos (by omega)]
      · rw [if_neg e2, if_neg (by omega)]
/-- how often i is among the first m -/
def cntI (p : List Int) (i : Nat) : Nat → Nat
  | 0 => 0
  | m + 1 => cntI p i m + at1 (p.getD m 0) i
/-- how many of the first m are below n -/
def inrI (p : List Int) (n : Nat) : Nat → Nat
  | 0 => 0
  | m + 1 => inrI p n m + if 0 ≤ p.getD m 0 ∧ p.getD m 0 < (n : Int) then 1 else 0
theorem sm_cnt (p : List Int) (n : Nat) : ∀ m, smN (fun i => cntI p i m) n = inrI p n m
  | 0 => sm_zero (fun i _ => rfl)
  | m + 1 => by
    have h := sm_add (fun i => cntI p i m) (at1 (p.getD m 0)) n
    show smN (fun i => cntI p i m + at1 (p.getD m 0) i) n = _
    rw [h, sm_cnt p n m, sm_at1]; rfl
theorem inr_le (p : List Int) (n : Nat) : ∀ m, inrI p n m ≤ m
  | 0 => Nat.le_refl _
  | m + 1 => by
    have := inr_le p n m
    show inrI p n m + (if _ then 1 else 0) ≤ m + 1
    split <;> omega
theorem inr_full {p : List Int} {n : Nat} : ∀ {m}, inrI p n m = m → ∀ j, j < m → 0 ≤ p.getD j 0 ∧ p.getD j 0 < (n : Int)
  | 0, _, j, hj => by omega
  | m + 1, h, j, hj => by
    have h1 := inr_le p n m
    have h2 : inrI p n m + (if 0 ≤ p.getD m 0 ∧ p.getD m 0 < (n : Int) then 1 else 0) = m + 1 := h
    by_cases e : 0 ≤ p.getD m 0 ∧ p.getD m 0 < (n : Int)
    · rw [if_pos e] at h2
      by_cases e2 : j = m
      · subst e2; exact e
      · exact inr_full (m := m) (by omega) j (by omega)
    · rw [if_neg e] at h2; omega
theorem inr_of {p : List Int} {n : Nat} : ∀ {m}, (∀ j, j < m → 0 ≤ p.getD j 0 ∧ p.getD j 0 < (n : Int)) → inrI p n m = m
  | 0, _ => rfl
  | m + 1, h => by
    show inrI p n m + (if _ then 1 else 0) = m + 1
    rw [inr_of (fun j hj => h j (by omega)), if_pos (h m (by omega))]
theorem cnt_pos {p : List Int} {i : Nat} : ∀ {m}, 0 < cntI p i m → ∃ j, j < m ∧ p.getD j 0 = (i : Int)
  | 0, h => absurd h (by show ¬ 0 < 0; omega)
  | m + 1, h => by
    have h' : 0 < cntI p i m + (if p.getD m 0 = (i : Int) then 1 else 0) := h
    by_cases e : p.getD m 0 = (i : Int)
    · exact ⟨m, by omega, e⟩
    · rw [if_neg e] at h'
      obtain ⟨j, hj, he⟩ := cnt_pos (m := m) (by omega)
      exact ⟨j, by omega, he⟩
theorem cnt_seen {p : List Int} {i : Nat} : ∀ {m j}, j < m → p.getD j 0 = (i : Int) → 0 < cntI p i m
  | 0, j, h, _ => by omega
  | m + 1, j, h, he => by
    show 0 < cntI p i m + (if p.getD m 0 = (i : Int) then 1 else 0)
    by_cases e : j = m
    · subst e; rw [if_pos he]; omega
    · have := cnt_seen (m := m) (by omega) he; omega
theorem cnt_two {p : List Int} {i : Nat} : ∀ {m j k}, j < k → k < m → p.getD j 0 = (i : Int) → p.getD k 0 = (i : Int) → 2 ≤ cntI p i m
  | 0, j, k, _, h, _, _ => by omega
  | m + 1, j, k, h1, h2, hj, hk => by
    show 2 ≤ cntI p i m + (if p.getD m 0 = (i : Int) then 1 else 0)
    by_cases e : k = m
    · subst e; rw [if_pos hk]; have := cnt_seen (m := k) h1 hj; omega
    · have := cnt_two (m := m) h1 (by omega) hj hk; omega
theorem cnt_one {p : List Int} {i : Nat} : ∀ {m}, (∀ j k, j < k → k < m → p.getD j 0 ≠ p.getD k 0) → cntI p i m ≤ 1
  | 0, _ => Nat.zero_le _
  | m + 1, h => by
    show cntI p i m + (if p.getD m 0 = (i : Int) then 1 else 0) ≤ 1
    have h1 := cnt_one (i := i) (m := m) (fun j k a b => h j k a (by omega))
    by_cases e : p.getD m 0 = (i : Int)
    · rcases Nat.eq_zero_or_pos (cntI p i m) with z | z
      · rw [z]; split <;> omega
      · obtain ⟨j, hj, he⟩ := cnt_pos z
        exact absurd (he.trans e.symm) (h j m hj (by omega))
    · rw [if_neg e]; omega
/-- a list is an order: all its numbers are below its length, no two are the same -/
def isO (p : List Int) : Prop := (∀ j, j < p.length → 0 ≤ p.getD j 0 ∧ p.getD j 0 < (p.length : Int)) ∧ ∀ j k, j < k → k < p.length → p.getD j 0 ≠ p.getD k 0
theorem isO_cnt (p : List Int) : isO p ↔ ∀ i, i < p.length → cntI p i p.length = 1 := by
  constructor
  · rintro ⟨h1, h2⟩
    have hs := sm_cnt p p.length p.length
    rw [inr_of h1] at hs
    exact sm_full (fun i _ => cnt_one h2) hs
  · intro h
    have hs := sm_cnt p p.length p.length
    rw [sm_ones h] at hs
    have h1 := inr_full hs.symm
    refine ⟨h1, fun j k hjk hk he => ?_⟩
    obtain ⟨i, hi⟩ : ∃ i : Nat, p.getD k 0 = (i : Int) := ⟨(p.getD k 0).toNat, by have := h1 k hk; omega⟩
    have h2 := h1 k hk
    have := cnt_two hjk hk (he.trans hi) hi
    have := h i (by omega)
    omega
theorem isO_on {p : List Int} (h : isO p) {i : Nat} (hi : i < p.length) : ∃ j, j < p.length ∧ p.getD j 0 = (i : Int) := by
  have := (isO_cnt p).1 h i hi
  exact cnt_pos (by omega)
/-- a list as a function -/
def fnI (p : List Int) (x : Nat) : Nat := (p.getD x 0).toNat
theorem fnI_or {p : List Int} (h : isO p) : orF (fnI p) p.length := by
  refine ⟨fun x hx => by have := h.1 x hx; unfold fnI; omega, fun x y hx hy he => ?_⟩
  have h1 := h.1 x hx
  have h2 := h.1 y hy
  unfold fnI at he
  have h3 : p.getD x 0 = p.getD y 0 := by omega
  rcases Nat.lt_trichotomy x y with c | c | c
  · exact absurd h3 (h.2 x y c hy)
  · exact c
  · exact absurd h3.symm (h.2 y x c hx)
/-- a function as a list -/
def liI (f : Nat → Nat) (n : Nat) : List Int := (List.range n).map fun x => ((f x : Nat) : Int)
theorem liI_len (f : Nat → Nat) (n : Nat) : (liI f n).length = n := by unfold liI; simp
theorem liI_get (f : Nat → Nat) {n x : Nat} (h : x < n) : (liI f n).getD x 0 = (f x : Int) := by
  unfold liI; rw [List.getD_eq_getElem?_getD, List.getElem?_map, List.getElem?_range h]; rfl
theorem liI_ext {f g : Nat → Nat} {n : Nat} (h : ∀ x, x < n → f x = g x) : liI f n = liI g n := by
  unfold liI
  apply List.map_congr_left
  intro x hx
  rw [h x (List.mem_range.1 hx)]
theorem li_fn {p : List Int} (h : ∀ j, j < p.length → 0 ≤ p.getD j 0) : liI (fnI p) p.length = p := by
  apply ints_eq (n := p.length) (liI_len _ _) rfl
  intro j hj
  rw [liI_get _ hj]
  have := h j hj
  unfold fnI; omega
theorem liI_set (f : Nat → Nat) {n i : Nat} (v : Nat) (h : i < n) : (liI f n).set i (v : Int) = liI (fun x => if x = i then v else f x) n := by
  apply ints_eq (n := n) (by rw [List.length_set, liI_len]) (liI_len _ _)
  intro j hj
  rw [liI_get _ hj, List.getD_eq_getElem?_getD, List.getElem?_set, liI_len]
  by_cases e : i = j
  · subst e; rw [if_pos rfl, if_pos h, if_pos rfl]; rfl
  · rw [if_neg e, ← List.getD_eq_getElem?_getD, liI_get _ hj, if_neg (fun e2 => e e2.symm)]
/-- an exchange in a list: first one place, then the other one -/
theorem liI_sw (f : Nat → Nat) {n i j : Nat} (hi : i < n) (hj : j < n) : ((liI f n).set i (f j : Int)).set j (f i : Int) = liI (sw f i j) n := by
  rw [liI_set f (f j) hi, liI_set _ (f i) hj]
  apply liI_ext
  intro x _
  rfl
/-- whether a list may be choices -/
def rtI (c : List Int) : Prop := ∀ i, i < c.length → 0 ≤ c.getD i 0 ∧ c.getD i 0 ≤ (i : Int)
theorem rtI_F {c : List Int} (h : rtI c) : rtF (fnI c) c.length := fun i hi => by have := h i hi; unfold fnI; omega
/-- the order that choices make -/
def pmI (c : List Int) : List Int := liI (stF (fnI c) c.length c.length) c.length
/-- the choices that make an order -/
def chI (p : List Int) : List Int := liI (chC (fnI p) p.length p.length) p.length
theorem pmI_len (c : List Int) : (pmI c).length = c.length := liI_len _ _
theorem chI_len (c : List Int) : (chI c).length = c.length := liI_len _ _
theorem pmI_or {c : List Int} (h : rtI c) : isO (pmI c) := by
  have hr := rtI_F h
  refine ⟨fun j hj => ?_, fun j k hjk hk he => ?_⟩
  · rw [pmI_len] at hj ⊢
    unfold pmI
    rw [liI_get _ hj]
    have := st_lt hr c.length (Nat.le_refl _) j hj
    omega
  · rw [pmI_len] at hk
    unfold pmI at he
    rw [liI_get _ hk, liI_get _ (by omega)] at he
    have := st_inj hr (Nat.le_refl _) (show j < c.length by omega) hk (by omega)
    omega
theorem chI_rt {p : List Int} (h : isO p) : rtI (chI p) := by
  intro i hi
  rw [chI_len] at hi
  unfold chI
  rw [liI_get _ hi]
  have := (ch_leads (fnI_or h)).1 i hi
  omega
theorem fnI_li (f : Nat → Nat) {n x : Nat} (h : x < n) : fnI (liI f n) x = f x := by unfold fnI; rw [liI_get f h]; omega
theorem pm_ch {p : List Int} (h : isO p) : pmI (chI p) = p := by
  unfold pmI
  rw [chI_len]
  have e : stF (fnI (chI p)) p.length p.length = stF (chC (fnI p) p.length p.length) p.length p.length := st_congr _ (fun j hj => by unfold chI; exact fnI_li _ (by omega))
  rw [e]
  refine Eq.trans (liI_ext fun x hx => (ch_leads (fnI_or h)).2 x hx) ?_
  exact li_fn (fun j hj => (h.1 j hj).1)
theorem ch_pm {c : List Int} (h : rtI c) : chI (pmI c) = c := by
  unfold chI
  rw [pmI_len]
  refine Eq.trans (liI_ext (g := fnI c) fun x hx => ?_) (li_fn (fun j hj => (h j hj).1))
  have e : ∀ k, k ≤ c.length → ∀ x, c.length ≤ x + k → x < c.length → chC (fnI (pmI c)) c.length k x = chC (stF (fnI c) c.length c.length) c.length k x := by
    intro k
    induction k with
    | zero => intro _ x h1 h2; omega
    | succ k ih =>
      intro hk x h1 h2
      by_cases e : x = c.length - 1 - k
      · subst e
        rw [ch_at, ch_at, in_congr k (fun j hj => ih (by omega) _ (by omega) (by omega))]
        unfold pmI
        rw [fnI_li _ h2]
      · rw [ch_old _ _ k x e, ch_old _ _ k x e]; exact ih (by omega) x (by omega) h2
  rw [e c.length (Nat.le_refl _) x (by omega) hx]
  exact ch_only (rtI_F h) c.length (Nat.le_refl _) x (by omega) hx
end Go.Bv
namespace Go.Bv
open Go Go.RowKit
theorem ow_shape {w : World} {base n : Nat} {e : TypeId} {v : Value} {xs : List Value} (h : w.ownsRow base e 1 v n xs) (h0 : 0 < n) : ∃ g cap, v = .slice (some ⟨g, 0, none⟩) n cap ∧ base ≤ g ∧ g < w.heap.size ∧ n ≤ cap ∧ cap ≤ 9223372036854775807 := by
  obtain ⟨hl, h | ⟨g, cap, cur, hv, hb, hc, h2, h3, _⟩⟩ := h
  · omega
  · exact ⟨g, cap, hv, hb, lt_of_block hc, h2, by unfold maxLen at h3; omega⟩
theorem ow_set {w : World} {base g n cap : Nat} {e : TypeId} {xs : List Value} (h : w.ownsRow base e 1 (.slice (some ⟨g, 0, none⟩) n cap) n xs) (k : Nat) (u : Value) : (w.setCell ⟨g, k, none⟩ u).ownsRow base e 1 (.slice (some ⟨g, 0, none⟩) n cap) n (xs.set k u) := by
  obtain ⟨hl, h | ⟨g', cap', cur, hv, hb, hc, h1, h2, h3, h4⟩⟩ := h
  · cases h.1
  · injection hv with e1 e2 e3
    cases e1; subst e3
    refine ⟨by rw [List.length_set]; exact hl, Or.inr ⟨g, cap, cur.setIfInBounds k u, rfl, hb, heap_setCell_same _ _ _ _ _ _ hc, h1, h2, by rw [Array.size_setIfInBounds]; exact h3, ?_⟩⟩
    rw [Array.toList_setIfInBounds, List.take_set, h4]
theorem ow_far {w : World} {base n : Nat} {e : TypeId} {v : Value} {xs : List Value} (h : w.ownsRow base e 1 v n xs) {a : Addr} (hv : v.ownBlock ≠ some a.block) (u : Value) : (w.setCell a u).ownsRow base e 1 v n xs := by
  obtain ⟨hl, h | ⟨g', cap', cur, rfl, hb, hc, h2⟩⟩ := h
  · exact ⟨hl, Or.inl h⟩
  · exact ⟨hl, Or.inr ⟨g', cap', cur, rfl, hb, (heap_setCell_other _ _ _ _ (fun e => hv (by rw [← e]; rfl))).trans hc, h2⟩⟩
theorem ow_cell {w : World} {base g n cap : Nat} {e : TypeId} {xs : List Value} (h : w.ownsRow base e 1 (.slice (some ⟨g, 0, none⟩) n cap) n xs) {k : Nat} {u : Value} (hu : xs[k]? = some u) : w.cell? ⟨g, k, none⟩ = some u ∧ w.frozen? ⟨g, k, none⟩ = false := by
  obtain ⟨hl, h | ⟨g', cap', cur, hv, hb, hc, h1, h2, h3, h4⟩⟩ := h
  · cases h.1
  · injection hv with e1 e2 e3
    cases e1
    refine ⟨?_, frozen_of_row _ _ _ _ _ hc⟩
    rw [cell_of_row _ _ _ _ _ _ hc, ← Array.getElem?_toList, ← hu, ← h4, List.getElem?_take, if_pos]
    rw [List.getElem?_eq_some_iff] at hu
    obtain ⟨h5, _⟩ := hu
    omega
theorem ow_new {w w' : World} {base : Nat} {e : TypeId} {size : Nat} {v : Value} {n : Nat} {xs : List Value} (h : w.ownsRow base e size v n xs) (hn : New w w') : w'.ownsRow base e size v n xs := by
  refine ⟨h.1, ?_⟩
  rcases h.2 with h2 | ⟨g, cap, cur, hv, hb, hg, rest⟩
  · exact .inl h2
  · exact .inr ⟨g, cap, cur, hv, hb, (hn.block _ (lt_of_block hg)).trans hg, rest⟩
theorem ow_base {w : World} {b b' : Nat} {e : TypeId} {size : Nat} {v : Value} {n : Nat} {xs : List Value} (h : w.ownsRow b e size v n xs) (hb : b' ≤ b) : w.ownsRow b' e size v n xs := by
  refine ⟨h.1, ?_⟩
  rcases h.2 with h2 | ⟨g, cap, cur, hv, hg, rest⟩
  · exact .inl h2
  · exact .inr ⟨g, cap, cur, hv, by omega, rest⟩
/-- two rows of unlike worlds lie apart -/
theorem ow_apart {w w' : World} {b : Nat} {e e' : TypeId} {v v' : Value} {n n' : Nat} {xs xs' : List Value} (h : w.ownsRow b e 1 v n xs) (h' : w'.ownsRow w.heap.size e' 1 v' n' xs') : ∀ k, v.ownBlock = some k → v'.ownBlock ≠ some k := by
  intro k hk hk'
  have h1 := own_base h' k hk'
  rcases h.2 with ⟨rfl, _⟩ | ⟨g, cap, cur, rfl, _, hc, _⟩
  · cases hk
  · have hk2 : g = k := by simpa [Value.ownBlock] using hk
    have := lt_of_block hc
    omega
/-- a row of integers of one's own at an index -/
theorem ow_int {w : World} {base g n cap : Nat} {e : TypeId} {l : List Int} (h : w.ownsRow base e 1 (.slice (some ⟨g, 0, none⟩) n cap) n (l.map fun x => .int .i64 x)) {k : Nat} (hk : k < n) : w.cell? ⟨g, k, none⟩ = some (.int .i64 (l.getD k 0)) ∧ w.frozen? ⟨g, k, none⟩ = false := by
  have hl : l.length = n := by have := h.1; simpa using this
  refine ow_cell h ?_
  rw [List.getElem?_map, List.getD_eq_getElem?_getD, List.getElem?_eq_getElem (by omega)]; rfl
theorem ow_bool {w : World} {base g n cap : Nat} {e : TypeId} {l : List Bool} (h : w.ownsRow base e 1 (.slice (some ⟨g, 0, none⟩) n cap) n (l.map fun x => .bool x)) {k : Nat} (hk : k < n) : w.cell? ⟨g, k, none⟩ = some (.bool (l.getD k false)) ∧ w.frozen? ⟨g, k, none⟩ = false := by
  have hl : l.length = n := by have := h.1; simpa using this
  refine ow_cell h ?_
  rw [List.getElem?_map, List.getD_eq_getElem?_getD, List.getElem?_eq_getElem (by omega)]; rfl
/-- cells that were just made are a row of one's own -/
theorem ow_made (w : World) (base : Nat) (e : TypeId) (cs : Array Value) (n : Nat) (xs : List Value) (hb : base ≤ w.heap.size) (hn : n ≤ 17592186044416) (hx : cs.toList = xs) (hl : xs.length = n) : (w.alloc (.cells cs e)).ownsRow base e 1 (.slice (some ⟨w.heap.size, 0, none⟩) n n) n xs := by
  refine ⟨by omega, .inr ⟨w.heap.size, n, cs, rfl, hb, heap_alloc_new _ _, Nat.le_refl _, by unfold maxLen; omega, ?_, ?_⟩⟩
  · rw [← Array.length_toList, hx]; omega
  · rw [hx, List.take_of_length_le (by omega)]
theorem made_toList (v : Value) (n : Nat) : (madeCells #[v] n).toList = List.replicate n v := toList_madeCells_one _ _
end Go.Bv
