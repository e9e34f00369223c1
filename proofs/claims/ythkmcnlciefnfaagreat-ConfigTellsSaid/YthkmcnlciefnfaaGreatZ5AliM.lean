import Derived.Test.YthkmcnlciefnfaaGreatZ5Bv
/- Plain lemmas: columns made one by one (the alias method): the first that has less, the first that has more; sums; the weights that come out. -/
namespace Go.Ali
set_option linter.unusedVariables false
def fnd (p : Nat → Bool) (n : Nat) : Option Nat := (List.range n).find? p
theorem fnd_none {p : Nat → Bool} {n : Nat} : fnd p n = none ↔ ∀ i, i < n → p i = false := by
  unfold fnd
  rw [List.find?_eq_none]
  constructor
  · intro h i hi
    have := h i (List.mem_range.2 hi)
    cases e : p i
    · rfl
    · exact absurd e this
  · intro h x hx
    rw [h x (List.mem_range.1 hx)]
    decide
theorem fnd_at {p : Nat → Bool} {n j : Nat} (hj : j < n) (hp : p j = true) (h : ∀ i, i < j → p i = false) : fnd p n = some j := by
  unfold fnd
  have e : List.range n = List.range j ++ j :: List.range' (j + 1) (n - j - 1) := by
    rw [List.range_eq_range', List.range_eq_range', show n = j + (1 + (n - j - 1)) by omega, ← List.range'_append_1, ← List.range'_append_1]
    simp [List.range'_one]
  rw [e, List.find?_append, List.find?_eq_none.2 (fun x hx => by rw [h x (List.mem_range.1 hx)]; decide), Option.none_or, List.find?_cons, hp]
theorem fnd_some {p : Nat → Bool} {n j : Nat} (h : fnd p n = some j) : j < n ∧ p j = true ∧ ∀ i, i < j → p i = false := by
  unfold fnd at h
  have h1 := List.find?_some h
  have h2 := List.mem_range.1 (List.mem_of_find?_eq_some h)
  refine ⟨h2, h1, ?_⟩
  -- the least one
  have hex : ∃ k, k ≤ j ∧ p k = true ∧ ∀ i, i < k → p i = false := by
    have : ∀ m, m ≤ j + 1 → (∀ i, i < m → p i = false) ∨ ∃ k, k < m ∧ p k = true ∧ ∀ i, i < k → p i = false := by
      intro m
      induction m with
      | zero => intro _; exact Or.inl (fun i hi => absurd hi (by omega))
      | succ m ih =>
        intro hm
        rcases ih (by omega) with h0 | ⟨k, hk, hp, hl⟩
        · cases e : p m with
          | false => exact Or.inl (fun i hi => by
              by_cases e2 : i = m
              · subst e2; exact e
              · exact h0 i (by omega))
          | true => exact Or.inr ⟨m, by omega, e, h0⟩
        · exact Or.inr ⟨k, by omega, hp, hl⟩
    rcases this (j + 1) (Nat.le_refl _) with h0 | ⟨k, hk, hp, hl⟩
    · have := h0 j (by omega); rw [h1] at this; cases this
    · exact ⟨k, by omega, hp, hl⟩
  obtain ⟨k, hk, hp, hl⟩ := hex
  have := fnd_at (n := n) (by omega) hp hl
  unfold fnd at this
  rw [h] at this
  cases this
  exact hl
def upd {α : Type} (f : Nat → α) (j : Nat) (v : α) : Nat → α := fun i => if i = j then v else f i
theorem upd_same {α : Type} (f : Nat → α) (j : Nat) (v : α) : upd f j v j = v := by unfold upd; rw [if_pos rfl]
theorem upd_other {α : Type} (f : Nat → α) {i j : Nat} (v : α) (h : i ≠ j) : upd f j v i = f i := by unfold upd; rw [if_neg h]
structure St where
  has : Nat → BitVec 64
  fl : Nat → Bool
  be : Nat → BitVec 64
  al : Nat → Nat
def ls (T : BitVec 64) (s : St) : Nat → Bool := fun i => !s.fl i && decide ((s.has i).toNat < T.toNat)
def mo (T : BitVec 64) (s : St) : Nat → Bool := fun i => !s.fl i && decide (T.toNat < (s.has i).toNat)
/-- the column j filled up by g -/
def put (T : BitVec 64) (s : St) (j g : Nat) : St := ⟨upd s.has g (s.has g - (T - s.has j)), upd s.fl j true, upd s.be j (s.has j), upd s.al j g⟩
def stp (n : Nat) (T : BitVec 64) (s : St) : Option St :=
  match fnd (ls T s) n with
  | none => none
  | some j => match fnd (mo T s) n with
    | none => none
    | some g => some (put T s j g)
def run (n : Nat) (T : BitVec 64) : Nat → St → St
  | 0, s => s
  | m + 1, s => match stp n T s with
    | none => s
    | some s' => run n T m s'
theorem run_none {n : Nat} {T : BitVec 64} {s : St} (h : stp n T s = none) : ∀ m, run n T m s = s
  | 0 => rfl
  | m + 1 => by show (match stp n T s with | none => s | some s' => run n T m s') = s; rw [h]
theorem run_some {n : Nat} {T : BitVec 64} {s s' : St} (h : stp n T s = some s') (m : Nat) : run n T (m + 1) s = run n T m s' := by
  show (match stp n T s with | none => s | some s' => run n T m s') = _; rw [h]
theorem stp_no {n : Nat} {T : BitVec 64} {s : St} (h : fnd (ls T s) n = none) : stp n T s = none := by unfold stp; rw [h]
theorem stp_no2 {n : Nat} {T : BitVec 64} {s : St} (h : fnd (mo T s) n = none) : stp n T s = none := by
  unfold stp
  cases fnd (ls T s) n with
  | none => rfl
  | some j => simp only [h]
theorem stp_yes {n : Nat} {T : BitVec 64} {s : St} {j g : Nat} (h : fnd (ls T s) n = some j) (h2 : fnd (mo T s) n = some g) : stp n T s = some (put T s j g) := by unfold stp; rw [h]; simp only [h2]
/-- how many columns are open -/
def unf (fl : Nat → Bool) : Nat → Nat
  | 0 => 0
  | k + 1 => unf fl k + (if fl k then 0 else 1)
theorem unf_far (fl : Nat → Bool) (j : Nat) : ∀ n, n ≤ j → unf (upd fl j true) n = unf fl n
  | 0, _ => rfl
  | n + 1, h => by
    show unf (upd fl j true) n + _ = unf fl n + _
    rw [unf_far fl j n (by omega), upd_other _ _ (show n ≠ j by omega)]
theorem unf_put (fl : Nat → Bool) (j : Nat) (hj : fl j = false) : ∀ n, j < n → unf (upd fl j true) n + 1 = unf fl n
  | 0, h => absurd h (by omega)
  | n + 1, h => by
    show unf (upd fl j true) n + _ + 1 = unf fl n + _
    by_cases e : j = n
    · subst e
      rw [unf_far fl j j (Nat.le_refl _), upd_same, hj]; rfl
    · have := unf_put fl j hj n (by omega)
      rw [upd_other _ _ (show n ≠ j by omega)]
      omega
theorem unf_all : ∀ n, unf (fun _ => false) n = n
  | 0 => rfl
  | n + 1 => by show unf _ n + 1 = n + 1; rw [unf_all n]
/-- sums -/
def sm (f : Nat → Nat) : Nat → Nat
  | 0 => 0
  | k + 1 => sm f k + f k
theorem sm_congr {f g : Nat → Nat} : ∀ {n : Nat}, (∀ i, i < n → f i = g i) → sm f n = sm g n
  | 0, _ => rfl
  | n + 1, h => by show sm f n + f n = sm g n + g n; rw [sm_congr (fun i hi => h i (by omega)), h n (by omega)]
theorem sm_le {f : Nat → Nat} {b : Nat} : ∀ {n : Nat}, (∀ i, i < n → f i ≤ b) → sm f n ≤ n * b
  | 0, _ => by show 0 ≤ _; omega
  | n + 1, h => by
    show sm f n + f n ≤ _
    have h1 := sm_le (n := n) (fun i hi => h i (by omega))
    have h2 := h n (by omega)
    rw [Nat.add_mul, Nat.one_mul]; omega
/-- what the open columns have -/
def opn (s : St) : Nat → Nat := fun i => if s.fl i then 0 else (s.has i).toNat
/-- what holds of a table that is being made -/
def Bal (n : Nat) (T : BitVec 64) (s : St) : Prop := sm (opn s) n = T.toNat * unf s.fl n
theorem sub_nat {a b : BitVec 64} (h : b.toNat ≤ a.toNat) : (a - b).toNat = a.toNat - b.toNat := by
  rw [BitVec.toNat_sub]
  have := a.isLt
  have := b.isLt
  omega
theorem put_has {n : Nat} {T : BitVec 64} {s : St} {j g : Nat} (hj : fnd (ls T s) n = some j) (hg : fnd (mo T s) n = some g) : s.fl j = false ∧ s.fl g = false ∧ j < n ∧ g < n ∧ j ≠ g ∧ (s.has j).toNat < T.toNat ∧ T.toNat < (s.has g).toNat ∧ (s.has g - (T - s.has j)).toNat = (s.has g).toNat - (T.toNat - (s.has j).toNat) := by
  obtain ⟨h1, h2, _⟩ := fnd_some hj
  obtain ⟨g1, g2, _⟩ := fnd_some hg
  simp only [ls, Bool.and_eq_true, Bool.not_eq_true', decide_eq_true_eq] at h2
  simp only [mo, Bool.and_eq_true, Bool.not_eq_true', decide_eq_true_eq] at g2
  refine ⟨h2.1, g2.1, h1, g1, ?_, h2.2, g2.2, ?_⟩
  · intro e
    subst e
    omega
  · have h3 := sub_nat (a := T) (b := s.has j) (by omega)
    rw [sub_nat (by rw [h3]; omega), h3]
/-- what is there at first -/
def st0 (n : Nat) (T : BitVec 64) (w : Nat → BitVec 64) : St := ⟨fun i => BitVec.ofNat 64 n * w i, fun _ => false, fun _ => T, fun i => i⟩
end Go.Ali
