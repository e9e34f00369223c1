/- Plain lemmas: columns made one by one (the alias method): the first that has less, the first that has more; sums; the weights that come out. -/
import Derived.Test.YtfmibpgggmajdaaBv
namespace Go.Ali
set_option linter.unusedVariables false
def fnd (p : Nat → Bool) (n : Nat) : Option Nat := (List.range n).find? p
theorem fnd_none {p : Nat → Bool} {n : Nat} : fnd p n = none ↔ ∀ i, i < n → p i = false := by
  unfold fnd
  rw [List.find?_eq_none]
  constructor
  · intro h i hi
    have := h i (List.mem_range.2 hi)
    cases e : p i
    · rfl
    · exact absurd e this
  · intro h x hx
    rw [h x (List.mem_range.1 hx)]
    decide
theorem fnd_at {p : Nat → Bool} {n j : Nat} (hj : j < n) (hp : p j = true) (h : ∀ i, i < j → p i = false) : fnd p n = some j := by
  unfold fnd
  have e : List.range n = List.range j ++ j :: List.range' (j + 1) (n - j - 1) := by
    rw [List.range_eq_range', List.range_eq_range', show n = j + (1 + (n - j - 1)) by omega, ← List.range'_append_1, ← List.range'_append_1]
    simp [List.range'_one]
  rw [e, List.find?_append, List.find?_eq_none.2 (fun x hx => by rw [h x (List.mem_range.1 hx)]; decide), Option.none_or, List.find?_cons, hp]
theorem fnd_some {p : Nat → Bool} {n j : Nat} (h : fnd p n = some j) : j < n ∧ p j = true ∧ ∀ i, i < j → p i = false := by
  unfold fnd at h
  have h1 := List.find?_some h
  have h2 := List.mem_range.1 (List.mem_of_find?_eq_some h)
  refine ⟨h2, h1, ?_⟩
  -- the least one
  have hex : ∃ k, k ≤ j ∧ p k = true ∧ ∀ i, i < k → p i = false := by
    have : ∀ m, m ≤ j + 1 → (∀ i, i < m → p i = false) ∨ ∃ k, k < m ∧ p k = true ∧ ∀ i, i < k → p i = false := by
      intro m
      induction m with
      | zero => intro _; exact Or.inl (fun i hi => absurd hi (by omega))
      | succ m ih =>
        intro hm
        rcases ih (by omega) with h0 | ⟨k, hk, hp, hl⟩
        · cases e : p m with
          | false => exact Or.inl (fun i hi => by
              by_cases e2 : i = m
              · subst e2; exact e
              · exact h0 i (by omega))
          | true => exact Or.inr ⟨m, by omega, e, h0⟩
        · exact Or.inr ⟨k, by omega, hp, hl⟩
    rcases this (j + 1) (Nat.le_refl _) with h0 | ⟨k, hk, hp, hl⟩
    · have := h0 j (by omega); rw [h1] at this; cases this
    · exact ⟨k, by omega, hp, hl⟩
  obtain ⟨k, hk, hp, hl⟩ := hex
  have := fnd_at (n := n) (by omega) hp hl
  unfold fnd at this
  rw [h] at this
  cases this
  exact hl
def upd {α : Type} (f : Nat → α) (j : Nat) (v : α) : Nat → α := fun i => if i = j then v else f i
theorem upd_same {α : Type} (f : Nat → α) (j : Nat) (v : α) : upd f j v j = v := by unfold upd; rw [if_pos rfl]
theorem upd_other {α : Type} (f : Nat → α) {i j : Nat} (v : α) (h : i ≠ j) : upd f j v i = f i := by unfold upd; rw [if_neg h]
structure St where
  has : Nat → BitVec 64
  fl : Nat → Bool
  be : Nat → BitVec 64
  al : Nat → Nat
def ls (T : BitVec 64) (s : St) : Nat → Bool := fun i => !s.fl i && decide ((s.has i).toNat < T.toNat)
def mo (T : BitVec 64) (s : St) : Nat → Bool := fun i => !s.fl i && decide (T.toNat < (s.has i).toNat)
/-- the column j filled up by g -/
def put (T : BitVec 64) (s : St) (j g : Nat) : St := ⟨upd s.has g (s.has g - (T - s.has j)), upd s.fl j true, upd s.be j (s.has j), upd s.al j g⟩
def stp (n : Nat) (T : BitVec 64) (s : St) : Option St :=
  match fnd (ls T s) n with
  | none => none
  | some j => match fnd (mo T s) n with
    | none => none
    | some g => some (put T s j g)
def run (n : Nat) (T : BitVec 64) : Nat → St → St
  | 0, s => s
  | m + 1, s => match stp n T s with
    | none => s
    | some s' => run n T m s'
theorem run_none {n : Nat} {T : BitVec 64} {s : St} (h : stp n T s = none) : ∀ m, run n T m s = s
  | 0 => rfl
  | m + 1 => by show (match stp n T s with | none => s | some s' => run n T m s') = s; rw [h]
theorem run_some {n : Nat} {T : BitVec 64} {s s' : St} (h : stp n T s = some s') (m : Nat) : run n T (m + 1) s = run n T m s' := by
  show (match stp n T s with | none => s | some s' => run n T m s') = _; rw [h]
theorem stp_no {n : Nat} {T : BitVec 64} {s : St} (h : fnd (ls T s) n = none) : stp n T s = none := by unfold stp; rw [h]
theorem stp_no2 {n : Nat} {T : BitVec 64} {s : St} (h : fnd (mo T s) n = none) : stp n T s = none := by
  unfold stp
  cases fnd (ls T s) n with
  | none => rfl
  | some j => simp only [h]
theorem stp_yes {n : Nat} {T : BitVec 64} {s : St} {j g : Nat} (h : fnd (ls T s) n = some j) (h2 : fnd (mo T s) n = some g) : stp n T s = some (put T s j g) := by unfold stp; rw [h]; simp only [h2]
/-- how many columns are open -/
def unf (fl : Nat → Bool) : Nat → Nat
  | 0 => 0
  | k + 1 => unf fl k + (if fl k then 0 else 1)
theorem unf_far (fl : Nat → Bool) (j : Nat) : ∀ n, n ≤ j → unf (upd fl j true) n = unf fl n
  | 0, _ => rfl
  | n + 1, h => by
    show unf (upd fl j true) n + _ = unf fl n + _
    rw [unf_far fl j n (by omega), upd_other _ _ (show n ≠ j by omega)]
theorem unf_put (fl : Nat → Bool) (j : Nat) (hj : fl j = false) : ∀ n, j < n → unf (upd fl j true) n + 1 = unf fl n
  | 0, h => absurd h (by omega)
  | n + 1, h => by
    show unf (upd fl j true) n + _ + 1 = unf fl n + _
    by_cases e : j = n
    · subst e
      rw [unf_far fl j j (Nat.le_refl _), upd_same, hj]; rfl
    · have := unf_put fl j hj n (by omega)
      rw [upd_other _ _ (show n ≠ j by omega)]
      omega
theorem unf_all : ∀ n, unf (fun _ => false) n = n
  | 0 => rfl
  | n + 1 => by show unf _ n + 1 = n + 1; rw [unf_all n]
/-- sums -/
def sm (f : Nat → Nat) : Nat → Nat
  | 0 => 0
  | k + 1 => sm f k + f k
theorem sm_congr {f g : Nat → Nat} : ∀ {n : Nat}, (∀ i, i < n → f i = g i) → sm f n = sm g n
  | 0, _ => rfl
  | n + 1, h => by show sm f n + f n = sm g n + g n; rw [sm_congr (fun i hi => h i (by omega)), h n (by omega)]
theorem sm_upd (f : Nat → Nat) (j v : Nat) : ∀ n, j < n → sm (upd f j v) n + f j = sm f n + v
  | 0, h => absurd h (by omega)
  | n + 1, h => by
    show sm (upd f j v) n + upd f j v n + f j = sm f n + f n + v
    by_cases e : j = n
    · subst e
      rw [upd_same, sm_congr (f := upd f j v) (g := f) (fun i hi => upd_other _ _ (by omega))]
      omega
    · rw [upd_other _ _ (show n ≠ j by omega)]
      have := sm_upd f j v n (by omega)
      omega
theorem sm_le {f : Nat → Nat} {b : Nat} : ∀ {n : Nat}, (∀ i, i < n → f i ≤ b) → sm f n ≤ n * b
  | 0, _ => by show 0 ≤ _; omega
  | n + 1, h => by
    show sm f n + f n ≤ _
    have h1 := sm_le (n := n) (fun i hi => h i (by omega))
    have h2 := h n (by omega)
    rw [Nat.add_mul, Nat.one_mul]; omega
theorem sm_mul (f : Nat → Nat) (c : Nat) : ∀ n, sm (fun i => c * f i) n = c * sm f n
  | 0 => rfl
  | n + 1 => by show sm _ n + c * f n = c * (sm f n + f n); rw [sm_mul f c n, Nat.mul_add]
/-- what the open columns have -/
def opn (s : St) : Nat → Nat := fun i => if s.fl i then 0 else (s.has i).toNat
/-- what holds of a table that is being made -/
def Bal (n : Nat) (T : BitVec 64) (s : St) : Prop := sm (opn s) n = T.toNat * unf s.fl n
theorem bal_more {n : Nat} {T : BitVec 64} {s : St} (h : Bal n T s) {j : Nat} (hj : fnd (ls T s) n = some j) : ∃ g, fnd (mo T s) n = some g := by
  cases hm : fnd (mo T s) n with
  | some g => exact ⟨g, rfl⟩
  | none =>
    exfalso
    obtain ⟨h1, h2, _⟩ := fnd_some hj
    have hno := fnd_none.1 hm
    simp only [ls, Bool.and_eq_true, Bool.not_eq_true', decide_eq_true_eq] at h2
    have hle : ∀ i, i < n → s.fl i = false → (s.has i).toNat ≤ T.toNat := by
      intro i hi hf
      have := hno i hi
      simp only [mo, hf, Bool.not_false, Bool.true_and, decide_eq_false_iff_not] at this
      omega
    have : ∀ m, m ≤ n → sm (opn s) m + (if j < m then 1 else 0) ≤ T.toNat * unf s.fl m := by
      intro m
      induction m with
      | zero => intro _; rw [if_neg (by omega)]; exact Nat.zero_le _
      | succ m ih =>
        intro hm'
        have ih := ih (by omega)
        show sm (opn s) m + (if s.fl m then 0 else (s.has m).toNat) + _ ≤ T.toNat * (unf s.fl m + _)
        rw [Nat.mul_add]
        cases hf : s.fl m with
        | true =>
          have hjm : j ≠ m := fun e => by rw [e, hf] at h2; exact absurd h2.1 (by simp)
          simp only [if_pos]
          by_cases e : j < m
          · rw [if_pos e] at ih; rw [if_pos (show j < m + 1 by omega)]; simpa using ih
          · rw [if_neg e] at ih; rw [if_neg (show ¬ j < m + 1 by omega)]; simpa using ih
        | false =>
          have hl := hle m (by omega) hf
          by_cases e : j = m
          · rw [if_neg (show ¬ j < m by omega)] at ih
            rw [if_pos (show j < m + 1 by omega)]
            rw [e] at h2
            simp only [Bool.false_eq_true, if_false]
            omega
          · simp only [Bool.false_eq_true, if_false]
            by_cases e2 : j < m
            · rw [if_pos e2] at ih; rw [if_pos (show j < m + 1 by omega)]; omega
            · rw [if_neg e2] at ih; rw [if_neg (show ¬ j < m + 1 by omega)]; omega
    have := this n (Nat.le_refl _)
    rw [if_pos h1] at this
    unfold Bal at h
    omega
theorem sub_nat {a b : BitVec 64} (h : b.toNat ≤ a.toNat) : (a - b).toNat = a.toNat - b.toNat := by
  rw [BitVec.toNat_sub]
  have := a.isLt
  have := b.isLt
  omega
theorem put_has {n : Nat} {T : BitVec 64} {s : St} {j g : Nat} (hj : fnd (ls T s) n = some j) (hg : fnd (mo T s) n = some g) : s.fl j = false ∧ s.fl g = false ∧ j < n ∧ g < n ∧ j ≠ g ∧ (s.has j).toNat < T.toNat ∧ T.toNat < (s.has g).toNat ∧ (s.has g - (T - s.has j)).toNat = (s.has g).toNat - (T.toNat - (s.has j).toNat) := by
  obtain ⟨h1, h2, _⟩ := fnd_some hj
  obtain ⟨g1, g2, _⟩ := fnd_some hg
  simp only [ls, Bool.and_eq_true, Bool.not_eq_true', decide_eq_true_eq] at h2
  simp only [mo, Bool.and_eq_true, Bool.not_eq_true', decide_eq_true_eq] at g2
  refine ⟨h2.1, g2.1, h1, g1, ?_, h2.2, g2.2, ?_⟩
  · intro e
    subst e
    omega
  · have h3 := sub_nat (a := T) (b := s.has j) (by omega)
    rw [sub_nat (by rw [h3]; omega), h3]
theorem bal_put {n : Nat} {T : BitVec 64} {s : St} (h : Bal n T s) {j g : Nat} (hj : fnd (ls T s) n = some j) (hg : fnd (mo T s) n = some g) : Bal n T (put T s j g) := by
  obtain ⟨f1, f2, l1, l2, hne, c1, c2, c3⟩ := put_has hj hg
  unfold Bal at h ⊢
  have e : ∀ i, i < n → opn (put T s j g) i = upd (upd (opn s) g ((s.has g).toNat - (T.toNat - (s.has j).toNat))) j 0 i := by
    intro i hi
    unfold opn put
    simp only
    by_cases e1 : i = j
    · subst e1; rw [upd_same, upd_same]; rfl
    · rw [upd_other _ _ e1, upd_other _ _ e1]
      by_cases e2 : i = g
      · subst e2; rw [upd_same, upd_same, f2, c3]; rfl
      · rw [upd_other _ _ e2, upd_other _ _ e2]
  rw [sm_congr e]
  have s1 := sm_upd (opn s) g ((s.has g).toNat - (T.toNat - (s.has j).toNat)) n l2
  have s2 := sm_upd (upd (opn s) g ((s.has g).toNat - (T.toNat - (s.has j).toNat))) j 0 n l1
  rw [upd_other _ _ hne] at s2
  have o1 : opn s j = (s.has j).toNat := by unfold opn; rw [f1]; rfl
  have o2 : opn s g = (s.has g).toNat := by unfold opn; rw [f2]; rfl
  have u := unf_put s.fl j f1 n l1
  have hfl : (put T s j g).fl = upd s.fl j true := rfl
  rw [hfl]
  rw [o1] at s2
  rw [o2] at s1
  have hm : T.toNat * unf s.fl n = T.toNat * unf (upd s.fl j true) n + T.toNat := by rw [← u, Nat.mul_add, Nat.mul_one]
  omega
/-- what is there at first -/
def st0 (n : Nat) (T : BitVec 64) (w : Nat → BitVec 64) : St := ⟨fun i => BitVec.ofNat 64 n * w i, fun _ => false, fun _ => T, fun i => i⟩
theorem bal_start {n : Nat} {T : BitVec 64} {w : Nat → BitVec 64} (hn : n ≤ 256) (hw : ∀ i, i < n → (w i).toNat ≤ 4294967296) (hT : T.toNat = sm (fun i => (w i).toNat) n) : Bal n T (st0 n T w) := by
  unfold Bal
  have e : ∀ i, i < n → opn (st0 n T w) i = n * (w i).toNat := by
    intro i hi
    unfold opn st0
    simp only [Bool.false_eq_true, if_false]
    rw [BitVec.toNat_mul, BitVec.toNat_ofNat, Nat.mod_eq_of_lt (show n < 2 ^ 64 by omega)]
    have h1 := hw i hi
    have h2 : n * (w i).toNat ≤ 256 * 4294967296 := Nat.mul_le_mul hn h1
    exact Nat.mod_eq_of_lt (by omega)
  rw [sm_congr e, sm_mul, ← hT, Nat.mul_comm]
  show T.toNat * n = T.toNat * unf (fun _ => false) n
  rw [unf_all]
end Go.Ali
