/- Plain lemmas: rows of letters, the sum of a row's entries, and words that are changed so that up to three rows' sums change as wanted. -/
import Derived.Test.YtadkbpdbbgjkgaaBv
namespace Go.Tab
set_option linter.unusedVariables false
/-- the sum of the first m entries of a row -/
def sm (c : Nat → BitVec 64) (r : Nat → Nat) : Nat → BitVec 64
  | 0 => 0#64
  | k + 1 => sm c r k ^^^ c (16 * k + r k)
def up (c : Nat → BitVec 64) (e : Nat) (v : BitVec 64) : Nat → BitVec 64 := fun j => if j = e then v else c j
theorem sm_far (c : Nat → BitVec 64) (r : Nat → Nat) (e : Nat) (v : BitVec 64) : ∀ m : Nat, (∀ i, i < m → 16 * i + r i ≠ e) → sm (up c e v) r m = sm c r m
  | 0, h => rfl
  | m + 1, h => by
    show sm (up c e v) r m ^^^ up c e v (16 * m + r m) = sm c r m ^^^ c (16 * m + r m)
    rw [sm_far c r e v m (fun i hi => h i (by omega))]
    unfold up
    rw [if_neg (h m (by omega))]
theorem ent_inj {r s : Nat → Nat} {i j : Nat} (hr : r i < 16) (hs : s j < 16) (h : 16 * i + r i = 16 * j + s j) : i = j ∧ r i = s j := by omega
theorem sm_here (c : Nat → BitVec 64) (r : Nat → Nat) (p : Nat) (d : BitVec 64) : ∀ m : Nat, p < m → (∀ i, i < m → r i < 16) → sm (up c (16 * p + r p) (c (16 * p + r p) ^^^ d)) r m = sm c r m ^^^ d
  | 0, hp, h => absurd hp (by omega)
  | m + 1, hp, h => by
    show sm _ r m ^^^ up c (16 * p + r p) _ (16 * m + r m) = (sm c r m ^^^ c (16 * m + r m)) ^^^ d
    by_cases e : p = m
    · subst e
      rw [sm_far c r _ _ p (fun i hi he => by have := (ent_inj (h i (by omega)) (h p (by omega)) he).1; omega)]
      unfold up
      rw [if_pos rfl, BitVec.xor_assoc]
    · rw [sm_here c r p d m (by omega) (fun i hi => h i (by omega))]
      have : up c (16 * p + r p) (c (16 * p + r p) ^^^ d) (16 * m + r m) = c (16 * m + r m) := by
        unfold up
        rw [if_neg (fun he => e (ent_inj (h m (by omega)) (h p (by omega)) he).1.symm)]
      rw [this, BitVec.xor_assoc, BitVec.xor_assoc, BitVec.xor_comm d]
/-- sums of changes -/
theorem sm_xor (c d : Nat → BitVec 64) (r : Nat → Nat) : ∀ m : Nat, sm (fun j => c j ^^^ d j) r m = sm c r m ^^^ sm d r m
  | 0 => by simp [sm]
  | m + 1 => by
    show sm _ r m ^^^ (c (16 * m + r m) ^^^ d (16 * m + r m)) = (sm c r m ^^^ c (16 * m + r m)) ^^^ (sm d r m ^^^ d (16 * m + r m))
    rw [sm_xor c d r m]
    generalize c (16 * m + r m) = x
    generalize d (16 * m + r m) = y
    rw [BitVec.xor_assoc, BitVec.xor_assoc, ← BitVec.xor_assoc (sm d r m), BitVec.xor_comm (sm d r m) x, BitVec.xor_assoc]
theorem sm_zero (r : Nat → Nat) : ∀ m : Nat, sm (fun _ => 0#64) r m = 0#64
  | 0 => rfl
  | m + 1 => by show sm _ r m ^^^ 0#64 = 0#64; rw [sm_zero r m]; rfl
/-- of the rows that are left the row i alone has its entry at p -/
def own (n : Nat) (R : Nat → Nat → Nat) (left : Nat → Bool) (i p : Nat) : Bool := left i && (List.range n).all fun j => !(left j && decide (j ≠ i) && decide (R j p = R i p))
theorem own_iff {n : Nat} {R : Nat → Nat → Nat} {left : Nat → Bool} {i p : Nat} : own n R left i p = true ↔ left i = true ∧ ∀ j, j < n → left j = true → j ≠ i → R j p ≠ R i p := by
  unfold own
  simp only [Bool.and_eq_true, List.all_eq_true, List.mem_range, Bool.not_eq_true', Bool.and_eq_false_iff, decide_eq_false_iff_not, ne_eq, Decidable.not_not]
  constructor
  · rintro ⟨h1, h2⟩
    refine ⟨h1, fun j hj hl hne => ?_⟩
    rcases h2 j hj with (h | h) | h
    · rw [hl] at h; cases h
    · exact absurd h hne
    · exact h
  · rintro ⟨h1, h2⟩
    refine ⟨h1, fun j hj => ?_⟩
    cases hl : left j
    · exact Or.inl (Or.inl rfl)
    · by_cases e : j = i
      · exact Or.inl (Or.inr e)
      · exact Or.inr (h2 j hj hl e)
/-- the first row and place of that kind: places first, then rows -/
def pairs (m n : Nat) : List (Nat × Nat) := (List.range m).flatMap fun p => (List.range n).map fun i => (i, p)
def aloF (m n : Nat) (R : Nat → Nat → Nat) (left : Nat → Bool) : Nat × Nat := ((pairs m n).find? fun x => own n R left x.1 x.2).getD (0, 0)
theorem pairs_mem {m n : Nat} {x : Nat × Nat} : x ∈ pairs m n ↔ x.1 < n ∧ x.2 < m := by
  obtain ⟨i, p⟩ := x
  simp only [pairs, List.mem_flatMap, List.mem_range, List.mem_map, Prod.mk.injEq]
  constructor
  · rintro ⟨q, hq, j, hj, rfl, rfl⟩; exact ⟨hj, hq⟩
  · rintro ⟨h1, h2⟩; exact ⟨p, h2, i, h1, rfl, rfl⟩
theorem aloF_ok {m n : Nat} {R : Nat → Nat → Nat} {left : Nat → Bool} (h : ∃ i p, i < n ∧ p < m ∧ own n R left i p = true) :
    (aloF m n R left).1 < n ∧ (aloF m n R left).2 < m ∧ own n R left (aloF m n R left).1 (aloF m n R left).2 = true := by
  obtain ⟨i, p, hi, hp, ho⟩ := h
  unfold aloF
  cases hf : (pairs m n).find? fun x => own n R left x.1 x.2 with
  | none =>
    have := List.find?_eq_none.1 hf (i, p) (pairs_mem.2 ⟨hi, hp⟩)
    exact absurd ho this
  | some x =>
    have h1 := List.find?_some hf
    have h2 := pairs_mem.1 (List.mem_of_find?_eq_some hf)
    exact ⟨h2.1, h2.2, h1⟩
/-- what the search finds -/
theorem aloF_at {m n : Nat} {R : Nat → Nat → Nat} {left : Nat → Bool} {i p : Nat} (hi : i < n) (hp : p < m) (ho : own n R left i p = true)
    (h1 : ∀ q, q < p → ∀ j, j < n → own n R left j q = false) (h2 : ∀ j, j < i → own n R left j p = false) : aloF m n R left = (i, p) := by
  have e : pairs m n = (((List.range p).flatMap fun q => (List.range n).map fun j => (j, q)) ++ ((List.range i).map fun j => (j, p))) ++ (i, p) :: ((((List.range' (i + 1) (n - i - 1))).map fun j => (j, p)) ++ ((List.range' (p + 1) (m - p - 1)).flatMap fun q => (List.range n).map fun j => (j, q))) := by
    have em : List.range m = List.range p ++ p :: List.range' (p + 1) (m - p - 1) := by
      rw [List.range_eq_range', List.range_eq_range', show m = p + (1 + (m - p - 1)) by omega, ← List.range'_append_1, ← List.range'_append_1]
      simp [List.range'_one]
    have en : List.range n = List.range i ++ i :: List.range' (i + 1) (n - i - 1) := by
      rw [List.range_eq_range', List.range_eq_range', show n = i + (1 + (n - i - 1)) by omega, ← List.range'_append_1, ← List.range'_append_1]
      simp [List.range'_one]
    unfold pairs
    rw [em, List.flatMap_append, List.flatMap_cons]
    conv => lhs; rhs; lhs; rw [en, List.map_append, List.map_cons]
    simp [List.append_assoc]
  unfold aloF
  rw [e, List.find?_append, List.find?_eq_none.2, Option.none_or, List.find?_cons, ho]
  · rfl
  · intro x hx
    rw [List.mem_append] at hx
    rcases hx with hx | hx
    · obtain ⟨q, hq, hx⟩ := List.mem_flatMap.1 hx
      obtain ⟨j, hj, rfl⟩ := List.mem_map.1 hx
      rw [h1 q (List.mem_range.1 hq) j (List.mem_range.1 hj)]; decide
    · obtain ⟨j, hj, rfl⟩ := List.mem_map.1 hx
      rw [h2 j (List.mem_range.1 hj)]; decide
/-- one round of the order -/
def off (left : Nat → Bool) (i : Nat) : Nat → Bool := fun j => left j && decide (j ≠ i)
def plF (m n : Nat) (R : Nat → Nat → Nat) : Nat → (Nat → Bool) → List (Nat × Nat)
  | 0, left => []
  | k + 1, left => aloF m n R left :: plF m n R k (off left (aloF m n R left).1)
/-- how many are left -/
def cnt (left : Nat → Bool) : Nat → Nat
  | 0 => 0
  | k + 1 => cnt left k + (if left k then 1 else 0)
/-- changes: the last place first -/
def aim1 (m : Nat) (R : Nat → Nat → Nat) (by_ : Nat → BitVec 64) (c : Nat → BitVec 64) (x : Nat × Nat) : Nat → BitVec 64 :=
  up c (16 * x.2 + R x.1 x.2) (c (16 * x.2 + R x.1 x.2) ^^^ (sm c (R x.1) m ^^^ by_ x.1))
def aimF (m : Nat) (R : Nat → Nat → Nat) (by_ : Nat → BitVec 64) : List (Nat × Nat) → (Nat → BitVec 64)
  | [] => fun _ => 0#64
  | x :: l => aim1 m R by_ (aimF m R by_ l) x
/-- rows that are left: where each place is its row's own, all sums come out -/
theorem aim_sums {m n : Nat} {R : Nat → Nat → Nat} (by_ : Nat → BitVec 64) (hR : ∀ i p, i < n → p < m → R i p < 16) :
    ∀ (k : Nat) (left : Nat → Bool), (∀ left' : Nat → Bool, (∀ j, left' j = true → left j = true) → (∃ j, j < n ∧ left' j = true) → ∃ i p, i < n ∧ p < m ∧ own n R left' i p = true) →
      cnt left n = k → ∀ i, i < n → left i = true → sm (aimF m R by_ (plF m n R k left)) (R i) m = by_ i := by
  intro k
  induction k with
  | zero =>
    intro left _ hc i hi hl
    exfalso
    have : ∀ n, i < n → 0 < cnt left n := by
      intro n
      induction n with
      | zero => intro h; omega
      | succ n ih =>
        intro h
        show 0 < cnt left n + _
        by_cases e : i = n
        · subst e; rw [hl]; simp
        · have := ih (by omega); omega
    have := this n hi
    omega
  | succ k ih =>
    intro left hex hc i hi hl
    obtain ⟨g1, g2, g3⟩ := aloF_ok (hex left (fun _ h => h) ⟨i, hi, hl⟩)
    show sm (aim1 m R by_ (aimF m R by_ (plF m n R k (off left (aloF m n R left).1))) (aloF m n R left)) (R i) m = by_ i
    obtain ⟨⟨r, p⟩, hx⟩ : ∃ x, aloF m n R left = x := ⟨_, rfl⟩
    rw [hx] at g1 g2 g3 ⊢
    simp only at g1 g2 g3
    obtain ⟨o1, o2⟩ := own_iff.1 g3
    generalize hc2 : aimF m R by_ (plF m n R k (off left (r, p).1)) = c
    show sm (up c (16 * p + R r p) (c (16 * p + R r p) ^^^ (sm c (R r) m ^^^ by_ r))) (R i) m = by_ i
    by_cases e : i = r
    · subst e
      rw [sm_here c (R i) p _ m g2 (fun j hj => hR i j hi hj), ← BitVec.xor_assoc, BitVec.xor_self, BitVec.zero_xor]
    · rw [sm_far c (R i) _ _ m (fun j hj he => ?_)]
      · rw [← hc2]
        refine ih (off left r) (fun left' h1 h2 => hex left' (fun j hj => ?_) h2) ?_ i hi ?_
        · have := h1 j hj
          unfold off at this
          simp at this
          exact this.1
        · have hcount : ∀ n, r < n → cnt left n = cnt (off left r) n + 1 := by
            have hlow : ∀ n, n ≤ r → cnt (off left r) n = cnt left n := by
              intro n
              induction n with
              | zero => intro _; rfl
              | succ n ih2 =>
                intro h
                show cnt (off left r) n + _ = cnt left n + _
                rw [ih2 (by omega)]
                have : off left r n = left n := by unfold off; rw [decide_eq_true (by omega), Bool.and_true]
                rw [this]
            intro n
            induction n with
            | zero => intro h; omega
            | succ n ih2 =>
              intro h
              show cnt left n + _ = cnt (off left r) n + _ + 1
              by_cases e2 : r = n
              · subst e2
                rw [hlow r (Nat.le_refl _), o1]
                have : off left r r = false := by unfold off; simp
                rw [this]; simp
              · have : off left r n = left n := by unfold off; rw [decide_eq_true (by omega), Bool.and_true]
                rw [ih2 (by omega), this]
                omega
          have := hcount n g1
          omega
        · unfold off; rw [hl]; simp; exact e
      · obtain ⟨rfl, e2⟩ := ent_inj (hR i j hi hj) (hR r p g1 g2) he
        exact o2 i hi hl e e2
/-- of up to three rows that differ, one has an entry of its own somewhere -/
theorem own_ex {m n : Nat} {R : Nat → Nat → Nat} (hn : n ≤ 3) (hm : 0 < m) (hd : ∀ i j, i < n → j < n → i ≠ j → ∃ p, p < m ∧ R i p ≠ R j p) (left : Nat → Bool) (h : ∃ j, j < n ∧ left j = true) :
    ∃ i p, i < n ∧ p < m ∧ own n R left i p = true := by
  obtain ⟨i, hi, hl⟩ := h
  by_cases h2 : ∃ j, j < n ∧ left j = true ∧ j ≠ i
  · obtain ⟨j, hj, hlj, hji⟩ := h2
    obtain ⟨p, hp, hne⟩ := hd i j hi hj (fun e => hji e.symm)
    -- the third row, if it is left, has at p another entry than one of the two
    by_cases h3 : ∃ t, t < n ∧ left t = true ∧ t ≠ i ∧ t ≠ j ∧ R t p = R i p
    · obtain ⟨t, ht, hlt, hti, htj, he⟩ := h3
      refine ⟨j, p, hj, hp, own_iff.2 ⟨hlj, fun s hs hls hsj => ?_⟩⟩
      have : s = i ∨ s = t := by omega
      rcases this with rfl | rfl
      · exact hne
      · rw [he]; exact hne
    · refine ⟨i, p, hi, hp, own_iff.2 ⟨hl, fun s hs hls hsi he => ?_⟩⟩
      by_cases e : s = j
      · subst e; exact hne he.symm
      · exact h3 ⟨s, hs, hls, hsi, e, he⟩
  · refine ⟨i, 0, hi, hm, own_iff.2 ⟨hl, fun s hs hls hsi _ => h2 ⟨s, hs, hls, hsi⟩⟩⟩
theorem cnt_all : ∀ n : Nat, cnt (fun _ => true) n = n
  | 0 => rfl
  | n + 1 => by show cnt _ n + 1 = n + 1; rw [cnt_all n]
/-- the changes of Aim: all rows' sums come out -/
theorem aim_all {m n : Nat} {R : Nat → Nat → Nat} (by_ : Nat → BitVec 64) (hn : n ≤ 3) (hm : 0 < m) (hR : ∀ i p, i < n → p < m → R i p < 16) (hd : ∀ i j, i < n → j < n → i ≠ j → ∃ p, p < m ∧ R i p ≠ R j p) (i : Nat) (hi : i < n) :
    sm (aimF m R by_ (plF m n R n (fun _ => true))) (R i) m = by_ i :=
  aim_sums by_ hR n _ (fun left' _ h => own_ex hn hm hd left' h) (cnt_all n) i hi rfl
/-- which rows are left behind k rounds -/
def lfK (m n : Nat) (R : Nat → Nat → Nat) (left : Nat → Bool) : Nat → (Nat → Bool)
  | 0 => left
  | k + 1 => off (lfK m n R left k) (aloF m n R (lfK m n R left k)).1
theorem lfK_next (m n : Nat) (R : Nat → Nat → Nat) (left : Nat → Bool) : ∀ k : Nat, lfK m n R (off left (aloF m n R left).1) k = lfK m n R left (k + 1)
  | 0 => rfl
  | k + 1 => by
    show off (lfK m n R _ k) _ = off (lfK m n R left (k + 1)) _
    rw [lfK_next m n R left k]
theorem plF_snoc (m n : Nat) (R : Nat → Nat → Nat) : ∀ (k : Nat) (left : Nat → Bool), plF m n R (k + 1) left = plF m n R k left ++ [aloF m n R (lfK m n R left k)]
  | 0, left => rfl
  | k + 1, left => by
    show aloF m n R left :: plF m n R (k + 1) _ = (aloF m n R left :: plF m n R k _) ++ _
    rw [plF_snoc m n R k, lfK_next]
    rfl
theorem plF_len (m n : Nat) (R : Nat → Nat → Nat) : ∀ (k : Nat) (left : Nat → Bool), (plF m n R k left).length = k
  | 0, left => rfl
  | k + 1, left => by show (plF m n R k _).length + 1 = k + 1; rw [plF_len m n R k]
theorem off_low (left : Nat → Bool) (r : Nat) : ∀ n : Nat, n ≤ r → cnt (off left r) n = cnt left n
  | 0, _ => rfl
  | n + 1, h => by
    show cnt (off left r) n + _ = cnt left n + _
    rw [off_low left r n (by omega)]
    have : off left r n = left n := by unfold off; rw [decide_eq_true (by omega), Bool.and_true]
    rw [this]
theorem cnt_off (left : Nat → Bool) (r : Nat) (hl : left r = true) : ∀ n : Nat, r < n → cnt left n = cnt (off left r) n + 1
  | 0, h => absurd h (by omega)
  | n + 1, h => by
    show cnt left n + _ = cnt (off left r) n + _ + 1
    by_cases e2 : r = n
    · subst e2
      rw [off_low left r r (Nat.le_refl _), hl]
      have : off left r r = false := by unfold off; simp
      rw [this]; simp
    · have : off left r n = left n := by unfold off; rw [decide_eq_true (by omega), Bool.and_true]
      rw [cnt_off left r hl n (by omega), this]
      omega
theorem cnt_some (left : Nat → Bool) : ∀ n : Nat, 0 < cnt left n → ∃ j, j < n ∧ left j = true
  | 0, h => absurd h (by show ¬ 0 < 0; omega)
  | n + 1, h => by
    cases e : left n
    · have h2 : cnt left (n + 1) = cnt left n + (if left n then 1 else 0) := rfl
      rw [e] at h2
      obtain ⟨j, hj, hl⟩ := cnt_some left n (by simp at h2; omega)
      exact ⟨j, by omega, hl⟩
    · exact ⟨n, by omega, e⟩
/-- a row is found in each round -/
theorem lfK_ok {m n : Nat} {R : Nat → Nat → Nat} (hn : n ≤ 3) (hm : 0 < m) (hd : ∀ i j, i < n → j < n → i ≠ j → ∃ p, p < m ∧ R i p ≠ R j p) (left : Nat → Bool) (hc : cnt left n = n) :
    ∀ k : Nat, k ≤ n → cnt (lfK m n R left k) n = n - k
  | 0, _ => by rw [Nat.sub_zero]; exact hc
  | k + 1, h => by
    have ih := lfK_ok hn hm hd left hc k (by omega)
    have hs := cnt_some (lfK m n R left k) n (by omega)
    obtain ⟨g1, g2, g3⟩ := aloF_ok (own_ex hn hm hd (lfK m n R left k) hs)
    have := cnt_off (lfK m n R left k) _ (own_iff.1 g3).1 n g1
    show cnt (off (lfK m n R left k) _) n = _
    omega
theorem lfK_ex {m n : Nat} {R : Nat → Nat → Nat} (hn : n ≤ 3) (hm : 0 < m) (hd : ∀ i j, i < n → j < n → i ≠ j → ∃ p, p < m ∧ R i p ≠ R j p) (left : Nat → Bool) (hc : cnt left n = n) (k : Nat) (hk : k < n) :
    ∃ i p, i < n ∧ p < m ∧ own n R (lfK m n R left k) i p = true :=
  own_ex hn hm hd _ (cnt_some _ _ (by rw [lfK_ok hn hm hd left hc k (by omega)]; omega))
theorem cnt_below (N : Nat) : ∀ n : Nat, n ≤ N → cnt (fun j => decide (j < N)) n = n
  | 0, _ => rfl
  | n + 1, h => by show cnt _ n + (if decide (n < N) then 1 else 0) = n + 1; rw [cnt_below N n (by omega), decide_eq_true (by omega)]; rfl
/-- the changes of Aim, with the rows below n left at first -/
theorem aim_below {m n : Nat} {R : Nat → Nat → Nat} (by_ : Nat → BitVec 64) (hn : n ≤ 3) (hm : 0 < m) (hR : ∀ i p, i < n → p < m → R i p < 16) (hd : ∀ i j, i < n → j < n → i ≠ j → ∃ p, p < m ∧ R i p ≠ R j p) (i : Nat) (hi : i < n) :
    sm (aimF m R by_ (plF m n R n (fun j => decide (j < n)))) (R i) m = by_ i :=
  aim_sums by_ hR n _ (fun left' _ h => own_ex hn hm hd left' h) (cnt_below n n (Nat.le_refl _)) i hi (decide_eq_true hi)
end Go.Tab
