/- strpoly: plain lemmas: the difference of two texts, its value, its roots. -/
import Derived.Test.YtiboncnfepnjcaaStrJ
import Derived.Test.YtiboncnfepnjcaaStrG
import Derived.Test.YtiboncnfepnjcaaPolG
namespace Go.Proofs.Ytiboncnfepnjcaa
open Go Go.RowKit Go.Bv
set_option linter.unusedVariables false
/-- the difference of two texts -/
def dfL (b c : List (BitVec 8)) : List (BitVec 64) := trimL (addL (monL b) ((monL c).map mn))
theorem map_get (f : BitVec 64 → BitVec 64) (h0 : f 0 = 0) (l : List (BitVec 64)) (i : Nat) : (l.map f).getD i 0 = f (l.getD i 0) := by
  by_cases h : i < l.length
  · rw [List.getD_eq_getElem?_getD, List.getElem?_map, List.getElem?_eq_getElem h, List.getD_eq_getElem?_getD, List.getElem?_eq_getElem h]; rfl
  · rw [getD_far _ _ (by rw [List.length_map]; omega), getD_far _ _ (by omega)]; exact h0.symm
theorem mn_zero : mn 0 = 0 := by decide
theorem fw_mn (x : BitVec 64) : fw (mn x) = 0 - fw x := by
  have h := fw_sb 0#64 x
  rw [fw_zero] at h
  rw [← h]
  unfold fw sb mn
  rw [mod_mp, mod_mp]
  show ff (mp _).toNat = ff (mp _).toNat
  rw [show (0#64 : BitVec 64).toNat = 0 from rfl, Nat.zero_add]
theorem sb_mn (x : BitVec 64) : mp (sb 0#64 x).toNat = mp (mn x).toNat := by
  apply mp_ff
  show fw _ = fw _
  rw [fw_mn, fw_sb, fw_zero]
/-- the program's way to it -/
theorem dfL_sb (b c : List (BitVec 8)) : trimL (addL (monL b) ((monL c).map (sb 0#64))) = dfL b c := by
  unfold dfL
  apply trimL_ext
  intro i
  rw [addL_cm, addL_cm]
  apply mp_congr
  rw [Nat.add_mod]
  conv => rhs; rw [Nat.add_mod]
  have e : nf ((monL c).map (sb 0#64)) i % PP = nf ((monL c).map mn) i % PP := by
    unfold nf
    rw [map_get _ (by decide) , map_get _ mn_zero]
    exact mp_iff.1 (sb_mn _)
  rw [e]
theorem XF_dfL (b c : List (BitVec 8)) (i : Nat) : XF (dfL b c) i = XF (monL b) i - XF (monL c) i := by
  unfold XF dfL
  rw [trimL_get, addL_cm, fw_mp, ff_add]
  unfold nf
  rw [map_get _ mn_zero]
  show fw _ + fw (mn _) = _
  rw [fw_mn]
  generalize fw ((monL b).getD i 0) = p
  generalize fw ((monL c).getD i 0) = q
  grind
theorem dfL_len (b c : List (BitVec 8)) : (dfL b c).length ≤ max (b.length / 7 + 1) (c.length / 7 + 1) + 1 := by
  unfold dfL
  have h := trimF_len (cm (addL (monL b) ((monL c).map mn))) (addL (monL b) ((monL c).map mn)).length
  have h2 := topF_le (cm (addL (monL b) ((monL c).map mn))) (addL (monL b) ((monL c).map mn)).length
  have h3 : (addL (monL b) ((monL c).map mn)).length = max (monL b).length (monL c).length := by unfold addL; rw [addP_len, List.length_map]
  rw [monL_len, monL_len] at h3
  unfold trimL
  rw [h]
  omega
theorem monL_lt (l : List (BitVec 8)) (i : Nat) : ((monL l).getD i 0).toNat < PP := by
  by_cases h : i < (monL l).length
  · rw [List.getD_eq_getElem?_getD, List.getElem?_eq_getElem h]
    have hm : (monL l)[i] ∈ (chL l).reverse ++ [1#64] := List.getElem_mem h
    show ((monL l)[i]).toNat < PP
    rw [List.mem_append, List.mem_reverse, List.mem_singleton] at hm
    rcases hm with h1 | h1
    · exact chL_lt l _ h1
    · rw [h1]; decide
  · rw [getD_far _ _ (by omega)]; decide
theorem monL_top (l : List (BitVec 8)) : (monL l).getD (l.length / 7 + 1) 0 = 1#64 := by
  unfold monL
  have h : (chL l).reverse.length = l.length / 7 + 1 := by rw [List.length_reverse, chL_len]
  rw [List.getD_eq_getElem?_getD, List.getElem?_append_right (by omega), h, Nat.sub_self]; rfl
theorem monL_inj {b c : List (BitVec 8)} (h : ∀ i, (monL b).getD i 0 = (monL c).getD i 0) : b = c := by
  have hl : b.length / 7 = c.length / 7 := by
    rcases Nat.lt_trichotomy (b.length / 7) (c.length / 7) with e | e | e
    · have h1 := h (c.length / 7 + 1)
      rw [monL_top, getD_far _ _ (by rw [monL_len]; omega)] at h1
      exact absurd h1 (by decide)
    · exact e
    · have h1 := h (b.length / 7 + 1)
      rw [monL_top, getD_far (monL c) _ (by rw [monL_len]; omega)] at h1
      exact absurd h1 (by decide)
  have hm : monL b = monL c := words_eq (n := b.length / 7 + 2) (monL_len b) (by rw [monL_len, hl]) (fun i _ => h i)
  unfold monL at hm
  have h2 := List.append_cancel_right hm
  exact chL_inj (List.reverse_inj.1 h2)
theorem dfL_same (b c : List (BitVec 8)) : dfL b c = [] ↔ b = c := by
  constructor
  · intro h
    apply monL_inj
    intro i
    have h1 := XF_dfL b c i
    rw [h] at h1
    have h2 : XF [] i = 0 := by unfold XF; rw [getD_far _ _ (by simp)]; exact fw_zero
    rw [h2] at h1
    apply fw_inj (monL_lt b i) (monL_lt c i)
    show XF (monL b) i = XF (monL c) i
    generalize XF (monL b) i = p at *
    generalize XF (monL c) i = q at *
    grind
  · rintro rfl
    have h0 : ∀ i, (dfL b b).getD i 0 = 0#64 := fun i => by
      apply fw_inj
      · unfold dfL; rw [trimL_get]; exact mp_lt _
      · decide
      · have := XF_dfL b b i
        unfold XF at this
        rw [this, fw_zero]
        generalize fw ((monL b).getD i 0) = p
        grind
    have h3 : (dfL b b).length = topF (cm (addL (monL b) ((monL b).map mn))) (addL (monL b) ((monL b).map mn)).length := by unfold dfL trimL; rw [trimF_len]
    rcases Nat.eq_zero_or_pos (dfL b b).length with e | e
    · exact List.eq_nil_of_length_eq_zero e
    · exfalso
      have h4 := topF_top _ _ (h3 ▸ e)
      rw [← h3, ← trimL_get] at h4
      exact h4 (h0 _)
theorem dfL_value (b c : List (BitVec 8)) (a : BitVec 64) : mp (nv (dfL b c) a) = 0#64 ↔ hor a (chL b) = hor a (chL c) := by
  have hN1 : (dfL b c).length ≤ max (b.length / 7 + 1) (c.length / 7 + 1) + 1 := dfL_len b c
  obtain ⟨N, hN⟩ : ∃ N, max (b.length / 7 + 1) (c.length / 7 + 1) + 1 = N := ⟨_, rfl⟩
  have e : ff (nv (dfL b c) a) = ff (nv (monL b) a) - ff (nv (monL c) a) := by
    rw [nv_pv _ _ N (by omega), nv_pv (monL b) _ N (by rw [monL_len]; omega), nv_pv (monL c) _ N (by rw [monL_len]; omega), ← pvF_sub]
    congr 1
    funext i
    exact XF_dfL b c i
  rw [hor_value, hor_value]
  constructor
  · intro h
    apply mp_ff
    have h1 := mp_to_ff (h.trans mp_zero.symm)
    rw [ff_zero, e] at h1
    generalize ff (nv (monL b) a) = p at *
    generalize ff (nv (monL c) a) = q at *
    grind
  · intro h
    have h1 := mp_to_ff h
    rw [← mp_zero]
    apply mp_ff
    rw [ff_zero, e, h1]
    generalize ff (nv (monL c) a) = q
    grind
/-- a polynomial that is not 0 has fewer roots than coefficients -/
theorem few_roots (c r : List (BitVec 64)) (hnd : r.Nodup) (hr : ∀ y ∈ r, mp (nv c y) = 0#64 ∧ y.toNat < PP) (h : 0 < (trimL c).length) : r.length + 1 ≤ (trimL c).length := by
  rcases Nat.lt_or_ge r.length (trimL c).length with h1 | h1
  · exact h1
  exfalso
  have hmem : ∀ i, i < (trimL c).length → r.getD i 0 ∈ r := fun i hi => by
    rw [List.getD_eq_getElem?_getD, List.getElem?_eq_getElem (by omega)]
    exact List.getElem_mem _
  have hX : ∀ i j, i < (trimL c).length → j < (trimL c).length → i ≠ j → XF r i - XF r j ≠ 0 := by
    intro i j hi hj hij e
    have e1 : XF r i = XF r j := by
      generalize XF r i = p at *
      generalize XF r j = q at *
      grind
    have e2 := fw_inj (hr _ (hmem i hi)).2 (hr _ (hmem j hj)).2 e1
    rw [List.getD_eq_getElem?_getD, List.getElem?_eq_getElem (by omega), List.getD_eq_getElem?_getD, List.getElem?_eq_getElem (by omega)] at e2
    have hpw := List.pairwise_iff_getElem.1 hnd
    rcases Nat.lt_or_gt_of_ne hij with h3 | h3
    · exact hpw i j (by omega) (by omega) h3 e2
    · exact hpw j i (by omega) (by omega) h3 e2.symm
  have h2 := roots_none (trimL c).length (XF (trimL c)) (XF r) hX (fun i hi => by
    have e1 := (hr _ (hmem i hi)).1
    have e2 := nv_trim c (r.getD i 0)
    rw [e1] at e2
    have e3 := nv_pv (trimL c) (r.getD i 0) (trimL c).length (Nat.le_refl _)
    rw [← fw_mp, e2] at e3
    exact e3.symm) ((trimL c).length - 1) (by omega)
  have h3 : (trimL c).length = topF (cm c) c.length := by unfold trimL; rw [trimF_len]
  have h4 := topF_top (cm c) c.length (by omega)
  rw [← h3, ← trimL_get] at h4
  refine h4 (fw_inj ?_ (by decide) ?_)
  · rw [trimL_get]; exact mp_lt _
  · exact h2
/-- whether a seed makes two texts meet -/
def meetB (a : BitVec 64) (b c : List (BitVec 8)) : Bool := hor a (chL b) == hor a (chL c)
/-- what is wrong -/
def meetE (a : BitVec 64) (b c : List (BitVec 8)) : Int := if PP ≤ a.toNat then 2 else if b = c then 15 else 0
def meetV (a : BitVec 64) (b c : List (BitVec 8)) : Bool := decide (meetE a b c = 0) && meetB a b c
/-- whether x is among the first k -/
def seenL (l : List (BitVec 64)) (x : BitVec 64) : Nat → Bool
  | 0 => false
  | k + 1 => seenL l x k || (l.getD k 0 == x)
theorem seenL_no {l : List (BitVec 64)} {x : BitVec 64} : ∀ {k}, seenL l x k = false → ∀ j, j < k → l.getD j 0 ≠ x
  | 0, _, j, h => by omega
  | k + 1, h, j, hj => by
    have h' : (seenL l x k || (l.getD k 0 == x)) = false := h
    rw [Bool.or_eq_false_iff] at h'
    by_cases e : j = k
    · subst e; exact fun e => by rw [e, beq_self_eq_true] at h'; exact absurd h'.2 (by decide)
    · exact seenL_no h'.1 j (by omega)
/-- the seeds among the first k that make two texts meet, each once -/
def sdL (b c : List (BitVec 8)) (l : List (BitVec 64)) : Nat → List (BitVec 64)
  | 0 => []
  | k + 1 => if meetV (l.getD k 0) b c && !(seenL l (l.getD k 0) k) then sdL b c l k ++ [l.getD k 0] else sdL b c l k
theorem sdL_mem {b c : List (BitVec 8)} {l : List (BitVec 64)} {y : BitVec 64} : ∀ k, y ∈ sdL b c l k → meetV y b c = true ∧ ∃ j, j < k ∧ l.getD j 0 = y
  | 0, h => by cases h
  | k + 1, h => by
    have h' : y ∈ (if meetV (l.getD k 0) b c && !(seenL l (l.getD k 0) k) then sdL b c l k ++ [l.getD k 0] else sdL b c l k) := h
    have old : y ∈ sdL b c l k → meetV y b c = true ∧ ∃ j, j < k + 1 ∧ l.getD j 0 = y := fun h => by
      obtain ⟨h1, j, h2, h3⟩ := sdL_mem k h
      exact ⟨h1, j, by omega, h3⟩
    by_cases e : (meetV (l.getD k 0) b c && !(seenL l (l.getD k 0) k)) = true
    · rw [if_pos e, List.mem_append, List.mem_singleton] at h'
      rcases h' with h' | rfl
      · exact old h'
      · rw [Bool.and_eq_true] at e
        exact ⟨e.1, k, by omega, rfl⟩
    · rw [if_neg e] at h'; exact old h'
theorem sdL_nodup (b c : List (BitVec 8)) (l : List (BitVec 64)) : ∀ k, (sdL b c l k).Nodup
  | 0 => List.nodup_nil
  | k + 1 => by
    show (if meetV (l.getD k 0) b c && !(seenL l (l.getD k 0) k) then sdL b c l k ++ [l.getD k 0] else sdL b c l k).Nodup
    by_cases e : (meetV (l.getD k 0) b c && !(seenL l (l.getD k 0) k)) = true
    · rw [if_pos e, List.nodup_append]
      refine ⟨sdL_nodup b c l k, by simp, fun a ha z hz => ?_⟩
      rw [List.mem_singleton] at hz
      subst hz
      obtain ⟨_, j, hj, hy⟩ := sdL_mem k ha
      rw [Bool.and_eq_true, Bool.not_eq_true'] at e
      intro e3
      exact seenL_no e.2 j hj (hy.trans e3)
    · rw [if_neg e]; exact sdL_nodup b c l k
theorem sdL_len (b c : List (BitVec 8)) (l : List (BitVec 64)) : ∀ k, (sdL b c l k).length ≤ k
  | 0 => Nat.le_refl _
  | k + 1 => by
    have h1 := sdL_len b c l k
    show (if meetV (l.getD k 0) b c && !(seenL l (l.getD k 0) k) then sdL b c l k ++ [l.getD k 0] else sdL b c l k).length ≤ k + 1
    split
    · simp; omega
    · omega
theorem sdL_few (b c : List (BitVec 8)) (l : List (BitVec 64)) (k : Nat) : (sdL b c l k).length ≤ max (b.length / 7 + 1) (c.length / 7 + 1) := by
  by_cases hbc : b = c
  · have h0 : (sdL b c l k).length = 0 := by
      rcases Nat.eq_zero_or_pos (sdL b c l k).length with e | e
      · exact e
      · obtain ⟨y, hy⟩ := List.exists_mem_of_length_pos e
        have := (sdL_mem k hy).1
        unfold meetV meetE at this
        rw [Bool.and_eq_true, decide_eq_true_eq, if_pos hbc] at this
        have := this.1
        split at this <;> omega
    omega
  · have hp : 0 < (dfL b c).length := by
      rcases Nat.eq_zero_or_pos (dfL b c).length with e | e
      · exact absurd ((dfL_same b c).1 (List.eq_nil_of_length_eq_zero e)) hbc
      · exact e
    have ht : trimL (dfL b c) = dfL b c := by unfold dfL; rw [trimL_self]
    have h := few_roots (dfL b c) (sdL b c l k) (sdL_nodup b c l k) (fun y hy => by
      have h1 := (sdL_mem k hy).1
      unfold meetV meetE meetB at h1
      rw [Bool.and_eq_true, decide_eq_true_eq, beq_iff_eq] at h1
      refine ⟨(dfL_value b c y).2 h1.2, ?_⟩
      have h2 := h1.1
      rcases Nat.lt_or_ge y.toNat PP with c | c
      · exact c
      · rw [if_pos c] at h2; exact absurd h2 (by decide)) (by rw [ht]; exact hp)
    rw [ht] at h
    have := dfL_len b c
    omega
end Go.Proofs.Ytiboncnfepnjcaa
