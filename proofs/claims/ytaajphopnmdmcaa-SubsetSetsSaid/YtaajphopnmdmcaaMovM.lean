/- Plain lemmas: the order that brings one set to another one. -/
import Derived.Test.YtaajphopnmdmcaaSetA
namespace Go.Bv
open Go Go.RowKit
set_option linter.unusedVariables false
/-- the numbers below x that are not in s -/
def rsN (s : List Int) (x : Nat) : List Nat := (List.range x).filter fun y => !s.contains (y : Int)
theorem rsN_succ (s : List Int) (x : Nat) : rsN s (x + 1) = rsN s x ++ (if (x : Int) ∈ s then [] else [x]) := by
  unfold rsN
  rw [List.range_succ, List.filter_append]
  congr 1
  by_cases h : (x : Int) ∈ s
  · rw [if_pos h]; simp [h]
  · rw [if_neg h]; simp [h]
theorem rsN_mem {s : List Int} {n x : Nat} : x ∈ rsN s n ↔ x < n ∧ ¬ (x : Int) ∈ s := by
  unfold rsN
  rw [List.mem_filter, List.mem_range]
  simp
theorem rsN_nodup (s : List Int) (n : Nat) : (rsN s n).Nodup := List.Pairwise.filter _ List.nodup_range
theorem rsN_pre (s : List Int) (x : Nat) : ∀ d, (rsN s (x + d)).take (rsN s x).length = rsN s x
  | 0 => by rw [Nat.add_zero]; exact List.take_length
  | d + 1 => by
    rw [show x + (d + 1) = x + d + 1 by omega, rsN_succ]
    have ih := rsN_pre s x d
    have hl : (rsN s x).length ≤ (rsN s (x + d)).length := by
      have := congrArg List.length ih
      rw [List.length_take] at this
      omega
    rw [List.take_append_of_le_length hl]
    exact ih
theorem rsN_mono {s : List Int} {x n : Nat} (h : x ≤ n) : (rsN s x).length ≤ (rsN s n).length := by
  have := congrArg List.length (rsN_pre s x (n - x))
  rw [show x + (n - x) = n by omega, List.length_take] at this
  omega
/-- a number that is not in s stands at so many places as there are such before it -/
theorem rsN_at {s : List Int} {x n : Nat} (hx : x < n) (hs : ¬ (x : Int) ∈ s) : (rsN s n)[(rsN s x).length]? = some x := by
  have h := rsN_pre s (x + 1) (n - (x + 1))
  rw [show x + 1 + (n - (x + 1)) = n by omega, rsN_succ, if_neg hs] at h
  have h2 : (List.take (rsN s x ++ [x]).length (rsN s n))[(rsN s x).length]? = (rsN s x ++ [x])[(rsN s x).length]? := by rw [h]
  rw [List.getElem?_take, if_pos (by simp), List.getElem?_append_right (Nat.le_refl _), Nat.sub_self] at h2
  exact h2
theorem filter_both (l : List Nat) (p : Nat → Bool) : (l.filter p).length + (l.filter fun x => !p x).length = l.length := by
  induction l with
  | nil => rfl
  | cons a l ih =>
    by_cases h : p a = true
    · rw [List.filter_cons_of_pos h, List.filter_cons_of_neg (by simp [h])]; simp; omega
    · rw [List.filter_cons_of_neg h, List.filter_cons_of_pos (by simpa using h)]; simp; omega
theorem rsN_len {s : List Int} {n : Nat} (h1 : ∀ k, k < s.length → 0 ≤ s.getD k 0 ∧ s.getD k 0 < (n : Int)) (h2 : ∀ j k, j < k → k < s.length → s.getD j 0 ≠ s.getD k 0) : (rsN s n).length + s.length = n := by
  have hb := filter_both (List.range n) (fun y : Nat => s.contains (y : Int))
  rw [List.length_range] at hb
  have hp : ((List.range n).filter fun y : Nat => s.contains (y : Int)).Perm (s.map Int.toNat) := by
    refine (List.perm_ext_iff_of_nodup (List.Pairwise.filter _ List.nodup_range) ?_).2 (fun x => ?_)
    · unfold List.Nodup
      rw [List.pairwise_map, List.pairwise_iff_getElem]
      intro j k hj hk hjk he
      have a1 := h1 j hj
      have a2 := h1 k hk
      have a3 := h2 j k hjk hk
      rw [List.getD_eq_getElem?_getD, List.getElem?_eq_getElem hj] at a1 a3
      rw [List.getD_eq_getElem?_getD, List.getElem?_eq_getElem hk] at a2 a3
      simp only [Option.getD_some] at a1 a2 a3
      omega
    · rw [List.mem_filter, List.mem_range, List.mem_map]
      constructor
      · rintro ⟨hx, hc⟩
        exact ⟨(x : Int), by simpa using hc, by simp⟩
      · rintro ⟨y, hy, rfl⟩
        obtain ⟨j, hj, he⟩ := mem_at.1 hy
        have a1 := h1 j hj
        rw [he] at a1
        have e : ((y.toNat : Nat) : Int) = y := by omega
        exact ⟨by omega, by rw [e]; simpa using hy⟩
  have hl := hp.length_eq
  rw [List.length_map] at hl
  unfold rsN
  omega
/-- the order that brings s to t -/
def mvF (n : Nat) (s t : List Int) (x : Nat) : Nat := if (x : Int) ∈ s then (t.getD (s.idxOf (x : Int)) 0).toNat else (rsN t n).getD ((rsN s n).idxOf x) 0
def mvI (n : Nat) (s t : List Int) : List Int := liI (mvF n s t) n
theorem mvI_len (n : Nat) (s t : List Int) : (mvI n s t).length = n := liI_len _ _
/-- sets: different numbers below n -/
def stP (n : Nat) (s : List Int) : Prop := (∀ k, k < s.length → 0 ≤ s.getD k 0 ∧ s.getD k 0 < (n : Int)) ∧ ∀ j k, j < k → k < s.length → s.getD j 0 ≠ s.getD k 0
theorem idx_at {s : List Int} (h : s.Nodup) {j : Nat} (hj : j < s.length) : s.idxOf (s.getD j 0) = j := by
  rw [List.getD_eq_getElem?_getD, List.getElem?_eq_getElem hj]
  exact h.idxOf_getElem j hj
theorem at_idx {s : List Int} {x : Int} (h : x ∈ s) : s.idxOf x < s.length ∧ s.getD (s.idxOf x) 0 = x := by
  have h1 := List.idxOf_lt_length_iff.2 h
  refine ⟨h1, ?_⟩
  rw [List.getD_eq_getElem?_getD, List.getElem?_eq_getElem h1]
  exact List.getElem_idxOf h1
theorem idx_atN {s : List Nat} (h : s.Nodup) {j : Nat} (hj : j < s.length) : s.idxOf (s.getD j 0) = j := by
  rw [List.getD_eq_getElem?_getD, List.getElem?_eq_getElem hj]
  exact h.idxOf_getElem j hj
theorem at_idxN {s : List Nat} {x : Nat} (h : x ∈ s) : s.idxOf x < s.length ∧ s.getD (s.idxOf x) 0 = x := by
  have h1 := List.idxOf_lt_length_iff.2 h
  refine ⟨h1, ?_⟩
  rw [List.getD_eq_getElem?_getD, List.getElem?_eq_getElem h1]
  exact List.getElem_idxOf h1
theorem getD_memN {l : List Nat} {j : Nat} (h : j < l.length) : l.getD j 0 ∈ l := by
  rw [List.getD_eq_getElem?_getD, List.getElem?_eq_getElem h]
  exact List.getElem_mem h
theorem getD_memI {l : List Int} {j : Nat} (h : j < l.length) : l.getD j 0 ∈ l := by
  rw [List.getD_eq_getElem?_getD, List.getElem?_eq_getElem h]
  exact List.getElem_mem h
/-- of a number in s; of any other one -/
theorem mvF_in {n : Nat} {s t : List Int} (hs : stP n s) (ht : stP n t) (hl : s.length = t.length) {x : Nat} (hx : (x : Int) ∈ s) : ((mvF n s t x : Nat) : Int) = t.getD (s.idxOf (x : Int)) 0 ∧ ((mvF n s t x : Nat) : Int) ∈ t ∧ mvF n s t x < n := by
  have h1 := (at_idx hx).1
  have h2 := ht.1 (s.idxOf (x : Int)) (by omega)
  have e : ((mvF n s t x : Nat) : Int) = t.getD (s.idxOf (x : Int)) 0 := by
    unfold mvF
    rw [if_pos hx]
    omega
  refine ⟨e, ?_, by omega⟩
  rw [e]
  exact getD_memI (by omega)
theorem mvF_out {n : Nat} {s t : List Int} (hs : stP n s) (ht : stP n t) (hl : s.length = t.length) {x : Nat} (hn : x < n) (hx : ¬ (x : Int) ∈ s) : mvF n s t x = (rsN t n).getD ((rsN s n).idxOf x) 0 ∧ ¬ ((mvF n s t x : Nat) : Int) ∈ t ∧ mvF n s t x < n ∧ (rsN s n).idxOf x < (rsN t n).length := by
  have h1 := (at_idxN (rsN_mem.2 ⟨hn, hx⟩)).1
  have h2 := rsN_len hs.1 hs.2
  have h3 := rsN_len ht.1 ht.2
  have h4 : (rsN s n).idxOf x < (rsN t n).length := by omega
  have e : mvF n s t x = (rsN t n).getD ((rsN s n).idxOf x) 0 := by unfold mvF; rw [if_neg hx]
  have h5 := rsN_mem.1 (getD_memN h4)
  rw [← e] at h5
  exact ⟨e, h5.2, h5.1, h4⟩
theorem st_nodup {n : Nat} {s : List Int} (h : stP n s) : s.Nodup := nodup_iff.2 h.2
/-- there and back -/
theorem mvF_back {n : Nat} {s t : List Int} (hs : stP n s) (ht : stP n t) (hl : s.length = t.length) {x : Nat} (hn : x < n) : mvF n t s (mvF n s t x) = x := by
  by_cases hx : (x : Int) ∈ s
  · obtain ⟨h1, h2, h3⟩ := mvF_in hs ht hl hx
    have h4 := (mvF_in ht hs hl.symm h2).1
    rw [h1, idx_at (st_nodup ht) (by have := (at_idx hx).1; omega), (at_idx hx).2] at h4
    omega
  · obtain ⟨h1, h2, h3, h4⟩ := mvF_out hs ht hl hn hx
    have h5 := (mvF_out ht hs hl.symm h3 h2).1
    rw [h5, h1, idx_atN (rsN_nodup _ _) h4]
    exact (at_idxN (rsN_mem.2 ⟨hn, hx⟩)).2
theorem mvF_lt {n : Nat} {s t : List Int} (hs : stP n s) (ht : stP n t) (hl : s.length = t.length) {x : Nat} (hn : x < n) : mvF n s t x < n := by
  by_cases hx : (x : Int) ∈ s
  · exact (mvF_in hs ht hl hx).2.2
  · exact (mvF_out hs ht hl hn hx).2.2.1
theorem mvI_or {n : Nat} {s t : List Int} (hs : stP n s) (ht : stP n t) (hl : s.length = t.length) : isO (mvI n s t) := by
  unfold isO mvI
  rw [liI_len]
  refine ⟨fun j hj => ?_, fun j k hj hk he => ?_⟩
  · rw [liI_get _ hj]; have := mvF_lt hs ht hl hj; omega
  · rw [liI_get _ (by omega), liI_get _ hk] at he
    have h1 := mvF_back hs ht hl (x := j) (by omega)
    have h2 := mvF_back hs ht hl hk
    have e : mvF n s t j = mvF n s t k := by omega
    rw [e] at h1
    omega
/-- of the numbers of s -/
theorem mvI_st {n : Nat} {s t : List Int} (hs : stP n s) (ht : stP n t) (hl : s.length = t.length) {j : Nat} (hj : j < s.length) : fnI (mvI n s t) (fnI s j) = fnI t j := by
  have h1 := hs.1 j hj
  have e : ((fnI s j : Nat) : Int) = s.getD j 0 := by unfold fnI; omega
  have hm : ((fnI s j : Nat) : Int) ∈ s := by rw [e]; exact getD_memI hj
  unfold mvI
  rw [fnI_li _ (by omega)]
  have h2 := (mvF_in hs ht hl hm).1
  rw [e, idx_at (st_nodup hs) hj] at h2
  show mvF n s t (fnI s j) = (t.getD j 0).toNat
  omega
end Go.Bv
