/- Plain lemmas: picks moved towards a set, and back; the document's order that brings one set to another one. -/
import Derived.Test.YtaajphopnmdmcaaMovB
namespace Go.Proofs.Ytaajphopnmdmcaa
open Go Go.RowKit Go.Bv
set_option linter.unusedVariables false
/-- choices are told by what they pick -/
theorem pk_inj {n : Nat} {c d : List Int} (hc : rp2 n c) (hd : rp2 n d) (hl : c.length = d.length) (h : pkI c = pkI d) : c = d := by
  have hF := rp2_F hc
  have hG := rp2_F hd
  rw [← hl] at hG
  have hJ : ∀ k, k < c.length → JF c k = JF d k := by
    intro k
    induction k using Nat.strongRecOn with
    | ind k ih =>
      intro hk
      have he : s2 (JF c) k = s2 (JF d) k := s2_congr k (fun i hi => ih i hi (by omega))
      have h1 : s2 (JF c) c.length k = s2 (JF d) c.length k := by
        have h2 : (pkI c).getD k 0 = (pkI d).getD k 0 := by rw [h]
        unfold pkI at h2
        rw [liI_get _ hk, liI_get _ (by omega), ← hl] at h2
        omega
      rw [s2_put hF hk, s2_put hG hk, he] at h1
      exact s2_inj hG (k := k) (by omega) (hF k hk).2 (hG k hk).2 h1
  apply ints_eq (n := c.length) rfl hl.symm
  intro i hi
  have h1 := hJ i hi
  have h2 := hc.2 i hi
  have h3 := hd.2 i (by omega)
  unfold JF at h1
  omega
theorem ms_same {l m : List Int} (hl : ∀ j k, j < k → k < l.length → l.getD j 0 ≠ l.getD k 0) (hm : ∀ j k, j < k → k < m.length → m.getD j 0 ≠ m.getD k 0) (h : ∀ x, x ∈ l ↔ x ∈ m) : msI l = msI m := by
  have hp : l.Perm m := (List.perm_ext_iff_of_nodup (nodup_iff.2 hl) (nodup_iff.2 hm)).2 h
  have hq : (msI l).Perm (msI m) := (List.mergeSort_perm l _).trans (hp.trans (List.mergeSort_perm m _).symm)
  have h1 := List.pairwise_mergeSort (le := fun x y : Int => decide (x ≤ y)) (by intro a b c h1 h2; simp at *; omega) (by intro a b; simp; omega) l
  have h2 := List.pairwise_mergeSort (le := fun x y : Int => decide (x ≤ y)) (by intro a b c h1 h2; simp at *; omega) (by intro a b; simp; omega) m
  exact List.Perm.eq_of_pairwise (le := fun a b => decide (a ≤ b) = true) (fun a b _ _ h3 h4 => by simp at h3 h4; omega) h1 h2 hq
theorem ms_id {s : List Int} (h : ∀ k, 0 < k → k < s.length → s.getD (k - 1) 0 < s.getD k 0) : msI s = s := by
  unfold msI
  refine List.mergeSort_of_pairwise ?_
  rw [List.pairwise_iff_getElem]
  intro i j hi hj hij
  have hup : ∀ d, i + d < s.length → s.getD i 0 ≤ s.getD (i + d) 0 := fun d => by
    induction d with
    | zero => intro _; exact Int.le_refl _
    | succ d ih =>
      intro h9
      have h1 := ih (by omega)
      have h2 := h (i + (d + 1)) (by omega) h9
      rw [show i + (d + 1) - 1 = i + d by omega] at h2
      omega
  have h3 := hup (j - i) (by omega)
  rw [show i + (j - i) = j by omega, List.getD_eq_getElem?_getD, List.getD_eq_getElem?_getD, List.getElem?_eq_getElem hi, List.getElem?_eq_getElem hj] at h3
  simpa using h3
theorem ms_stp {n : Nat} {l : List Int} (h : stP n l) : stP n (msI l) ∧ acB (msI l) l.length = true := by
  have hu := msI_up h.2
  refine ⟨⟨fun k hk => ?_, fun j k hj hk => ?_⟩, acB_iff.2 (fun k h1 h2 => hu _ _ (by omega) h2)⟩
  · obtain ⟨j, hj, he⟩ := mem_at.1 (msI_mem.1 (getD_memI hk))
    rw [← he]; exact h.1 j hj
  · rw [msI_len] at hk
    have := hu j k hj hk
    omega
/-- a pick moved as the set of p is moved to s -/
def tkI (n : Nat) (p s : List Int) : List Int := liI (fun i => fnI (mvI n (msI p) s) (fnI p i)) p.length
theorem tkI_len (n : Nat) (p s : List Int) : (tkI n p s).length = p.length := liI_len _ _
theorem st_fn {n : Nat} {p : List Int} (h : stP n p) {i : Nat} (hi : i < p.length) : fnI p i < n ∧ ((fnI p i : Nat) : Int) = p.getD i 0 := by
  have := h.1 i hi
  unfold fnI; omega
theorem tk_get {n : Nat} {p s : List Int} (h : stP n p) {i : Nat} (hi : i < p.length) : (tkI n p s).getD i 0 = ((mvF n (msI p) s (fnI p i) : Nat) : Int) := by
  unfold tkI mvI
  rw [liI_get _ hi, fnI_li _ (st_fn h hi).1]
theorem tk_st {n : Nat} {p s : List Int} (h : stP n p) (hs : stP n s) (hl : p.length = s.length) : stP n (tkI n p s) := by
  have hm := (ms_stp h).1
  have hL : (msI p).length = s.length := by rw [msI_len, hl]
  unfold stP
  rw [tkI_len]
  refine ⟨fun k hk => ?_, fun j k hj hk he => ?_⟩
  · rw [tk_get h hk]
    have := mvF_lt hm hs hL (st_fn h hk).1
    omega
  · rw [tk_get h (by omega), tk_get h hk] at he
    have h1 := mvF_back hm hs hL (st_fn h (show j < p.length by omega)).1
    have h2 := mvF_back hm hs hL (st_fn h hk).1
    have e : mvF n (msI p) s (fnI p j) = mvF n (msI p) s (fnI p k) := by omega
    rw [e, h2] at h1
    have h3 := h.2 j k hj hk
    have h4 := (st_fn h (show j < p.length by omega)).2
    have h5 := (st_fn h hk).2
    omega
/-- its set is s -/
theorem tk_set {n : Nat} {p s : List Int} (h : stP n p) (hs : stP n s) (hl : p.length = s.length) (ha : acB s s.length = true) : msI (tkI n p s) = s := by
  have hm := (ms_stp h).1
  have hL : (msI p).length = s.length := by rw [msI_len, hl]
  have ht := tk_st h hs hl
  refine Eq.trans ?_ (ms_id (s := s) (acB_iff.1 ha))
  refine ms_same ht.2 hs.2 (fun x => ?_)
  constructor
  · intro hx
    obtain ⟨j, hj, he⟩ := mem_at.1 hx
    rw [tkI_len] at hj
    rw [tk_get h hj] at he
    have h1 : ((fnI p j : Nat) : Int) ∈ msI p := by
      rw [(st_fn h hj).2]; exact msI_mem.2 (getD_memI hj)
    rw [← he]
    exact (mvF_in hm hs hL h1).2.1
  · intro hx
    obtain ⟨i, hi, he⟩ := mem_at.1 hx
    have h1 : (msI p).getD i 0 ∈ p := msI_mem.1 (getD_memI (by omega))
    obtain ⟨j, hj, he2⟩ := mem_at.1 h1
    refine mem_at.2 ⟨j, by rw [tkI_len]; exact hj, ?_⟩
    rw [tk_get h hj]
    have h2 : ((fnI p j : Nat) : Int) = (msI p).getD i 0 := by rw [(st_fn h hj).2, he2]
    have hil : i < (msI p).length := by omega
    have h3 : ((fnI p j : Nat) : Int) ∈ msI p := by rw [h2]; exact getD_memI hil
    rw [(mvF_in hm hs hL h3).1, h2, idx_at (st_nodup hm) hil, he]
/-- moved back it is as it was -/
theorem tk_back {n : Nat} {p s : List Int} (h : stP n p) (hs : stP n s) (hl : p.length = s.length) (ha : acB s s.length = true) : tkI n (tkI n p s) (msI p) = p := by
  have hm := (ms_stp h).1
  have hL : (msI p).length = s.length := by rw [msI_len, hl]
  have ht := tk_st h hs hl
  apply ints_eq (n := p.length) (by rw [tkI_len, tkI_len]) rfl
  intro i hi
  rw [tk_get ht (by rw [tkI_len]; exact hi), tk_set h hs hl ha]
  have e : fnI (tkI n p s) i = mvF n (msI p) s (fnI p i) := by
    show ((tkI n p s).getD i 0).toNat = _
    rw [tk_get h hi]; omega
  rw [e, mvF_back hm hs hL (st_fn h hi).1]
  exact (st_fn h hi).2
/-- the document's order behind x rounds -/
def rvL (n : Nat) (s t : List Int) (x : Nat) : List Int := liI (fun y => if y < x ∨ (y : Int) ∈ s then mvF n s t y else y) n
theorem rv_zero {n : Nat} {s t : List Int} (hs : stP n s) (ht : stP n t) (hl : s.length = t.length) : stL (liI (fun x => x) n) s t s.length = rvL n s t 0 := by
  unfold rvL
  apply ints_eq (n := n) (by rw [stL_len, liI_len]) (liI_len _ _)
  intro x hx
  rw [liI_get _ hx]
  by_cases h : (x : Int) ∈ s
  · rw [if_pos (.inr h)]
    obtain ⟨h1, h2⟩ := at_idx h
    rw [stL_in (by rw [liI_len]; exact hx) hs.2 h2 (Nat.le_refl _) (fun j hj => (hs.1 j hj).1) h1]
    exact (mvF_in hs ht hl h).1.symm
  · rw [if_neg (by intro h9; rcases h9 with h9 | h9; · omega
                   · exact h h9)]
    rw [stL_out (fun j hj => (hs.1 j hj).1) (fun j hj he => h (by rw [← he]; exact getD_memI hj)), liI_get _ hx]
theorem rv_in {n : Nat} {s t : List Int} {x : Nat} (h : (x : Int) ∈ s) : rvL n s t (x + 1) = rvL n s t x := by
  unfold rvL
  apply liI_ext
  intro y _
  by_cases e : y = x
  · subst e; rw [if_pos (.inr h), if_pos (.inr h)]
  · by_cases e2 : y < x ∨ (y : Int) ∈ s
    · rw [if_pos e2, if_pos (by rcases e2 with e3 | e3; · exact .inl (by omega)
                                · exact .inr e3)]
    · rw [if_neg e2, if_neg (by intro h9; rcases h9 with h9 | h9; · exact e2 (.inl (by omega))
                                · exact e2 (.inr h9))]
theorem rv_out {n : Nat} {s t : List Int} {x : Nat} (hx : x < n) : rvL n s t (x + 1) = (rvL n s t x).set x ((mvF n s t x : Nat) : Int) := by
  unfold rvL
  rw [liI_set _ _ hx]
  apply liI_ext
  intro y _
  by_cases e : y = x
  · subst e; rw [if_pos (.inl (by omega)), if_pos rfl]
  · rw [if_neg e]
    by_cases e2 : y < x ∨ (y : Int) ∈ s
    · rw [if_pos e2, if_pos (by rcases e2 with e3 | e3; · exact .inl (by omega)
                                · exact .inr e3)]
    · rw [if_neg e2, if_neg (by intro h9; rcases h9 with h9 | h9; · exact e2 (.inl (by omega))
                                · exact e2 (.inr h9))]
theorem rv_all (n : Nat) (s t : List Int) : rvL n s t n = mvI n s t := by
  unfold rvL mvI
  apply liI_ext
  intro y hy
  rw [if_pos (.inl hy)]
/-- where the next number that is not in s goes -/
theorem rv_at {n : Nat} {s t : List Int} (hs : stP n s) (ht : stP n t) (hl : s.length = t.length) {x a : Nat} (hx : x < n) (hxs : ¬ (x : Int) ∈ s) (ha : (rsN t a).length = (rsN s x).length) : a < n ∧ (¬ (a : Int) ∈ t → mvF n s t x = a) := by
  have h1 := rsN_len hs.1 hs.2
  have h2 := rsN_len ht.1 ht.2
  have h3 : (rsN s x).length < (rsN s n).length := by
    have := rsN_mono (s := s) (show x + 1 ≤ n by omega)
    rw [rsN_succ, if_neg hxs, List.length_append] at this
    have e : [x].length = 1 := rfl
    omega
  have han : a < n := by
    apply Nat.lt_of_not_le
    intro h9
    have := rsN_mono (s := t) h9
    omega
  refine ⟨han, fun hat => ?_⟩
  obtain ⟨e, _, _, h4⟩ := mvF_out hs ht hl hx hxs
  rw [e]
  have h5 := rsN_at hx hxs
  have h6 := rsN_at han hat
  have h7 : (rsN s n).idxOf x = (rsN s x).length := by
    have h8 := idx_atN (rsN_nodup s n) h3
    rw [List.getD_eq_getElem?_getD, h5] at h8
    exact h8
  rw [h7, ← ha, List.getD_eq_getElem?_getD, h6]; rfl
theorem st_le {n : Nat} {s : List Int} (h : stP n s) : s.length ≤ n := by have := rsN_len h.1 h.2; omega
end Go.Proofs.Ytaajphopnmdmcaa
