/- Plain lemmas: numbers modulo 2^61 - 1; coefficients without zeros at the end; sums of powers. -/
import Derived.Test.YtdjlbpgjbgepdaaGreatModD
namespace Go.Bv
open Go Go.RowKit
set_option linter.unusedVariables false
/-- the prime -/
def PP : Nat := 2305843009213693951
/-- a number modulo the prime, as a word -/
def mp (N : Nat) : BitVec 64 := BitVec.ofNat 64 (N % PP)
theorem PP_pos : 0 < PP := by decide
theorem PP_lt : PP < 18446744073709551616 := by decide
theorem mp_toNat (N : Nat) : (mp N).toNat = N % PP := by
  unfold mp
  rw [BitVec.toNat_ofNat, Nat.mod_eq_of_lt]
  have := Nat.mod_lt N PP_pos
  have := PP_lt
  omega
theorem mp_congr {N M : Nat} (h : N % PP = M % PP) : mp N = mp M := by unfold mp; rw [h]
theorem mp_iff {N M : Nat} : mp N = mp M ↔ N % PP = M % PP := ⟨fun h => by have := congrArg BitVec.toNat h; rwa [mp_toNat, mp_toNat] at this, mp_congr⟩
theorem md_mp (N : Nat) : md N 2305843009213693951#64 = mp N := by
  unfold md mp
  rw [if_neg (by decide)]
  rfl
theorem mod_mp (x : BitVec 64) : x % 2305843009213693951#64 = mp x.toNat := by
  apply BitVec.eq_of_toNat_eq
  rw [mp_toNat, BitVec.toNat_umod]
  rfl
theorem mp_mp (N : Nat) : mp (mp N).toNat = mp N := by apply mp_congr; rw [mp_toNat, Nat.mod_mod]
theorem mp_zero : mp 0 = 0#64 := by decide
theorem mp_add (A B : Nat) : mp ((mp A).toNat + (mp B).toNat) = mp (A + B) := by
  apply mp_congr; rw [mp_toNat, mp_toNat, ← Nat.add_mod]
theorem mp_mul (A B : Nat) : mp ((mp A).toNat * (mp B).toNat) = mp (A * B) := by
  apply mp_congr; rw [mp_toNat, mp_toNat, ← Nat.mul_mod]
theorem mp_add1 (A B : Nat) : mp ((mp A).toNat + B) = mp (A + B) := by
  apply mp_congr; rw [mp_toNat, Nat.mod_add_mod]
theorem mp_add2 (A B : Nat) : mp (A + (mp B).toNat) = mp (A + B) := by
  apply mp_congr; rw [mp_toNat, Nat.add_mod_mod]
theorem mp_mul1 (A B : Nat) : mp ((mp A).toNat * B) = mp (A * B) := by
  apply mp_congr; rw [mp_toNat, Nat.mod_mul_mod]
theorem mp_mul2 (A B : Nat) : mp (A * (mp B).toNat) = mp (A * B) := by
  apply mp_congr; rw [mp_toNat, Nat.mul_mod_mod]
theorem mp_self (x : BitVec 64) (h : x.toNat < PP) : mp x.toNat = x := by
  apply BitVec.eq_of_toNat_eq; rw [mp_toNat, Nat.mod_eq_of_lt h]
/-- how many coefficients there are without the zeros at the end -/
def topF (f : Nat → BitVec 64) : Nat → Nat
  | 0 => 0
  | n + 1 => if f n = 0#64 then topF f n else n + 1
/-- the coefficients without the zeros at the end -/
def trimF (f : Nat → BitVec 64) (n : Nat) : List (BitVec 64) := (List.range (topF f n)).map f
theorem topF_le (f : Nat → BitVec 64) : ∀ n, topF f n ≤ n
  | 0 => Nat.le_refl _
  | n + 1 => by
    unfold topF
    split
    · exact Nat.le_trans (topF_le f n) (Nat.le_succ n)
    · exact Nat.le_refl _
theorem topF_zero (f : Nat → BitVec 64) : ∀ n i, topF f n ≤ i → i < n → f i = 0#64
  | 0, i, _, h => by omega
  | n + 1, i, h1, h2 => by
    unfold topF at h1
    split at h1
    · rename_i h0
      by_cases e : i = n
      · rw [e]; exact h0
      · exact topF_zero f n i h1 (by omega)
    · omega
theorem topF_pos (f : Nat → BitVec 64) : ∀ n, 0 < topF f n → f (topF f n - 1) ≠ 0#64
  | 0, h => by simp [topF] at h
  | n + 1, h => by
    unfold topF at h ⊢
    split
    · rename_i h0
      rw [if_pos h0] at h
      exact topF_pos f n h
    · rename_i h0
      exact h0
theorem topF_eq {f g : Nat → BitVec 64} {n m : Nat} (h : ∀ i, f i = g i) (hf : ∀ i, n ≤ i → f i = 0#64) (hg : ∀ i, m ≤ i → g i = 0#64) : topF f n = topF g m := by
  have hz1 : ∀ i, topF f n ≤ i → f i = 0#64 := fun i hi => by
    by_cases e : i < n
    · exact topF_zero f n i hi e
    · exact hf i (by omega)
  have hz2 : ∀ i, topF g m ≤ i → g i = 0#64 := fun i hi => by
    by_cases e : i < m
    · exact topF_zero g m i hi e
    · exact hg i (by omega)
  rcases Nat.lt_trichotomy (topF f n) (topF g m) with c | c | c
  · exact absurd ((h _).symm.trans (hz1 _ (by omega))) (topF_pos g m (by omega))
  · exact c
  · exact absurd ((h _).trans (hz2 _ (by omega))) (topF_pos f n (by omega))
theorem trimF_eq {f g : Nat → BitVec 64} {n m : Nat} (h : ∀ i, f i = g i) (hf : ∀ i, n ≤ i → f i = 0#64) (hg : ∀ i, m ≤ i → g i = 0#64) : trimF f n = trimF g m := by
  unfold trimF
  rw [topF_eq h hf hg]
  apply List.map_congr_left
  intro i _
  exact h i
theorem trimF_len (f : Nat → BitVec 64) (n : Nat) : (trimF f n).length = topF f n := by unfold trimF; simp
theorem trimF_get (f : Nat → BitVec 64) (n : Nat) (hf : ∀ i, n ≤ i → f i = 0#64) (i : Nat) : (trimF f n).getD i 0 = f i := by
  unfold trimF
  by_cases h : i < topF f n
  · rw [List.getD_eq_getElem?_getD, List.getElem?_map, List.getElem?_range h]; rfl
  · have h0 : f i = 0#64 := by
      by_cases e : i < n
      · exact topF_zero f n i (by omega) e
      · exact hf i (by omega)
    rw [List.getD_eq_getElem?_getD, List.getElem?_eq_none (by simp; omega), h0]; rfl
/-- the coefficients of a list, modulo the prime -/
def cm (l : List (BitVec 64)) (i : Nat) : BitVec 64 := mp (l.getD i 0).toNat
theorem getD_far (l : List (BitVec 64)) (i : Nat) (h : l.length ≤ i) : l.getD i 0 = 0#64 := by
  rw [List.getD_eq_getElem?_getD, List.getElem?_eq_none h]; rfl
theorem cm_far (l : List (BitVec 64)) (i : Nat) (h : l.length ≤ i) : cm l i = 0#64 := by
  unfold cm; rw [getD_far l i h]; exact mp_zero
/-- a list without zeros at the end, modulo the prime -/
def trimL (l : List (BitVec 64)) : List (BitVec 64) := trimF (cm l) l.length
theorem trimL_get (l : List (BitVec 64)) (i : Nat) : (trimL l).getD i 0 = cm l i := trimF_get _ _ (fun i h => cm_far l i h) i
theorem trimL_cm (l : List (BitVec 64)) (i : Nat) : cm (trimL l) i = cm l i := by
  show mp ((trimL l).getD i 0).toNat = _
  rw [trimL_get]; unfold cm; rw [mp_mp]
theorem trimL_ext {a b : List (BitVec 64)} (h : ∀ i, cm a i = cm b i) : trimL a = trimL b := trimF_eq h (fun i h => cm_far a i h) (fun i h => cm_far b i h)
theorem trimL_self (l : List (BitVec 64)) : trimL (trimL l) = trimL l := trimL_ext (trimL_cm l)
/-- the sum of f i times x^i for i below n -/
def pv (f : Nat → Nat) (x : Nat) : Nat → Nat
  | 0 => 0
  | n + 1 => pv f x n + f n * x ^ n
/-- the same from k on, d of them, by Horner -/
def hv (f : Nat → Nat) (x : Nat) : Nat → Nat → Nat
  | 0, _ => 0
  | d + 1, k => f k + x * hv f x d (k + 1)
theorem hv_pv (f : Nat → Nat) (x : Nat) : ∀ d k, pv f x k + x ^ k * hv f x d k = pv f x (k + d)
  | 0, k => by simp [hv]
  | d + 1, k => by
    have h := hv_pv f x d (k + 1)
    rw [show k + (d + 1) = k + 1 + d by omega, ← h]
    show pv f x k + x ^ k * (f k + x * hv f x d (k + 1)) = pv f x k + f k * x ^ k + x ^ (k + 1) * hv f x d (k + 1)
    rw [Nat.mul_add, Nat.pow_succ, Nat.mul_comm (f k), Nat.mul_assoc, Nat.add_assoc]
theorem hv_all (f : Nat → Nat) (x n : Nat) : hv f x n 0 = pv f x n := by
  have h := hv_pv f x n 0
  simpa [pv] using h
theorem pv_congr {f g : Nat → Nat} (x : Nat) : ∀ n, (∀ i, i < n → f i = g i) → pv f x n = pv g x n
  | 0, _ => rfl
  | n + 1, h => by
    show pv f x n + f n * x ^ n = pv g x n + g n * x ^ n
    rw [pv_congr x n (fun i hi => h i (by omega)), h n (by omega)]
theorem pv_mod {f g : Nat → Nat} (x : Nat) : ∀ n, (∀ i, i < n → f i % PP = g i % PP) → pv f x n % PP = pv g x n % PP
  | 0, _ => rfl
  | n + 1, h => by
    show (pv f x n + f n * x ^ n) % PP = (pv g x n + g n * x ^ n) % PP
    rw [Nat.add_mod, pv_mod x n (fun i hi => h i (by omega)), Nat.mul_mod, h n (by omega), ← Nat.mul_mod, ← Nat.add_mod]
/-- the value of a list of coefficients, as a number -/
def nv (l : List (BitVec 64)) (x : BitVec 64) : Nat := pv (fun i => (l.getD i 0).toNat) x.toNat l.length
theorem pv_far (f : Nat → Nat) (x : Nat) (n : Nat) (h : ∀ i, n ≤ i → f i = 0) : ∀ d, pv f x (n + d) = pv f x n
  | 0 => rfl
  | d + 1 => by
    show pv f x (n + d) + f (n + d) * x ^ (n + d) = _
    rw [pv_far f x n h d, h (n + d) (by omega), Nat.zero_mul, Nat.add_zero]
theorem nv_up (l : List (BitVec 64)) (x : BitVec 64) (n : Nat) (h : l.length ≤ n) : nv l x = pv (fun i => (l.getD i 0).toNat) x.toNat n := by
  unfold nv
  have := pv_far (fun i => (l.getD i 0).toNat) x.toNat l.length (fun i hi => by show (l.getD i 0).toNat = 0; rw [getD_far l i hi]; rfl) (n - l.length)
  rw [show l.length + (n - l.length) = n by omega] at this
  exact this.symm
theorem nv_mod {a b : List (BitVec 64)} (x : BitVec 64) (h : ∀ i, cm a i = cm b i) : mp (nv a x) = mp (nv b x) := by
  apply mp_congr
  rw [nv_up a x (max a.length b.length) (by omega), nv_up b x (max a.length b.length) (by omega)]
  exact pv_mod _ _ (fun i _ => mp_iff.1 (h i))
/-- what Horner's rule comes to from the coefficient k on -/
def hz (l : List (BitVec 64)) (x : BitVec 64) (k : Nat) : Nat := hv (fun i => (l.getD i 0).toNat) x.toNat (l.length - k) k
theorem hz_end (l : List (BitVec 64)) (x : BitVec 64) (k : Nat) (h : l.length ≤ k) : hz l x k = 0 := by
  unfold hz; rw [show l.length - k = 0 by omega]; rfl
theorem hz_step (l : List (BitVec 64)) (x : BitVec 64) (k : Nat) : hz l x k = (l.getD k 0).toNat + x.toNat * hz l x (k + 1) := by
  by_cases h : k < l.length
  · unfold hz
    rw [show l.length - k = (l.length - (k + 1)) + 1 by omega]
    rfl
  · rw [hz_end l x k (by omega), hz_end l x (k + 1) (by omega), getD_far l k (by omega)]; rfl
theorem hz_zero (l : List (BitVec 64)) (x : BitVec 64) : hz l x 0 = nv l x := by
  unfold hz nv; rw [Nat.sub_zero, hv_all]
/-- the quotient by X less x, before the zeros at its end are cut off -/
def dq (l : List (BitVec 64)) (x : BitVec 64) : List (BitVec 64) := (List.range l.length).map (fun j => mp (hz l x (j + 1)))
theorem dq_len (l : List (BitVec 64)) (x : BitVec 64) : (dq l x).length = l.length := by unfold dq; simp
theorem dq_get (l : List (BitVec 64)) (x : BitVec 64) (i : Nat) : (dq l x).getD i 0 = mp (hz l x (i + 1)) := by
  unfold dq
  by_cases h : i < l.length
  · rw [List.getD_eq_getElem?_getD, List.getElem?_map, List.getElem?_range h]; rfl
  · rw [List.getD_eq_getElem?_getD, List.getElem?_eq_none (by simp; omega), hz_end l x (i + 1) (by omega), mp_zero]; rfl
theorem dq_cm (l : List (BitVec 64)) (x : BitVec 64) (i : Nat) : cm (dq l x) i = mp (hz l x (i + 1)) := by
  unfold cm; rw [dq_get, mp_mp]
/-- the coefficient k of a product, of the first i rows -/
def cs (f g : Nat → Nat) : Nat → Nat → Nat
  | 0, _ => 0
  | i + 1, k => cs f g i k + (if i ≤ k then f i * g (k - i) else 0)
theorem cs_up (f g : Nat → Nat) (n k : Nat) (h : ∀ i, n ≤ i → f i = 0 ∨ k < i) : ∀ d, cs f g (n + d) k = cs f g n k
  | 0 => rfl
  | d + 1 => by
    show cs f g (n + d) k + (if n + d ≤ k then f (n + d) * g (k - (n + d)) else 0) = _
    rw [cs_up f g n k h d]
    rcases h (n + d) (by omega) with h1 | h1
    · rw [h1, Nat.zero_mul]; split <;> rfl
    · rw [if_neg (by omega)]; rfl
/-- the words of a list as numbers -/
def nf (l : List (BitVec 64)) (i : Nat) : Nat := (l.getD i 0).toNat
theorem nf_far (l : List (BitVec 64)) (i : Nat) (h : l.length ≤ i) : nf l i = 0 := by unfold nf; rw [getD_far l i h]; rfl
theorem cs_len (a b : List (BitVec 64)) (k : Nat) : cs (nf a) (nf b) a.length k = cs (nf a) (nf b) (k + 1) k := by
  have h1 := cs_up (nf a) (nf b) a.length k (fun i hi => Or.inl (nf_far a i hi)) (max a.length (k + 1) - a.length)
  have h2 := cs_up (nf a) (nf b) (k + 1) k (fun i hi => Or.inr (by omega)) (max a.length (k + 1) - (k + 1))
  rw [show a.length + (max a.length (k + 1) - a.length) = max a.length (k + 1) by omega] at h1
  rw [show k + 1 + (max a.length (k + 1) - (k + 1)) = max a.length (k + 1) by omega] at h2
  rw [← h1, h2]
/-- the first n coefficients of a product, modulo the prime -/
def mulP (a b : List (BitVec 64)) (n : Nat) : List (BitVec 64) := (List.range n).map (fun k => mp (cs (nf a) (nf b) (k + 1) k))
def mulL (a b : List (BitVec 64)) : List (BitVec 64) := mulP a b (a.length + b.length)
theorem mulP_len (a b : List (BitVec 64)) (n : Nat) : (mulP a b n).length = n := by unfold mulP; simp
theorem mulP_succ (a b : List (BitVec 64)) (n : Nat) : mulP a b (n + 1) = mulP a b n ++ [mp (cs (nf a) (nf b) (n + 1) n)] := by
  unfold mulP; rw [List.range_succ, List.map_append]; rfl
theorem mulP_get (a b : List (BitVec 64)) (n i : Nat) (h : i < n) : (mulP a b n).getD i 0 = mp (cs (nf a) (nf b) (i + 1) i) := by
  unfold mulP; rw [List.getD_eq_getElem?_getD, List.getElem?_map, List.getElem?_range h]; rfl
theorem cs_zero (a b : List (BitVec 64)) (k : Nat) : ∀ i, i ≤ a.length → a.length + b.length ≤ k → cs (nf a) (nf b) i k = 0
  | 0, _, _ => rfl
  | i + 1, h1, h2 => by
    show cs (nf a) (nf b) i k + (if i ≤ k then nf a i * nf b (k - i) else 0) = 0
    rw [cs_zero a b k i (by omega) h2, if_pos (by omega), nf_far b (k - i) (by omega), Nat.mul_zero]
theorem mulL_cm (a b : List (BitVec 64)) (i : Nat) : cm (mulL a b) i = mp (cs (nf a) (nf b) (i + 1) i) := by
  unfold cm mulL
  by_cases h : i < a.length + b.length
  · rw [mulP_get a b _ i h, mp_mp]
  · rw [getD_far _ i (by rw [mulP_len]; omega), ← cs_len, cs_zero a b i a.length (Nat.le_refl _) (by omega)]; rfl
/-- the first n coefficients of a sum, modulo the prime -/
def addP (a b : List (BitVec 64)) (n : Nat) : List (BitVec 64) := (List.range n).map (fun k => mp (nf a k + nf b k))
def addL (a b : List (BitVec 64)) : List (BitVec 64) := addP a b (max a.length b.length)
theorem addP_len (a b : List (BitVec 64)) (n : Nat) : (addP a b n).length = n := by unfold addP; simp
theorem addP_succ (a b : List (BitVec 64)) (n : Nat) : addP a b (n + 1) = addP a b n ++ [mp (nf a n + nf b n)] := by
  unfold addP; rw [List.range_succ, List.map_append]; rfl
theorem addL_cm (a b : List (BitVec 64)) (i : Nat) : cm (addL a b) i = mp (nf a i + nf b i) := by
  unfold cm addL addP
  by_cases h : i < max a.length b.length
  · rw [List.getD_eq_getElem?_getD, List.getElem?_map, List.getElem?_range h]; exact mp_mp _
  · rw [List.getD_eq_getElem?_getD, List.getElem?_eq_none (by simp; omega), nf_far a i (by omega), nf_far b i (by omega)]; rfl
theorem addF_eq (a b : List (BitVec 64)) (n : Nat) (h : n = max a.length b.length) : trimF (fun i => mp ((cm a i).toNat + (cm b i).toNat)) n = trimL (addL a b) := by
  have e : ∀ i, mp ((cm a i).toNat + (cm b i).toNat) = mp (nf a i + nf b i) := fun i => by unfold cm; rw [mp_add]; rfl
  refine trimF_eq (fun i => by rw [addL_cm]; exact e i) (fun i hi => ?_) (fun i hi => cm_far _ i hi)
  show mp ((cm a i).toNat + (cm b i).toNat) = 0#64
  rw [e, nf_far a i (by omega), nf_far b i (by omega)]; rfl
/-- the first coefficients without the zeros at the end, as they are put behind each other -/
def cmP (l : List (BitVec 64)) (n : Nat) : List (BitVec 64) := (List.range n).map (cm l)
theorem cmP_len (l : List (BitVec 64)) (n : Nat) : (cmP l n).length = n := by unfold cmP; simp
theorem cmP_succ (l : List (BitVec 64)) (n : Nat) : cmP l (n + 1) = cmP l n ++ [cm l n] := by
  unfold cmP; rw [List.range_succ, List.map_append]; rfl
theorem cmP_trim (l : List (BitVec 64)) : cmP l (topF (cm l) l.length) = trimL l := rfl
end Go.Bv
