import Derived.Test.YtebcfbcfipmahaaGreatZ3ModC
import Derived.Test.YtebcfbcfipmahaaGreatProg
import Derived.Test.YtebcfbcfipmahaaGreatZ3Frame
import Derived.Lib.TrailingZeros
import Derived.Test.YtebcfbcfipmahaaGreatZ3Bv
import Derived.Deep.QuietTactic
import Derived.BigQuiet
import Derived.Laws.StructEq
import Derived.ChangeKeysEq
import Derived.Handy
import Derived.Test.YtebcfbcfipmahaaGreatZ3WidQ
section
/- Plain lemmas: numbers modulo 2^61 - 1; coefficients without zeros at the end; sums of powers. -/
namespace Go.Bv
open Go Go.RowKit
set_option linter.unusedVariables false
/-- the prime -/
def PP : Nat := 2305843009213693951
/-- a number modulo the prime, as a word -/
def mp (N : Nat) : BitVec 64 := BitVec.ofNat 64 (N % PP)
theorem PP_pos : 0 < PP := by decide
theorem PP_lt : PP < 18446744073709551616 := by decide
theorem mp_toNat (N : Nat) : (mp N).toNat = N % PP := by
  unfold mp
  rw [BitVec.toNat_ofNat, Nat.mod_eq_of_lt]
  have := Nat.mod_lt N PP_pos
  have := PP_lt
  omega
theorem mp_congr {N M : Nat} (h : N % PP = M % PP) : mp N = mp M := by unfold mp; rw [h]
theorem mp_iff {N M : Nat} : mp N = mp M ↔ N % PP = M % PP := ⟨fun h => by have := congrArg BitVec.toNat h; rwa [mp_toNat, mp_toNat] at this, mp_congr⟩
theorem md_mp (N : Nat) : md N 2305843009213693951#64 = mp N := by
  unfold md mp
  rw [if_neg (by decide)]
  rfl
theorem mod_mp (x : BitVec 64) : x % 2305843009213693951#64 = mp x.toNat := by
  apply BitVec.eq_of_toNat_eq
  rw [mp_toNat, BitVec.toNat_umod]
  rfl
theorem mp_mp (N : Nat) : mp (mp N).toNat = mp N := by apply mp_congr; rw [mp_toNat, Nat.mod_mod]
theorem mp_zero : mp 0 = 0#64 := by decide
theorem mp_add (A B : Nat) : mp ((mp A).toNat + (mp B).toNat) = mp (A + B) := by
  apply mp_congr; rw [mp_toNat, mp_toNat, ← Nat.add_mod]
theorem mp_mul1 (A B : Nat) : mp ((mp A).toNat * B) = mp (A * B) := by
  apply mp_congr; rw [mp_toNat, Nat.mod_mul_mod]
theorem mp_mul2 (A B : Nat) : mp (A * (mp B).toNat) = mp (A * B) := by
  apply mp_congr; rw [mp_toNat, Nat.mul_mod_mod]
/-- how many coefficients there are without the zeros at the end -/
def topF (f : Nat → BitVec 64) : Nat → Nat
  | 0 => 0
  | n + 1 => if f n = 0#64 then topF f n else n + 1
/-- the coefficients without the zeros at the end -/
def trimF (f : Nat → BitVec 64) (n : Nat) : List (BitVec 64) := (List.range (topF f n)).map f
theorem topF_zero (f : Nat → BitVec 64) : ∀ n i, topF f n ≤ i → i < n → f i = 0#64
  | 0, i, _, h => by omega
  | n + 1, i, h1, h2 => by
    unfold topF at h1
    split at h1
    · rename_i h0
      by_cases e : i = n
      · rw [e]; exact h0
      · exact topF_zero f n i h1 (by omega)
    · omega
theorem topF_pos (f : Nat → BitVec 64) : ∀ n, 0 < topF f n → f (topF f n - 1) ≠ 0#64
  | 0, h => by simp [topF] at h
  | n + 1, h => by
    unfold topF at h ⊢
    split
    · rename_i h0
      rw [if_pos h0] at h
      exact topF_pos f n h
    · rename_i h0
      exact h0
theorem topF_eq {f g : Nat → BitVec 64} {n m : Nat} (h : ∀ i, f i = g i) (hf : ∀ i, n ≤ i → f i = 0#64) (hg : ∀ i, m ≤ i → g i = 0#64) : topF f n = topF g m := by
  have hz1 : ∀ i, topF f n ≤ i → f i = 0#64 := fun i hi => by
    by_cases e : i < n
    · exact topF_zero f n i hi e
    · exact hf i (by omega)
  have hz2 : ∀ i, topF g m ≤ i → g i = 0#64 := fun i hi => by
    by_cases e : i < m
    · exact topF_zero g m i hi e
    · exact hg i (by omega)
  rcases Nat.lt_trichotomy (topF f n) (topF g m) with c | c | c
  · exact absurd ((h _).symm.trans (hz1 _ (by omega))) (topF_pos g m (by omega))
  · exact c
  · exact absurd ((h _).trans (hz2 _ (by omega))) (topF_pos f n (by omega))
theorem trimF_eq {f g : Nat → BitVec 64} {n m : Nat} (h : ∀ i, f i = g i) (hf : ∀ i, n ≤ i → f i = 0#64) (hg : ∀ i, m ≤ i → g i = 0#64) : trimF f n = trimF g m := by
  unfold trimF
  rw [topF_eq h hf hg]
  apply List.map_congr_left
  intro i _
  exact h i
theorem trimF_len (f : Nat → BitVec 64) (n : Nat) : (trimF f n).length = topF f n := by unfold trimF; simp
theorem trimF_get (f : Nat → BitVec 64) (n : Nat) (hf : ∀ i, n ≤ i → f i = 0#64) (i : Nat) : (trimF f n).getD i 0 = f i := by
  unfold trimF
  by_cases h : i < topF f n
  · rw [List.getD_eq_getElem?_getD, List.getElem?_map, List.getElem?_range h]; rfl
  · have h0 : f i = 0#64 := by
      by_cases e : i < n
      · exact topF_zero f n i (by omega) e
      · exact hf i (by omega)
    rw [List.getD_eq_getElem?_getD, List.getElem?_eq_none (by simp; omega), h0]; rfl
/-- the coefficients of a list, modulo the prime -/
def cm (l : List (BitVec 64)) (i : Nat) : BitVec 64 := mp (l.getD i 0).toNat
theorem getD_far (l : List (BitVec 64)) (i : Nat) (h : l.length ≤ i) : l.getD i 0 = 0#64 := by
  rw [List.getD_eq_getElem?_getD, List.getElem?_eq_none h]; rfl
theorem cm_far (l : List (BitVec 64)) (i : Nat) (h : l.length ≤ i) : cm l i = 0#64 := by
  unfold cm; rw [getD_far l i h]; exact mp_zero
/-- a list without zeros at the end, modulo the prime -/
def trimL (l : List (BitVec 64)) : List (BitVec 64) := trimF (cm l) l.length
theorem trimL_get (l : List (BitVec 64)) (i : Nat) : (trimL l).getD i 0 = cm l i := trimF_get _ _ (fun i h => cm_far l i h) i
theorem trimL_cm (l : List (BitVec 64)) (i : Nat) : cm (trimL l) i = cm l i := by
  show mp ((trimL l).getD i 0).toNat = _
  rw [trimL_get]; unfold cm; rw [mp_mp]
/-- the sum of f i times x^i for i below n -/
def pv (f : Nat → Nat) (x : Nat) : Nat → Nat
  | 0 => 0
  | n + 1 => pv f x n + f n * x ^ n
/-- the same from k on, d of them, by Horner -/
def hv (f : Nat → Nat) (x : Nat) : Nat → Nat → Nat
  | 0, _ => 0
  | d + 1, k => f k + x * hv f x d (k + 1)
theorem hv_pv (f : Nat → Nat) (x : Nat) : ∀ d k, pv f x k + x ^ k * hv f x d k = pv f x (k + d)
  | 0, k => by simp [hv]
  | d + 1, k => by
    have h := hv_pv f x d (k + 1)
    rw [show k + (d + 1) = k + 1 + d by omega, ← h]
    show pv f x k + x ^ k * (f k + x * hv f x d (k + 1)) = pv f x k + f k * x ^ k + x ^ (k + 1) * hv f x d (k + 1)
    rw [Nat.mul_add, Nat.pow_succ, Nat.mul_comm (f k), Nat.mul_assoc, Nat.add_assoc]
theorem hv_all (f : Nat → Nat) (x n : Nat) : hv f x n 0 = pv f x n := by
  have h := hv_pv f x n 0
  simpa [pv] using h
theorem pv_mod {f g : Nat → Nat} (x : Nat) : ∀ n, (∀ i, i < n → f i % PP = g i % PP) → pv f x n % PP = pv g x n % PP
  | 0, _ => rfl
  | n + 1, h => by
    show (pv f x n + f n * x ^ n) % PP = (pv g x n + g n * x ^ n) % PP
    rw [Nat.add_mod, pv_mod x n (fun i hi => h i (by omega)), Nat.mul_mod, h n (by omega), ← Nat.mul_mod, ← Nat.add_mod]
/-- the value of a list of coefficients, as a number -/
def nv (l : List (BitVec 64)) (x : BitVec 64) : Nat := pv (fun i => (l.getD i 0).toNat) x.toNat l.length
theorem pv_far (f : Nat → Nat) (x : Nat) (n : Nat) (h : ∀ i, n ≤ i → f i = 0) : ∀ d, pv f x (n + d) = pv f x n
  | 0 => rfl
  | d + 1 => by
    show pv f x (n + d) + f (n + d) * x ^ (n + d) = _
    rw [pv_far f x n h d, h (n + d) (by omega), Nat.zero_mul, Nat.add_zero]
theorem nv_up (l : List (BitVec 64)) (x : BitVec 64) (n : Nat) (h : l.length ≤ n) : nv l x = pv (fun i => (l.getD i 0).toNat) x.toNat n := by
  unfold nv
  have := pv_far (fun i => (l.getD i 0).toNat) x.toNat l.length (fun i hi => by show (l.getD i 0).toNat = 0; rw [getD_far l i hi]; rfl) (n - l.length)
  rw [show l.length + (n - l.length) = n by omega] at this
  exact this.symm
theorem nv_mod {a b : List (BitVec 64)} (x : BitVec 64) (h : ∀ i, cm a i = cm b i) : mp (nv a x) = mp (nv b x) := by
  apply mp_congr
  rw [nv_up a x (max a.length b.length) (by omega), nv_up b x (max a.length b.length) (by omega)]
  exact pv_mod _ _ (fun i _ => mp_iff.1 (h i))
/-- what Horner's rule comes to from the coefficient k on -/
def hz (l : List (BitVec 64)) (x : BitVec 64) (k : Nat) : Nat := hv (fun i => (l.getD i 0).toNat) x.toNat (l.length - k) k
theorem hz_end (l : List (BitVec 64)) (x : BitVec 64) (k : Nat) (h : l.length ≤ k) : hz l x k = 0 := by
  unfold hz; rw [show l.length - k = 0 by omega]; rfl
theorem hz_step (l : List (BitVec 64)) (x : BitVec 64) (k : Nat) : hz l x k = (l.getD k 0).toNat + x.toNat * hz l x (k + 1) := by
  by_cases h : k < l.length
  · unfold hz
    rw [show l.length - k = (l.length - (k + 1)) + 1 by omega]
    rfl
  · rw [hz_end l x k (by omega), hz_end l x (k + 1) (by omega), getD_far l k (by omega)]; rfl
theorem hz_zero (l : List (BitVec 64)) (x : BitVec 64) : hz l x 0 = nv l x := by
  unfold hz nv; rw [Nat.sub_zero, hv_all]
/-- the quotient by X less x, before the zeros at its end are cut off -/
def dq (l : List (BitVec 64)) (x : BitVec 64) : List (BitVec 64) := (List.range l.length).map (fun j => mp (hz l x (j + 1)))
theorem dq_len (l : List (BitVec 64)) (x : BitVec 64) : (dq l x).length = l.length := by unfold dq; simp
theorem dq_get (l : List (BitVec 64)) (x : BitVec 64) (i : Nat) : (dq l x).getD i 0 = mp (hz l x (i + 1)) := by
  unfold dq
  by_cases h : i < l.length
  · rw [List.getD_eq_getElem?_getD, List.getElem?_map, List.getElem?_range h]; rfl
  · rw [List.getD_eq_getElem?_getD, List.getElem?_eq_none (by simp; omega), hz_end l x (i + 1) (by omega), mp_zero]; rfl
/-- the coefficient k of a product, of the first i rows -/
def cs (f g : Nat → Nat) : Nat → Nat → Nat
  | 0, _ => 0
  | i + 1, k => cs f g i k + (if i ≤ k then f i * g (k - i) else 0)
theorem cs_up (f g : Nat → Nat) (n k : Nat) (h : ∀ i, n ≤ i → f i = 0 ∨ k < i) : ∀ d, cs f g (n + d) k = cs f g n k
  | 0 => rfl
  | d + 1 => by
    show cs f g (n + d) k + (if n + d ≤ k then f (n + d) * g (k - (n + d)) else 0) = _
    rw [cs_up f g n k h d]
    rcases h (n + d) (by omega) with h1 | h1
    · rw [h1, Nat.zero_mul]; split <;> rfl
    · rw [if_neg (by omega)]; rfl
/-- the words of a list as numbers -/
def nf (l : List (BitVec 64)) (i : Nat) : Nat := (l.getD i 0).toNat
theorem nf_far (l : List (BitVec 64)) (i : Nat) (h : l.length ≤ i) : nf l i = 0 := by unfold nf; rw [getD_far l i h]; rfl
theorem cs_len (a b : List (BitVec 64)) (k : Nat) : cs (nf a) (nf b) a.length k = cs (nf a) (nf b) (k + 1) k := by
  have h1 := cs_up (nf a) (nf b) a.length k (fun i hi => Or.inl (nf_far a i hi)) (max a.length (k + 1) - a.length)
  have h2 := cs_up (nf a) (nf b) (k + 1) k (fun i hi => Or.inr (by omega)) (max a.length (k + 1) - (k + 1))
  rw [show a.length + (max a.length (k + 1) - a.length) = max a.length (k + 1) by omega] at h1
  rw [show k + 1 + (max a.length (k + 1) - (k + 1)) = max a.length (k + 1) by omega] at h2
  rw [← h1, h2]
/-- the first n coefficients of a product, modulo the prime -/
def mulP (a b : List (BitVec 64)) (n : Nat) : List (BitVec 64) := (List.range n).map (fun k => mp (cs (nf a) (nf b) (k + 1) k))
def mulL (a b : List (BitVec 64)) : List (BitVec 64) := mulP a b (a.length + b.length)
theorem mulP_len (a b : List (BitVec 64)) (n : Nat) : (mulP a b n).length = n := by unfold mulP; simp
theorem mulP_get (a b : List (BitVec 64)) (n i : Nat) (h : i < n) : (mulP a b n).getD i 0 = mp (cs (nf a) (nf b) (i + 1) i) := by
  unfold mulP; rw [List.getD_eq_getElem?_getD, List.getElem?_map, List.getElem?_range h]; rfl
theorem cs_zero (a b : List (BitVec 64)) (k : Nat) : ∀ i, i ≤ a.length → a.length + b.length ≤ k → cs (nf a) (nf b) i k = 0
  | 0, _, _ => rfl
  | i + 1, h1, h2 => by
    show cs (nf a) (nf b) i k + (if i ≤ k then nf a i * nf b (k - i) else 0) = 0
    rw [cs_zero a b k i (by omega) h2, if_pos (by omega), nf_far b (k - i) (by omega), Nat.mul_zero]
theorem mulL_cm (a b : List (BitVec 64)) (i : Nat) : cm (mulL a b) i = mp (cs (nf a) (nf b) (i + 1) i) := by
  unfold cm mulL
  by_cases h : i < a.length + b.length
  · rw [mulP_get a b _ i h, mp_mp]
  · rw [getD_far _ i (by rw [mulP_len]; omega), ← cs_len, cs_zero a b i a.length (Nat.le_refl _) (by omega)]; rfl
/-- the first n coefficients of a sum, modulo the prime -/
def addP (a b : List (BitVec 64)) (n : Nat) : List (BitVec 64) := (List.range n).map (fun k => mp (nf a k + nf b k))
def addL (a b : List (BitVec 64)) : List (BitVec 64) := addP a b (max a.length b.length)
theorem addP_len (a b : List (BitVec 64)) (n : Nat) : (addP a b n).length = n := by unfold addP; simp
theorem addL_cm (a b : List (BitVec 64)) (i : Nat) : cm (addL a b) i = mp (nf a i + nf b i) := by
  unfold cm addL addP
  by_cases h : i < max a.length b.length
  · rw [List.getD_eq_getElem?_getD, List.getElem?_map, List.getElem?_range h]; exact mp_mp _
  · rw [List.getD_eq_getElem?_getD, List.getElem?_eq_none (by simp; omega), nf_far a i (by omega), nf_far b i (by omega)]; rfl
theorem addF_eq (a b : List (BitVec 64)) (n : Nat) (h : n = max a.length b.length) : trimF (fun i => mp ((cm a i).toNat + (cm b i).toNat)) n = trimL (addL a b) := by
  have e : ∀ i, mp ((cm a i).toNat + (cm b i).toNat) = mp (nf a i + nf b i) := fun i => by unfold cm; rw [mp_add]; rfl
  refine trimF_eq (fun i => by rw [addL_cm]; exact e i) (fun i hi => ?_) (fun i hi => cm_far _ i hi)
  show mp ((cm a i).toNat + (cm b i).toNat) = 0#64
  rw [e, nf_far a i (by omega), nf_far b i (by omega)]; rfl
/-- the first coefficients without the zeros at the end, as they are put behind each other -/
def cmP (l : List (BitVec 64)) (n : Nat) : List (BitVec 64) := (List.range n).map (cm l)
end Go.Bv
end
section
/- The table of bits.TrailingZeros64 in its variable; its contract. -/
namespace Go.Bv
open Go Go.RowKit
/-- the table lies in its variable -/
structure TabD (w : World) : Prop where
  lt : 0 < w.heap.size
  cell : ∀ i, i < 64 → w.cell? ⟨0, i, none⟩ = some (.int .u8 (Lib.deBruijn64tab.getD i 0))
theorem TabD.stay {w w' : World} (h : TabD w) (hn : New w w') : TabD w' where
  lt := Nat.lt_of_lt_of_le h.lt hn.le
  cell := fun i hi => by
    have e := hn.block 0 h.lt
    rw [← h.cell i hi]
    unfold World.cell?
    rw [e]
/-- the number of zeros at a word's end -/
def tzN (x : BitVec 64) : Nat := Lib.ctz 64 x.toNat
end Go.Bv
namespace Go.Proofs.YtebcfbcfipmahaaGreat
open Go.RowKit Go.Bv
set_option linter.unusedVariables false
end Go.Proofs.YtebcfbcfipmahaaGreat
end
section
/- Plain lemmas: a region that draws its order and holds calls that make memory: one walk in the order of the text, in the class of the worlds that meet S. -/
namespace Go.Bv
open Go Go.RowKit
/-- A region whose operations, in every world that meets S, yield one value and leave a world that meets S: the worlds that meet S are named by an index, so that what S says of them are plain equations. -/
theorem wp_region_class {P : Program} {id : Nat} {l : List Oper} {Q : Exit → Act → World → Prop} {a : Act} {w : World} (S : World → Prop)
    (hm : P.follows .mixedOrders = true) (hB : Region.lexB .any l.toArray = true) (hS : S w.drew)
    (h : ∀ (I : Type) [Nonempty I] (f : I → World), (∀ n, S (f n)) → (∀ w', S w' → ∃ m, w' = f m) →
      wpQuiet P l.toArray (fun w' => ∃ n, w' = f n) (fun a' => ∀ w', (∃ n, w' = f n) → Q .normal a' w') l a) : (Code.region id l.toArray true).wp P Q a w :=
  wp_region_quiet (C := fun w' => ∃ n : {x : World // S x}, w' = n.1) hm hB ⟨⟨w.drew, hS⟩, rfl⟩
    (by simpa using @h {x : World // S x} ⟨⟨w.drew, hS⟩⟩ Subtype.val (fun n => n.2) (fun w' hw' => ⟨⟨w', hw'⟩, rfl⟩))
/-- a callee that makes memory -/
theorem class_new {P : Program} {F : FuncId} {args : Array Value} {I : Type} {f : I → World} {n : I} {v : Value} (hstep : ∀ n w', New (f n) w' → ∃ m, w' = f m)
    (h : Calls P F args (f n) fun e w' => e = .returned v ∧ New (f n) w') : Calls P F args (f n) fun e w'' => e = .returned v ∧ ∃ m, w'' = f m :=
  h.mono fun _ _ ⟨he, hn⟩ => ⟨he, hstep n _ hn⟩
/-- a callee that makes nothing -/
theorem class_same {P : Program} {F : FuncId} {args : Array Value} {I : Type} {f : I → World} {n : I} {v : Value}
    (h : Calls P F args (f n) fun e w' => e = .returned v ∧ w' = f n) : Calls P F args (f n) fun e w'' => e = .returned v ∧ ∃ m, w'' = f m :=
  h.mono fun _ _ ⟨he, hn⟩ => ⟨he, n, hn⟩
end Go.Bv
end
section
/- Contracts of layer 20: the parts: allowed, Check, Eval, Top, Power, Bound, same, gap, limit, low; modn.Left, Odd. -/
namespace Go.Bv
open Go Go.RowKit
/-- the error's number -/
def chkM (a : BitVec 64) (k : Int) : Int := if k < 1 ∨ 64 < k then 1 else if a &&& 1#64 = 0#64 then 13 else 0
theorem chkM_good {a : BitVec 64} {k : Int} (h : chkM a k = 0) : ∃ j t : Nat, k = (j : Int) ∧ 1 ≤ j ∧ j + t = 64 ∧ ¬ a &&& 1#64 = 0#64 := by
  unfold chkM at h
  by_cases h1 : k < 1 ∨ 64 < k
  · rw [if_pos h1] at h; omega
  · rw [if_neg h1] at h
    refine ⟨k.toNat, 64 - k.toNat, by omega, by omega, by omega, fun e => ?_⟩
    rw [if_pos e] at h
    omega
theorem even_and (a : BitVec 64) : (a % 2#64 == 0#64) = (a &&& 1#64 == 0#64) := by
  have h : a % 2#64 = a &&& 1#64 := by
    apply BitVec.eq_of_toNat_eq
    rw [BitVec.toNat_umod, BitVec.toNat_and]
    exact (Nat.and_two_pow_sub_one_eq_mod a.toNat 1).symm
  rw [h]
theorem half_shift (x : BitVec 64) (k : Nat) : (x >>> k) / 2#64 = x >>> (k + 1) := by
  apply BitVec.eq_of_toNat_eq
  rw [BitVec.toNat_udiv, BitVec.toNat_ushiftRight, BitVec.toNat_ushiftRight, Nat.shiftRight_eq_div_pow, Nat.shiftRight_eq_div_pow, Nat.pow_succ, ← Nat.div_div_eq_div_mul]
  rfl
end Go.Bv
namespace Go.Proofs.YtebcfbcfipmahaaGreat
open Go.RowKit Go.Bv
set_option linter.unusedVariables false
theorem allowed_m (k : Int) (w : World) : Calls Tryz.prog 123 #[.int .i64 k] w fun e w' => e = .returned (.bool (!decide (k < 1 ∨ 64 < k))) ∧ w' = w := by
  by_cases h1 : 1 ≤ k
  · by_cases h2 : k ≤ 64
    · rw [show decide (k < 1 ∨ 64 < k) = false from decide_eq_false (by omega), Bool.not_false]
      go_enter Tryz.func123, Tryz.ntmps123
      go_wp2
      go_ret
      exact ⟨rfl, rfl⟩
    · rw [show decide (k < 1 ∨ 64 < k) = true from decide_eq_true (by omega), Bool.not_true]
      go_enter Tryz.func123, Tryz.ntmps123
      go_wp2
      go_ret
      exact ⟨rfl, rfl⟩
  · rw [show decide (k < 1 ∨ 64 < k) = true from decide_eq_true (by omega), Bool.not_true]
    go_enter Tryz.func123, Tryz.ntmps123
    go_wp2
    go_ret
    exact ⟨rfl, rfl⟩
theorem check_m (a : BitVec 64) (k : Int) (w : World) : Calls Tryz.prog 78 #[.int .u64 (W64 a), .int .i64 k] w fun e w' => e = .returned (.int .i64 (chkM a k)) ∧ w' = w := by
  have HA := Lib.hid (allowed_m k w)
  unfold chkM
  by_cases h : k < 1 ∨ 64 < k
  · rw [decide_eq_true h, Bool.not_true] at HA
    rw [if_pos h]
    clear h
    go_enter Tryz.func78, Tryz.ntmps78
    go_wp2_with fail
    refine HA.out.mono ?_
    rintro e w1 ⟨rfl, rfl⟩
    go_wp2
    go_ret
    exact ⟨rfl, rfl⟩
  · rw [decide_eq_false h, Bool.not_false] at HA
    rw [if_neg h]
    clear h
    by_cases h : a &&& 1#64 = 0#64
    · rw [if_pos h]
      have z1 : (a &&& 1#64 == 0#64) = true := by rw [h]; rfl
      clear h
      go_enter Tryz.func78, Tryz.ntmps78
      go_wp2_with fail
      refine HA.out.mono ?_
      rintro e w1 ⟨rfl, rfl⟩
      go_wp2
      go_ret
      exact ⟨rfl, rfl⟩
    · rw [if_neg h]
      have z1 : (a &&& 1#64 == 0#64) = false := beq_false_of_ne h
      clear h
      go_enter Tryz.func78, Tryz.ntmps78
      go_wp2_with fail
      refine HA.out.mono ?_
      rintro e w1 ⟨rfl, rfl⟩
      go_wp2
      go_ret
      exact ⟨rfl, rfl⟩
theorem rcheck_m (a : BitVec 64) (k : Int) (w : World) : Calls Tryz.prog 40 #[.int .u64 (W64 a), .int .i64 k] w fun e w' => e = .returned (.int .i64 (chkM a k)) ∧ w' = w := by
  unfold chkM
  by_cases h1 : k < 1
  · rw [if_pos (Or.inl h1)]
    go_enter Tryz.func40, Tryz.ntmps40
    go_wp2
    go_ret
    exact ⟨rfl, rfl⟩
  by_cases h2 : 64 < k
  · rw [if_pos (Or.inr h2)]
    go_enter Tryz.func40, Tryz.ntmps40
    go_wp2
    go_ret
    exact ⟨rfl, rfl⟩
  rw [if_neg (by omega)]
  by_cases h : a &&& 1#64 = 0#64
  · rw [if_pos h]
    have z1 : (a % 2#64 == 0#64) = true := by rw [even_and, h]; rfl
    clear h
    go_enter Tryz.func40, Tryz.ntmps40
    go_wp2
    go_ret
    exact ⟨rfl, rfl⟩
  · rw [if_neg h]
    have z1 : (a % 2#64 == 0#64) = false := by rw [even_and]; exact beq_false_of_ne h
    clear h
    go_enter Tryz.func40, Tryz.ntmps40
    go_wp2
    go_ret
    exact ⟨rfl, rfl⟩
/-- 64 less a number of bits -/
theorem bits_less {j t : Nat} (h : j + t = 64) : wrap64 (64 - (j : Int)) = (t : Int) := by unfold wrap64; omega
set_option maxHeartbeats 1000000 in
theorem top_m (x : BitVec 64) (j t : Nat) (hjt : j + t = 64) (w : World) : Calls Tryz.prog 31 #[.int .u64 (W64 x), .int .i64 (j : Int)] w fun e w' => e = .returned (.int .u64 (W64 (x >>> t))) ∧ w' = w := by
  have hb := bits_less hjt
  have H0 : Hid (x >>> 0 = x) := Lib.hid (by simp)
  go_enter Tryz.func31, Tryz.ntmps31
  go_wp2
  go_loop [0, 5] (fun X I => ∃ k : Nat, k ≤ t ∧ I = .int .i64 k ∧ X = .int .u64 (W64 (x >>> k))) (fun _ I => t - (intOf I).toNat)
  case atStart => exact ⟨0, by omega, rfl, by rw [H0.out]⟩
  case round =>
    obtain ⟨k, hk, rfl, rfl⟩ := hrel
    by_cases hlt : (k : Int) < (t : Int)
    · have hs := half_shift x k
      go_wp2
      exact ⟨⟨k + 1, by omega, by go_num, by first | rfl | rw [hs]⟩, by simp [intOf]; omega⟩
    · obtain rfl : k = t := by omega
      go_wp2
      go_ret
      exact ⟨rfl, rfl⟩
end Go.Proofs.YtebcfbcfipmahaaGreat
end
section
/- The contracts of package wide over natural numbers: a number of 128 bits is given by its two words. -/
namespace Go.Bv
open Go Go.RowKit
theorem two_n {A : Nat} (h : A < 2 ^ 128) : two (hiN A) (loN A) = A := two_parts A h
theorem hi_word (x : BitVec 64) : W64 (hiN x.toNat) = 0 := by
  have := x.isLt
  unfold hiN W64
  rw [Nat.div_eq_of_lt (by omega)]; rfl
theorem lo_word (x : BitVec 64) : loN x.toNat = x := by
  apply BitVec.eq_of_toNat_eq
  unfold loN
  rw [BitVec.toNat_ofNat, Nat.mod_eq_of_lt x.isLt]
end Go.Bv
namespace Go.Proofs.YtebcfbcfipmahaaGreat
open Go.RowKit Go.Bv
set_option linter.unusedVariables false
theorem shl_n (A m : Nat) (hA : A < 2 ^ 128) (hm : m ≤ 128) (w : World) : Calls Tryz.prog 157 #[.agg #[.int .u64 (W64 (hiN A)), .int .u64 (W64 (loN A))], .int .i64 (m : Int)] w fun e w' => e = .returned (.agg #[.int .u64 (W64 (hiN (A * 2 ^ m))), .int .u64 (W64 (loN (A * 2 ^ m)))]) ∧ New w w' := by
  have h := wshl_two (hiN A) (loN A) (m : Int) m m (by omega) (by omega) (by omega) w
  rw [two_n hA] at h
  exact h
theorem shr_n (A m : Nat) (hA : A < 2 ^ 128) (hm : m ≤ 128) (w : World) : Calls Tryz.prog 128 #[.agg #[.int .u64 (W64 (hiN A)), .int .u64 (W64 (loN A))], .int .i64 (m : Int)] w fun e w' => e = .returned (.agg #[.int .u64 (W64 (hiN (A / 2 ^ m))), .int .u64 (W64 (loN (A / 2 ^ m)))]) ∧ New w w' := by
  have h := wshr_two (hiN A) (loN A) (m : Int) m m (by omega) (by omega) (by omega) w
  rw [two_n hA] at h
  exact h
theorem times_n (A B : Nat) (hA : A < 2 ^ 128) (hB : B < 2 ^ 128) (w : World) : Calls Tryz.prog 134 #[.agg #[.int .u64 (W64 (hiN A)), .int .u64 (W64 (loN A))], .agg #[.int .u64 (W64 (hiN B)), .int .u64 (W64 (loN B))]] w fun e w' => e = .returned (.agg #[.int .u64 (W64 (hiN (A * B))), .int .u64 (W64 (loN (A * B)))]) ∧ New w w' := by
  have h := wtimes_two (hiN A) (loN A) (hiN B) (loN B) w
  rw [two_n hA, two_n hB] at h
  exact h
theorem add_n (A B : Nat) (hA : A < 2 ^ 128) (hB : B < 2 ^ 128) (w : World) : Calls Tryz.prog 142 #[.agg #[.int .u64 (W64 (hiN A)), .int .u64 (W64 (loN A))], .agg #[.int .u64 (W64 (hiN B)), .int .u64 (W64 (loN B))]] w fun e w' => e = .returned (.tuple #[.agg #[.int .u64 (W64 (hiN (A + B))), .int .u64 (W64 (loN (A + B)))], .bool (decide (2 ^ 128 ≤ A + B))]) ∧ New w w' := by
  have h := wadd_two (hiN A) (loN A) (hiN B) (loN B) w
  rw [two_n hA, two_n hB] at h
  exact h
theorem sub_n (A B : Nat) (hA : A < 2 ^ 128) (hB : B < 2 ^ 128) (w : World) : Calls Tryz.prog 159 #[.agg #[.int .u64 (W64 (hiN A)), .int .u64 (W64 (loN A))], .agg #[.int .u64 (W64 (hiN B)), .int .u64 (W64 (loN B))]] w fun e w' => e = .returned (.tuple #[.agg #[.int .u64 (W64 (hiN (A + 2 ^ 128 - B))), .int .u64 (W64 (loN (A + 2 ^ 128 - B)))], .bool (decide (A < B))]) ∧ New w w' := by
  have h := wsub_two (hiN A) (loN A) (hiN B) (loN B) w (A + 2 ^ 128 - B) (by rw [two_n hA, two_n hB]; omega)
  rw [two_n hA, two_n hB] at h
  exact h
end Go.Proofs.YtebcfbcfipmahaaGreat
end
section
/- Plain lemmas: a slice of bytes that is read: its bytes as a list; the number of bytes, the lowest first. -/
namespace Go.Bv
open Go Go.RowKit
/-- a slice of bytes that reads as l in the world w: its address, its length, its capacity -/
structure BRow (w : World) (a : Option Addr) (len cap : Nat) (l : List (BitVec 8)) : Prop where
  len_eq : l.length = len
  le : len ≤ cap
  most : len ≤ 140737488355328
  room : cap ≤ 9223372036854775807
  none : a = none → len = 0 ∧ cap = 0
  cell : ∀ b off, a = some ⟨b, off, Option.none⟩ → ∀ i, i < len → w.cell? ⟨b, off + i, Option.none⟩ = some (.int .u8 (W8 (l.getD i 0)))
  spot : ∀ x, a = some x → 0 < len → x.spot = Option.none
  old : ∀ x, a = some x → 0 < len → x.block < w.heap.size
theorem BRow.stay {w w' : World} {a : Option Addr} {len cap : Nat} {l : List (BitVec 8)} (h : BRow w a len cap l) (hn : New w w') : BRow w' a len cap l where
  len_eq := h.len_eq
  le := h.le
  most := h.most
  room := h.room
  none := h.none
  cell := fun b off e i hi => by
    have hb := h.old _ e (by omega)
    rw [hn.cell (a := ⟨b, off + i, Option.none⟩) hb]; exact h.cell b off e i hi
  spot := h.spot
  old := fun x e h0 => Nat.lt_of_lt_of_le (h.old x e h0) hn.le
theorem IRow.bytes {w : World} {a : Option Addr} {len cap : Nat} {zs : List Int} (h : IRow .u8 w a len cap zs) (hr : cap * 1 ≤ 140737488351232) : ∃ l, BRow w a len cap l := by
  rcases h with ⟨rfl, rfl, rfl, rfl⟩ | ⟨x, rfl, hl, hz, hc, hw⟩
  · exact ⟨[], ⟨rfl, Nat.le_refl _, by omega, by omega, fun _ => ⟨rfl, rfl⟩, (fun _ _ e => by cases e), (fun _ e => by cases e), (fun _ e => by cases e)⟩⟩
  · refine ⟨(zs.take len).map (BitVec.ofInt 8), ⟨by simp; omega, hl, by omega, by omega, (fun e => by cases e), ?_, ?_, ?_⟩⟩
    · intro b off e i hi
      cases e
      have := hc i (by omega)
      rw [add_plain] at this
      rw [this]
      have hi2 : i < zs.length := by omega
      have e1 : zs.getD i 0 = zs[i] := by rw [List.getD_eq_getElem?_getD, List.getElem?_eq_getElem hi2]; rfl
      have e2 : ((zs.take len).map (BitVec.ofInt 8)).getD i 0 = BitVec.ofInt 8 zs[i] := by
        rw [List.getD_eq_getElem?_getD, List.getElem?_map, List.getElem?_take, if_pos hi, List.getElem?_eq_getElem hi2]; rfl
      have hwf := hw zs[i] (List.getElem_mem hi2)
      obtain ⟨X, hX⟩ := ex8 zs[i] (by simp [Lit.wf, IntKind.min, IntKind.max, IntKind.signed, IntKind.bits] at hwf; omega)
      rw [e1, e2, hX, ofInt_W8]
    · intro y e h0; cases e; exact World.cell?_spot (hc 0 (by omega))
    · intro y e h0; cases e
      have := cell_block (hc 0 (by omega))
      simpa [Addr.add] using this
/-- a slice with elements has an address -/
theorem BRow.addr {w : World} {a : Option Addr} {len cap : Nat} {l : List (BitVec 8)} (h : BRow w a len cap l) (h0 : 0 < len) :
    ∃ b off, a = some ⟨b, off, Option.none⟩ ∧ ∀ i, i < len → w.cell? ⟨b, off + i, Option.none⟩ = some (.int .u8 (W8 (l.getD i 0))) := by
  cases a with
  | none => have := (h.none rfl).1; omega
  | some x =>
    obtain ⟨b, off, sp⟩ := x
    have hs := h.spot _ rfl h0
    obtain rfl : sp = Option.none := hs
    exact ⟨b, off, rfl, h.cell b off rfl⟩
/-- what append leaves reads as a list of bytes -/
theorem BRow.of_owns {w : World} {base : Nat} {e : TypeId} {v : Value} {n : Nat} {l : List (BitVec 8)} (h : w.ownsRow base e 1 v n (l.map fun x => .int .u8 (W8 x))) (hn : n ≤ 140737488355328) :
    ∃ a cap, v = .slice a n cap ∧ BRow w a n cap l := by
  obtain ⟨hl, h⟩ := h
  rw [List.length_map, Nat.mul_one] at hl
  rcases h with ⟨rfl, rfl⟩ | ⟨g, cap, cur, rfl, _, hc, hle, hm, hs, ht⟩
  · exact ⟨Option.none, 0, rfl, ⟨hl, Nat.le_refl _, by omega, by omega, fun _ => ⟨rfl, rfl⟩, (fun _ _ e => by cases e), (fun _ e => by cases e), (fun _ e => by cases e)⟩⟩
  · have hcell : ∀ i, i < n → w.cell? ⟨g, 0 + i, Option.none⟩ = some (.int .u8 (W8 (l.getD i 0))) := by
      intro i hi
      rw [Nat.zero_add]
      have hi2 : i < l.length := by omega
      have e1 : (cur.toList.take (n * 1))[i]? = some (.int .u8 (W8 (l.getD i 0))) := by
        rw [ht, List.getElem?_map, List.getD_eq_getElem?_getD, List.getElem?_eq_getElem hi2]; rfl
      rw [List.getElem?_take, if_pos (by omega)] at e1
      unfold World.cell?
      simp only [hc]
      simpa using e1
    refine ⟨some ⟨g, 0, Option.none⟩, cap, rfl, ⟨hl, hle, hn, hm, (fun e => by cases e), ?_, ?_, ?_⟩⟩
    · intro b off e i hi; cases e; exact hcell i hi
    · intro x e _; cases e; rfl
    · intro x e h0; cases e; exact cell_block (hcell 0 h0)
/-- the cells of a slice of bytes, as append's law asks for them -/
theorem BRow.olds {w : World} {a : Option Addr} {len cap : Nat} {l : List (BitVec 8)} (h : BRow w a len cap l) :
    ∀ b, a = some b → ∀ j u, (l.map fun x => Value.int .u8 (W8 x))[j]? = some u → w.cell? (b.add j) = some u := by
  intro b e j u hj
  rw [List.getElem?_map] at hj
  have hjl : j < l.length := by
    rcases Nat.lt_or_ge j l.length with h2 | h2
    · exact h2
    · rw [List.getElem?_eq_none h2] at hj; simp at hj
  have hj2 : j < len := by rw [← h.len_eq]; exact hjl
  obtain ⟨b', off, sp⟩ := b
  obtain rfl : sp = Option.none := h.spot _ e (by omega)
  rw [add_plain, h.cell b' off e j hj2, List.getD_eq_getElem?_getD, List.getElem?_eq_getElem hjl]
  rw [List.getElem?_eq_getElem hjl] at hj
  simpa using hj
/-- the number of bytes f 0, f 1 .., the lowest first -/
def num (f : Nat → BitVec 8) : Nat → BitVec 64
  | 0 => 0#64
  | n + 1 => num (fun i => f (i + 1)) n * 256#64 + (f 0).setWidth 64
theorem num_congr {f g : Nat → BitVec 8} : ∀ n, (∀ i, i < n → f i = g i) → num f n = num g n
  | 0, _ => rfl
  | n + 1, h => by
    simp only [num]
    rw [h 0 (by omega), num_congr n (f := fun i => f (i + 1)) (g := fun i => g (i + 1)) (fun i hi => h (i + 1) (by omega))]
end Go.Bv
end
section
/- Plain lemmas on numbers: a number whose powers reach all residues but 0; hence the power of each residue but 0 to the prime less 1 is 1. No program in sight. -/
namespace Go.Fer
/-- a power modulo p, in few steps -/
def powm (p : Nat) : Nat → Nat → Nat → Nat
  | 0, _, _ => 1 % p
  | f + 1, a, e => if e = 0 then 1 % p else if e % 2 = 1 then a * powm p f (a * a % p) (e / 2) % p else powm p f (a * a % p) (e / 2)
theorem pow_mod_base (a e p : Nat) : (a % p) ^ e % p = a ^ e % p := (Nat.pow_mod a e p).symm
theorem powm_eq (p : Nat) : ∀ f a e, e < 2 ^ f → powm p f a e = a ^ e % p := by
  intro f
  induction f with
  | zero => intro a e h; have : e = 0 := by omega
            subst this; simp [powm]
  | succ f ih =>
    intro a e h
    unfold powm
    by_cases h0 : e = 0
    · subst h0; simp
    · rw [if_neg h0, ih _ _ (by rw [Nat.pow_succ] at h; omega), pow_mod_base]
      have e2 : (a * a) ^ (e / 2) = a ^ (2 * (e / 2)) := by rw [Nat.pow_mul, Nat.pow_two]
      rw [e2]
      split
      · rename_i h1
        rw [Nat.mul_mod, Nat.mod_mod, ← Nat.mul_mod, ← Nat.pow_succ']
        congr 2; omega
      · congr 2; omega
/-- q is a prime, as far as it is needed: whatever divides it is 1 or it -/
def Pr (q : Nat) : Prop := ∀ d, d ∣ q → d = 1 ∨ d = q
/-- no number from d on, with f of them, divides q -/
def noDiv (q : Nat) : Nat → Nat → Bool
  | 0, _ => true
  | f + 1, d => (q % d != 0) && noDiv q f (d + 1)
theorem noDiv_out (q : Nat) : ∀ f d, noDiv q f d = true → ∀ x, d ≤ x → x < d + f → ¬ x ∣ q := by
  intro f
  induction f with
  | zero => intro d _ x h1 h2; omega
  | succ f ih =>
    intro d h x h1 h2
    simp only [noDiv, Bool.and_eq_true, bne_iff_ne, ne_eq] at h
    rcases Nat.lt_or_ge d x with h3 | h3
    · exact ih (d + 1) h.2 x h3 (by omega)
    · have : x = d := by omega
      subst this
      exact fun hd => h.1 (Nat.mod_eq_zero_of_dvd hd)
theorem pr_of (q r : Nat) (h1 : q ≤ r * r + 2 * r) (hq : 1 < q) (h : noDiv q (r - 1) 2 = true) : Pr q := by
  intro d hd
  obtain ⟨e, he⟩ := hd
  have hno := noDiv_out q (r - 1) 2 h
  rcases Nat.lt_or_ge 1 d with h2 | h2
  · rcases Nat.lt_or_ge 1 e with h3 | h3
    · exfalso
      by_cases hdr : d ≤ r
      · exact hno d (by omega) (by omega) ⟨e, he⟩
      · by_cases her : e ≤ r
        · exact hno e (by omega) (by omega) ⟨d, by rw [he, Nat.mul_comm]⟩
        · have : (r + 1) * (r + 1) ≤ d * e := Nat.mul_le_mul (by omega) (by omega)
          rw [← he] at this
          have e3 : (r + 1) * (r + 1) = r * r + 2 * r + 1 := by rw [Nat.add_mul, Nat.mul_add]; omega
          omega
    · right
      have : e = 1 := by
        rcases Nat.eq_zero_or_pos e with h4 | h4
        · subst h4; omega
        · omega
      subst this; omega
  · left
    rcases Nat.eq_zero_or_pos d with h4 | h4
    · subst h4; omega
    · omega
/-- the product of a list -/
def prod : List Nat → Nat
  | [] => 1
  | q :: l => q * prod l
theorem factor_in : ∀ (l : List Nat), (∀ q ∈ l, Pr q) → ∀ m, 1 < m → m ∣ prod l → ∃ q ∈ l, q ∣ m := by
  intro l
  induction l with
  | nil => intro _ m h1 h2; exact absurd (Nat.le_of_dvd (by decide) h2) (by simp [prod]; omega)
  | cons q l ih =>
    intro hp m h1 h2
    rcases hp q (List.mem_cons_self ..) (Nat.gcd m q) (Nat.gcd_dvd_right m q) with h | h
    · obtain ⟨r, hr, hd⟩ := ih (fun x hx => hp x (List.mem_cons_of_mem _ hx)) m h1 (Nat.Coprime.dvd_of_dvd_mul_left (show Nat.Coprime m q from h) h2)
      exact ⟨r, List.mem_cons_of_mem _ hr, hd⟩
    · exact ⟨q, List.mem_cons_self .., by rw [← h]; exact Nat.gcd_dvd_left m q⟩
/-- one for one into as many is onto -/
theorem onto : ∀ (n : Nat) (f : Nat → Nat), (∀ i, i < n → f i < n) → (∀ i j, i < n → j < n → f i = f j → i = j) → ∀ y, y < n → ∃ i, i < n ∧ f i = y := by
  intro n
  induction n with
  | zero => intro f _ _ y h; omega
  | succ n ih =>
    intro f hlt hinj y hy
    by_cases hn : ∃ k, k < n + 1 ∧ f k = n
    · obtain ⟨k, hk, hfk⟩ := hn
      by_cases hyn : y = n
      · exact ⟨k, hk, by rw [hfk, hyn]⟩
      · -- leave k out: g i = f i, but at k it is f n
        have key := ih (fun i => if i = k then f n else f i) (by
            intro i hi
            show (if i = k then f n else f i) < n
            split
            · rename_i e
              have := hlt n (by omega)
              have hne : f n ≠ n := by
                intro h2
                have := hinj n k (by omega) hk (by rw [h2, hfk])
                omega
              omega
            · rename_i e
              have := hlt i (by omega)
              have hne : f i ≠ n := by
                intro h2
                exact e (hinj i k (by omega) hk (by rw [h2, hfk]))
              omega) (by
            intro i j hi hj h2
            try simp only at h2
            split at h2 <;> split at h2
            · omega
            · rename_i e1 e2
              have := hinj n j (by omega) (by omega) h2
              omega
            · rename_i e1 e2
              have := hinj i n (by omega) (by omega) h2
              omega
            · exact hinj i j (by omega) (by omega) h2) y (by omega)
        obtain ⟨i, hi, h3⟩ := key
        try simp only at h3
        split at h3
        · exact ⟨n, by omega, h3⟩
        · exact ⟨i, by omega, h3⟩
    · exfalso
      have hlt2 : ∀ i, i < n + 1 → f i < n := by
        intro i hi
        have := hlt i hi
        have : f i ≠ n := fun h => hn ⟨i, hi, h⟩
        omega
      rcases Nat.eq_zero_or_pos n with h0 | h0
      · subst h0; have := hlt2 0 (by omega); omega
      · obtain ⟨i, hi, h3⟩ := ih f (fun i hi => hlt2 i (by omega)) (fun i j hi hj h => hinj i j (by omega) (by omega) h) (f n) (hlt2 n (by omega))
        have := hinj i n (by omega) (by omega) h3
        omega
theorem one_mod {p : Nat} (hp : 1 < p) : 1 % p = 1 := Nat.mod_eq_of_lt hp
/-- the least number of steps behind which the powers of g are 1 again divides each such number -/
theorem order_dvd {p g : Nat} (hp : 1 < p) (d : Nat) (hd0 : 0 < d) (hd : g ^ d % p = 1) (hmin : ∀ k, 0 < k → k < d → g ^ k % p ≠ 1) (n : Nat) (hn : g ^ n % p = 1) : d ∣ n := by
  apply Nat.dvd_of_mod_eq_zero
  by_cases h0 : n % d = 0
  · exact h0
  · exfalso
    apply hmin (n % d) (by omega) (Nat.mod_lt _ hd0)
    have e : n = d * (n / d) + n % d := (Nat.div_add_mod n d).symm
    rw [e, Nat.pow_add, Nat.mul_mod, Nat.pow_mul, Nat.pow_mod, hd, Nat.one_pow, one_mod hp, Nat.one_mul, Nat.mod_mod] at hn
    exact hn
/-- the numbers that make p a prime's field: g's powers are 1 behind p - 1 steps, and not behind any (p - 1) / q -/
structure Gen (p g : Nat) (l : List Nat) : Prop where
  big : 1 < p
  prod : prod l = p - 1
  prs : ∀ q ∈ l, Pr q
  one : g ^ (p - 1) % p = 1
  not : ∀ q ∈ l, g ^ ((p - 1) / q) % p ≠ 1
theorem Gen.order {p g : Nat} {l : List Nat} (h : Gen p g l) : ∀ k, 0 < k → k < p - 1 → g ^ k % p ≠ 1 := by
  -- the least one
  have hex : ∃ d, 0 < d ∧ d ≤ p - 1 ∧ g ^ d % p = 1 ∧ ∀ k, 0 < k → k < d → g ^ k % p ≠ 1 := by
    have hall : ∀ n, (∃ d, 0 < d ∧ d ≤ n ∧ g ^ d % p = 1 ∧ ∀ k, 0 < k → k < d → g ^ k % p ≠ 1) ∨ ∀ k, 0 < k → k ≤ n → g ^ k % p ≠ 1 := by
      intro n
      induction n with
      | zero => exact Or.inr (fun k h1 h2 => by omega)
      | succ n ih =>
        rcases ih with ⟨d, h1, h2, h3⟩ | ih
        · exact Or.inl ⟨d, h1, by omega, h3⟩
        · by_cases h4 : g ^ (n + 1) % p = 1
          · exact Or.inl ⟨n + 1, by omega, Nat.le_refl _, h4, fun k h5 h6 => ih k h5 (by omega)⟩
          · refine Or.inr (fun k h5 h6 => ?_)
            rcases Nat.lt_or_ge k (n + 1) with h7 | h7
            · exact ih k h5 (by omega)
            · have : k = n + 1 := by omega
              rw [this]; exact h4
    rcases hall (p - 1) with h1 | h1
    · exact h1
    · exact absurd h.one (h1 (p - 1) (by have := h.big; omega) (Nat.le_refl _))
  obtain ⟨d, hd0, hdp, hd1, hmin⟩ := hex
  have hdv := order_dvd h.big d hd0 hd1 hmin (p - 1) h.one
  obtain ⟨m, hm⟩ := hdv
  have hp1 : 0 < p - 1 := by have := h.big; omega
  have hm0 : 0 < m := by
    rcases Nat.eq_zero_or_pos m with h0 | h0
    · subst h0; omega
    · exact h0
  have hm1 : m = 1 := by
    rcases Nat.lt_or_ge 1 m with h2 | h2
    · exfalso
      obtain ⟨q, hq, r, hr⟩ := factor_in l h.prs m h2 (by rw [h.prod, hm]; exact Nat.dvd_mul_left m d)
      have hq0 : 0 < q := by
        rcases Nat.eq_zero_or_pos q with h0 | h0
        · subst h0; omega
        · exact h0
      apply h.not q hq
      have e : (p - 1) / q = d * r := by
        rw [hm, hr, show d * (q * r) = q * (d * r) from by rw [← Nat.mul_assoc, Nat.mul_comm d q, Nat.mul_assoc]]
        exact Nat.mul_div_cancel_left _ hq0
      rw [e, Nat.pow_mul, Nat.pow_mod, hd1, Nat.one_pow, one_mod h.big]
    · omega
  subst hm1
  rw [Nat.mul_one] at hm
  rw [hm]
  exact hmin
theorem Gen.step {p g : Nat} {l : List Nat} (h : Gen p g l) (i : Nat) (hi : i ≤ p - 1) : (g ^ i * g ^ (p - 1 - i)) % p = 1 := by
  rw [← Nat.pow_add, show i + (p - 1 - i) = p - 1 by omega]; exact h.one
/-- each residue but 0 is a power of g -/
theorem Gen.reach {p g : Nat} {l : List Nat} (h : Gen p g l) (a : Nat) (ha : a % p ≠ 0) : ∃ i, i < p - 1 ∧ g ^ i % p = a % p := by
  have hb := h.big
  have hpos : ∀ i, i ≤ p - 1 → g ^ i % p ≠ 0 := by
    intro i hi h0
    have := h.step i hi
    rw [Nat.mul_mod, h0, Nat.zero_mul, Nat.zero_mod] at this
    omega
  obtain ⟨i, hi, he⟩ := onto (p - 1) (fun i => g ^ i % p - 1) (by
      intro i hi
      have := hpos i (by omega)
      have := Nat.mod_lt (g ^ i) (show 0 < p by omega)
      show g ^ i % p - 1 < p - 1
      omega) (by
      have key : ∀ i j, i < j → j < p - 1 → g ^ i % p = g ^ j % p → False := by
        intro i j hij hj he
        apply h.order (j - i) (by omega) (by omega)
        have e1 : (g ^ (p - 1 - i) * g ^ i) % p = 1 := by rw [Nat.mul_comm]; exact h.step i (by omega)
        have e2 : g ^ (p - 1 - i) * g ^ j = g ^ (p - 1) * g ^ (j - i) := by rw [← Nat.pow_add, ← Nat.pow_add]; congr 1; omega
        have e3 : (g ^ (p - 1 - i) * g ^ i) % p = (g ^ (p - 1 - i) * g ^ j) % p := by rw [Nat.mul_mod, he, ← Nat.mul_mod]
        rw [e2, Nat.mul_mod (g ^ (p - 1)), h.one, Nat.one_mul, Nat.mod_mod] at e3
        rw [← e3, e1]
      intro i j hi hj he
      have he2 : g ^ i % p = g ^ j % p := by
        have := hpos i (by omega)
        have := hpos j (by omega)
        try simp only at he
        omega
      rcases Nat.lt_trichotomy i j with h1 | h1 | h1
      · exact absurd (key i j h1 hj he2) id
      · exact h1
      · exact absurd (key j i h1 hi he2.symm) id) (a % p - 1) (by have := Nat.mod_lt a (show 0 < p by omega); omega)
  refine ⟨i, hi, ?_⟩
  have := hpos i (by omega)
  try simp only at he
  omega
/-- the power of each residue but 0 to the prime less 1 is 1 -/
theorem Gen.fermat {p g : Nat} {l : List Nat} (h : Gen p g l) (a : Nat) (ha : a % p ≠ 0) : a ^ (p - 1) % p = 1 := by
  obtain ⟨i, _, he⟩ := h.reach a ha
  rw [Nat.pow_mod, ← he, ← Nat.pow_mod, ← Nat.pow_mul, Nat.mul_comm, Nat.pow_mul, Nat.pow_mod, h.one, Nat.one_pow, one_mod h.big]
/-- products of what isn't 0 aren't 0 -/
theorem Gen.mul_ne {p g : Nat} {l : List Nat} (h : Gen p g l) (a b : Nat) (ha : a % p ≠ 0) (hb : b % p ≠ 0) : a * b % p ≠ 0 := by
  intro h0
  have e : (a * b) ^ (p - 1) % p = 1 := by rw [Nat.mul_pow, Nat.mul_mod, h.fermat a ha, h.fermat b hb, Nat.mul_one, one_mod h.big]
  rw [Nat.pow_mod, h0, Nat.zero_pow (by have := h.big; omega), Nat.zero_mod] at e
  omega
/-- a number's inverse as a power -/
theorem Gen.inv {p g : Nat} {l : List Nat} (h : Gen p g l) (hp : 2 < p) (a : Nat) (ha : a % p ≠ 0) : a * (a ^ (p - 2) % p) % p = 1 := by
  rw [Nat.mul_mod, Nat.mod_mod, ← Nat.mul_mod, ← Nat.pow_succ', show (p - 2).succ = p - 1 by omega]; exact h.fermat a ha
theorem gen_of (p g f : Nat) (l : List Nat) (hp : 1 < p) (hf : p - 1 < 2 ^ f) (h1 : prod l = p - 1) (h2 : ∀ q ∈ l, Pr q) (h3 : powm p f g (p - 1) = 1)
    (h4 : (l.all fun q => powm p f g ((p - 1) / q) != 1) = true) : Gen p g l where
  big := hp
  prod := h1
  prs := h2
  one := by rw [← powm_eq p f g (p - 1) hf]; exact h3
  not := by
    intro q hq
    have := List.all_eq_true.1 h4 q hq
    rw [powm_eq p f g _ (Nat.lt_of_le_of_lt (Nat.div_le_self _ _) hf)] at this
    simpa using this
theorem pr_small (q : Nat) (h : (decide (q ≤ (q - 2) * (q - 2) + 2 * (q - 2)) && decide (1 < q) && noDiv q (q - 2 - 1) 2) = true) : Pr q := by
  simp only [Bool.and_eq_true, decide_eq_true_eq] at h
  exact pr_of q (q - 2) h.1.1 h.1.2 h.2
theorem pr2 : Pr 2 := by
  intro d hd
  have := Nat.le_of_dvd (by decide) hd
  rcases hd with ⟨e, he⟩
  rcases Nat.eq_zero_or_pos d with h | h
  · subst h; omega
  · omega
theorem pr3 : Pr 3 := by
  intro d hd
  have := Nat.le_of_dvd (by decide) hd
  have h2 : ¬ (2 ∣ 3) := by decide
  rcases hd with ⟨e, he⟩
  rcases Nat.eq_zero_or_pos d with h | h
  · subst h; omega
  · by_cases h3 : d = 2
    · subst h3; exact absurd ⟨e, he⟩ h2
    · omega
theorem all_pr (l : List Nat) (h : (l.all fun q => q == 2 || q == 3 || (decide (q ≤ (q - 2) * (q - 2) + 2 * (q - 2)) && decide (1 < q) && noDiv q (q - 2 - 1) 2)) = true) : ∀ q ∈ l, Pr q := by
  intro q hq
  have := List.all_eq_true.1 h q hq
  simp only [Bool.or_eq_true, beq_iff_eq] at this
  rcases this with (h1 | h1) | h1
  · rw [h1]; exact pr2
  · rw [h1]; exact pr3
  · exact pr_small q h1
def P31 : Nat := 2147483647
def P61 : Nat := 2305843009213693951
def P89 : Nat := 618970019642690137449562111
theorem gen61 : Gen P61 37 [2, 3, 3, 5, 5, 7, 11, 13, 31, 41, 61, 151, 331, 1321] :=
  gen_of _ _ 61 _ (by decide +kernel) (by decide +kernel) (by decide +kernel) (all_pr _ (by decide +kernel)) (by decide +kernel) (by decide +kernel)
end Go.Fer
end
