/- Plain lemmas: values of sums and products of polynomials; division by X less a number. -/
import Derived.Test.YtebcfbcfipmahaaGreatPolM
namespace Go.Bv
open Go Go.RowKit
set_option linter.unusedVariables false
theorem pv_add (f g : Nat → Nat) (x : Nat) : ∀ n, pv (fun i => f i + g i) x n = pv f x n + pv g x n
  | 0 => rfl
  | n + 1 => by
    show pv (fun i => f i + g i) x n + (f n + g n) * x ^ n = (pv f x n + f n * x ^ n) + (pv g x n + g n * x ^ n)
    rw [pv_add f g x n, Nat.add_mul]; omega
theorem pv_none (f : Nat → Nat) (x : Nat) : ∀ n, (∀ i, i < n → f i = 0) → pv f x n = 0
  | 0, _ => rfl
  | n + 1, h => by
    show pv f x n + f n * x ^ n = 0
    rw [pv_none f x n (fun i hi => h i (by omega)), h n (by omega), Nat.zero_mul]
theorem pv_shift (g : Nat → Nat) (x c i : Nat) : ∀ d, pv (fun k => if i ≤ k then c * g (k - i) else 0) x (i + d) = c * x ^ i * pv g x d
  | 0 => by
    rw [pv_none _ _ _ (fun k hk => by show (if i ≤ k then _ else 0) = 0; rw [if_neg (by omega)])]
    simp [pv]
  | d + 1 => by
    show pv (fun k => if i ≤ k then c * g (k - i) else 0) x (i + d) + (if i ≤ i + d then c * g (i + d - i) else 0) * x ^ (i + d) = c * x ^ i * (pv g x d + g d * x ^ d)
    rw [pv_shift g x c i d, if_pos (by omega), Nat.add_sub_cancel_left, Nat.mul_add, Nat.pow_add]
    have e : c * g d * (x ^ i * x ^ d) = c * x ^ i * (g d * x ^ d) := by
      rw [Nat.mul_assoc, Nat.mul_assoc, Nat.mul_left_comm (g d)]
    rw [e]
theorem pv_cs (f g : Nat → Nat) (x nb : Nat) (hg : ∀ i, nb ≤ i → g i = 0) : ∀ i N, i + nb ≤ N → pv (fun k => cs f g i k) x N = pv f x i * pv g x nb
  | 0, N, _ => by
    rw [pv_none (fun k => cs f g 0 k) x N (fun k hk => rfl)]; simp [pv]
  | i + 1, N, h => by
    have e1 : pv (fun k => cs f g (i + 1) k) x N = pv (fun k => cs f g i k + (if i ≤ k then f i * g (k - i) else 0)) x N := rfl
    have e2 := pv_shift g x (f i) i (N - i)
    rw [show i + (N - i) = N by omega] at e2
    have e3 := pv_far g x nb hg (N - i - nb)
    rw [show nb + (N - i - nb) = N - i by omega] at e3
    rw [e1, pv_add, pv_cs f g x nb hg i N (by omega), e2, e3]
    show _ = (pv f x i + f i * x ^ i) * pv g x nb
    rw [Nat.add_mul]
theorem nv_nf (l : List (BitVec 64)) (x : BitVec 64) : nv l x = pv (nf l) x.toNat l.length := rfl
theorem nv_nf_up (l : List (BitVec 64)) (x : BitVec 64) (n : Nat) (h : l.length ≤ n) : nv l x = pv (nf l) x.toNat n := nv_up l x n h
theorem nv_add (a b : List (BitVec 64)) (x : BitVec 64) : mp (nv (addL a b) x) = mp (nv a x + nv b x) := by
  have hl : (addL a b).length = max a.length b.length := by unfold addL; exact addP_len _ _ _
  rw [nv_nf, hl, nv_nf_up a x (max a.length b.length) (by omega), nv_nf_up b x (max a.length b.length) (by omega), ← pv_add]
  apply mp_congr
  refine pv_mod _ _ (fun i hi => ?_)
  have h := addL_cm a b i
  unfold cm at h
  exact mp_iff.1 h
theorem nv_mul (a b : List (BitVec 64)) (x : BitVec 64) : mp (nv (mulL a b) x) = mp (nv a x * nv b x) := by
  have hl : (mulL a b).length = a.length + b.length := by unfold mulL; exact mulP_len _ _ _
  rw [nv_nf, hl, nv_nf a, nv_nf b, ← pv_cs (nf a) (nf b) x.toNat b.length (fun i hi => nf_far b i hi) a.length (a.length + b.length) (Nat.le_refl _)]
  apply mp_congr
  refine pv_mod _ _ (fun i hi => ?_)
  have h := mulL_cm a b i
  unfold cm at h
  rw [← cs_len] at h
  exact mp_iff.1 h
theorem nv_trim (l : List (BitVec 64)) (x : BitVec 64) : mp (nv (trimL l) x) = mp (nv l x) := nv_mod x (trimL_cm l)
theorem nv_one (v : BitVec 64) : nv [v] 0#64 = v.toNat := by
  show 0 + nf [v] 0 * (0#64).toNat ^ 0 = v.toNat
  rw [Nat.pow_zero, Nat.mul_one, Nat.zero_add]; rfl
theorem sum_value (a b : List (BitVec 64)) (x : BitVec 64) : mp (nv (trimL (addL a b)) x) = mp (nv (trimL (addL [mp (nv a x)] [mp (nv b x)])) 0#64) := by
  rw [nv_trim, nv_trim, nv_add, nv_add, nv_one, nv_one, mp_add]
theorem mul_value (a b : List (BitVec 64)) (x : BitVec 64) : mp (nv (trimL (mulL a b)) x) = mp (nv (trimL (mulL [mp (nv a x)] [mp (nv b x)])) 0#64) := by
  rw [nv_trim, nv_trim, nv_mul, nv_mul, nv_one, nv_one, mp_mul]
/-- a number and what is added to it to make 0 -/
theorem neg_sum (x m : BitVec 64) (h : m = (2305843009213693951#64 - x % 2305843009213693951#64) % 2305843009213693951#64) : (x.toNat + m.toNat) % PP = 0 := by
  have e0 : (2305843009213693951#64).toNat = PP := rfl
  have h1 : (x % 2305843009213693951#64).toNat = x.toNat % PP := by rw [BitVec.toNat_umod, e0]
  have h2 := Nat.mod_lt x.toNat PP_pos
  have h3 : (2305843009213693951#64 - x % 2305843009213693951#64).toNat = PP - x.toNat % PP := by
    rw [BitVec.toNat_sub_of_le (by rw [BitVec.le_def, h1, e0]; omega), h1, e0]
  rw [h, BitVec.toNat_umod, h3, e0, Nat.add_mod_mod]
  have h4 : x.toNat + (PP - x.toNat % PP) = PP * (x.toNat / PP) + PP := by
    have := Nat.div_add_mod x.toNat PP
    omega
  rw [h4, Nat.mul_add_mod, Nat.mod_self]
theorem cs_two (q : List (BitVec 64)) (m : BitVec 64) (i : Nat) : cs (nf q) (nf [m, 1#64]) (i + 1) i = nf q i * m.toNat + (if i = 0 then 0 else nf q (i - 1)) := by
  have hb : ∀ d, 2 ≤ d → nf [m, 1#64] d = 0 := fun d hd => nf_far _ d hd
  have hz : ∀ j, j + 1 ≤ i → cs (nf q) (nf [m, 1#64]) j i = 0 := by
    intro j
    induction j with
    | zero => intro _; rfl
    | succ j ih =>
      intro hj
      show cs (nf q) (nf [m, 1#64]) j i + (if j ≤ i then nf q j * nf [m, 1#64] (i - j) else 0) = 0
      rw [ih (by omega), if_pos (by omega), hb (i - j) (by omega), Nat.mul_zero]
  have e1 : nf [m, 1#64] 0 = m.toNat := rfl
  have e2 : nf [m, 1#64] 1 = 1 := rfl
  show cs (nf q) (nf [m, 1#64]) i i + (if i ≤ i then nf q i * nf [m, 1#64] (i - i) else 0) = _
  rw [if_pos (Nat.le_refl _), Nat.sub_self, e1]
  cases i with
  | zero => show 0 + nf q 0 * m.toNat = nf q 0 * m.toNat + 0; omega
  | succ j =>
    show (cs (nf q) (nf [m, 1#64]) j (j + 1) + (if j ≤ j + 1 then nf q j * nf [m, 1#64] (j + 1 - j) else 0)) + nf q (j + 1) * m.toNat = _
    rw [hz j (by omega), if_pos (by omega), show j + 1 - j = 1 by omega, e2, if_neg (by omega), Nat.mul_one, Nat.add_sub_cancel]
    omega
theorem divide_back (a : List (BitVec 64)) (x m : BitVec 64) (hm : m = (2305843009213693951#64 - x % 2305843009213693951#64) % 2305843009213693951#64) :
    trimL (addL (trimL (mulL (trimL (dq a x)) [m, 1#64])) [mp (nv a x)]) = trimL a := by
  apply trimL_ext
  intro i
  rw [addL_cm]
  have hq : ∀ i, nf (trimL (dq a x)) i = (mp (hz a x (i + 1))).toNat := fun i => by
    unfold nf; rw [trimL_get, dq_cm]
  have h1 : nf (trimL (mulL (trimL (dq a x)) [m, 1#64])) i = (mp (cs (nf (trimL (dq a x))) (nf [m, 1#64]) (i + 1) i)).toNat := by
    unfold nf; rw [trimL_get, mulL_cm]; rfl
  rw [h1, cs_two, hq, mp_toNat, mp_toNat]
  unfold cm
  apply mp_congr
  have hs := hz_step a x i
  have hn := neg_sum x m hm
  have key : (hz a x (i + 1) * m.toNat + hz a x i) % PP = nf a i % PP := by
    rw [hs]
    have e : hz a x (i + 1) * m.toNat + ((a.getD i 0).toNat + x.toNat * hz a x (i + 1)) = (a.getD i 0).toNat + hz a x (i + 1) * (x.toNat + m.toNat) := by
      rw [Nat.mul_add, Nat.mul_comm x.toNat]; omega
    rw [e, Nat.add_mod, Nat.mul_mod, hn, Nat.mul_zero, Nat.zero_mod, Nat.add_zero, Nat.mod_mod]
    rfl
  rw [show (a.getD i 0).toNat = nf a i from rfl, ← key]
  by_cases h0 : i = 0
  · subst h0
    rw [if_pos rfl, Nat.add_zero, hz_zero]
    have e1 : nf [mp (nv a x)] 0 = nv a x % PP := mp_toNat _
    rw [e1, Nat.mod_add_mod, Nat.add_mod_mod, Nat.add_mod, Nat.mod_mul_mod, ← Nat.add_mod]
  · rw [if_neg h0, nf_far [mp (nv a x)] i (by show 1 ≤ i; omega), Nat.add_zero, Nat.mod_mod, hq, mp_toNat, show i - 1 + 1 = i by omega, Nat.add_mod_mod, Nat.add_mod, Nat.mod_mul_mod, ← Nat.add_mod]
end Go.Bv
