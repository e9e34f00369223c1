/- Mathematics of decimal digits: so many digits of a number; numbers put together; the number that digits tell. -/
import Derived.Test.YtagidgboebjkhaaDoorFouM
import Derived.Lib.ItoaNum
import Derived.Lib.Repeat
import Derived.Lib.LaidTab
namespace Go.Bv
open Go Go.RowKit
theorem dg_zero (n : Nat) : Lib.dg n 0 = UInt8.ofNat (48 + n % 10) := by unfold Lib.dg; rw [Nat.pow_zero, Nat.div_one]
/-- the lowest k digits of a number -/
def padD : Nat → Nat → List UInt8
  | 0, _ => []
  | k + 1, n => padD k (n / 10) ++ [UInt8.ofNat (48 + n % 10)]
theorem padD_len (k n : Nat) : (padD k n).length = k := by
  induction k generalizing n with
  | zero => rfl
  | succ k ih => rw [padD, List.length_append, ih]; rfl
theorem dec_small {n : Nat} (h : n < 10) : Lib.decDigits n = [UInt8.ofNat (48 + n)] := by rw [Lib.decDigits, dif_pos h]
theorem dec_big {n : Nat} (h : ¬ n < 10) : Lib.decDigits n = Lib.decDigits (n / 10) ++ [UInt8.ofNat (48 + n % 10)] := by
  conv => lhs; rw [Lib.decDigits, dif_neg h]
theorem padD_dec (n : Nat) : padD (Lib.nDigits n) n = Lib.decDigits n := by
  induction n using Nat.strongRecOn with
  | _ n ih =>
    by_cases h : n < 10
    · rw [Lib.nDigits_small h, dec_small h, padD, padD, Nat.mod_eq_of_lt h]; rfl
    · rw [Lib.nDigits_big h, dec_big h, padD, ih (n / 10) (by omega)]
theorem padD_add (i : Nat) : ∀ (j r B : Nat), B < 10 ^ j → padD (i + j) (r * 10 ^ j + B) = padD i r ++ padD j B := by
  intro j
  induction j with
  | zero =>
    intro r B hB
    have : B = 0 := by simpa using hB
    subst this
    simp [padD]
  | succ j ih =>
    intro r B hB
    rw [Nat.pow_succ] at hB
    have e1 : (r * 10 ^ (j + 1) + B) / 10 = r * 10 ^ j + B / 10 := by rw [Nat.pow_succ, ← Nat.mul_assoc]; omega
    have e2 : (r * 10 ^ (j + 1) + B) % 10 = B % 10 := by rw [Nat.pow_succ, ← Nat.mul_assoc]; omega
    rw [show i + (j + 1) = (i + j) + 1 from rfl, padD, e1, e2, ih r (B / 10) (by omega), padD, List.append_assoc]
theorem dec_split (j : Nat) : ∀ (r B : Nat), B < 10 ^ j → (0 < r ∨ j = 0) → Lib.decDigits (r * 10 ^ j + B) = Lib.decDigits r ++ padD j B := by
  induction j with
  | zero =>
    intro r B hB _
    have : B = 0 := by simpa using hB
    subst this
    simp [padD]
  | succ j ih =>
    intro r B hB hr
    have hr' : 0 < r := by omega
    have hp : 0 < r * 10 ^ j := Nat.mul_pos hr' (Nat.pow_pos (by omega))
    rw [Nat.pow_succ] at hB
    have e1 : (r * 10 ^ (j + 1) + B) / 10 = r * 10 ^ j + B / 10 := by rw [Nat.pow_succ, ← Nat.mul_assoc]; omega
    have e2 : (r * 10 ^ (j + 1) + B) % 10 = B % 10 := by rw [Nat.pow_succ, ← Nat.mul_assoc]; omega
    have e3 : ¬ r * 10 ^ (j + 1) + B < 10 := by rw [Nat.pow_succ, ← Nat.mul_assoc]; omega
    rw [dec_big e3, e1, e2, ih r (B / 10) (by omega) (.inl hr'), padD, List.append_assoc]
theorem padD_zero (k : Nat) : padD k 0 = List.replicate k 48 := by
  induction k with
  | zero => rfl
  | succ k ih => rw [padD, Nat.zero_div, ih, List.replicate_succ']; rfl
theorem padD_wide (z m u : Nat) (h : u < 10 ^ m) : padD (z + m) u = List.replicate z 48 ++ padD m u := by
  have := padD_add z m 0 u h
  rw [Nat.zero_mul, Nat.zero_add, padD_zero] at this
  exact this
theorem nDig_le : ∀ (k u : Nat), 1 ≤ k → u < 10 ^ k → Lib.nDigits u ≤ k
  | 0, u, h1, _ => by omega
  | 1, u, _, h => by rw [Lib.nDigits_small (by simpa using h)]; exact Nat.le_refl _
  | k + 2, u, _, h => by
    by_cases h10 : u < 10
    · rw [Lib.nDigits_small h10]; omega
    · rw [Lib.nDigits_big h10]
      have := nDig_le (k + 1) (u / 10) (by omega) (by rw [Nat.pow_succ] at h; omega)
      omega
/-- nineteen digits, written with zeros ahead -/
theorem padD_19 (u : Nat) (h : u < 10 ^ 19) : padD 19 u = List.replicate (19 - Lib.nDigits u) 48 ++ Lib.decDigits u := by
  have hn : Lib.nDigits u ≤ 19 := nDig_le 19 u (by omega) h
  rw [← padD_dec u, ← padD_wide (19 - Lib.nDigits u) (Lib.nDigits u) u (Lib.lt_pow_nDigits u), Nat.sub_add_cancel hn]
/-- the number that digits tell -/
def vD (l : List UInt8) : Nat := l.foldl (fun n c => n * 10 + (c.toNat - 48)) 0
theorem vD_snoc (l : List UInt8) (c : UInt8) : vD (l ++ [c]) = vD l * 10 + (c.toNat - 48) := by unfold vD; rw [List.foldl_append]; rfl
theorem vD_take (l : List UInt8) (k : Nat) (h : k < l.length) : vD (l.take (k + 1)) = vD (l.take k) * 10 + (l[k].toNat - 48) := by
  rw [List.take_succ_eq_append_getElem h, vD_snoc]
theorem byte_dig (n : Nat) (h : n < 10) : (UInt8.ofNat (48 + n)).toNat = 48 + n := by
  rw [UInt8.toNat_ofNat']; omega
theorem vD_dec (n : Nat) : vD (Lib.decDigits n) = n := by
  induction n using Nat.strongRecOn with
  | _ n ih =>
    by_cases h : n < 10
    · rw [dec_small h]
      show 0 * 10 + ((UInt8.ofNat (48 + n)).toNat - 48) = n
      rw [byte_dig n h]; omega
    · rw [dec_big h, vD_snoc, ih (n / 10) (by omega), byte_dig _ (by omega)]; omega
/-- a digit -/
def isD (c : UInt8) : Bool := !(decide (c.toNat < 48)) && !(decide (57 < c.toNat))
theorem isD_of (n : Nat) (h : n < 10) : isD (UInt8.ofNat (48 + n)) = true := by
  unfold isD
  rw [byte_dig n h, decide_eq_false (by omega), decide_eq_false (by omega)]; rfl
theorem dec_all (n : Nat) : (Lib.decDigits n).all isD = true := by
  induction n using Nat.strongRecOn with
  | _ n ih =>
    by_cases h : n < 10
    · rw [dec_small h, List.all_cons, isD_of n h]; rfl
    · rw [dec_big h, List.all_append, ih (n / 10) (by omega), List.all_cons, isD_of _ (by omega)]; rfl
theorem dec_ne (n : Nat) : Lib.decDigits n ≠ [] := by
  intro e
  have := congrArg List.length e
  rw [Lib.decDigits_length] at this
  have := Lib.nDigits_pos n
  simp at *
  omega
theorem dec_head (n : Nat) (h : 0 < n) : (Lib.decDigits n).head? ≠ some 48 := by
  induction n using Nat.strongRecOn with
  | _ n ih =>
    by_cases h10 : n < 10
    · rw [dec_small h10]
      intro e
      have e2 := congrArg UInt8.toNat (Option.some.inj e)
      rw [byte_dig n h10] at e2
      have : (48 : UInt8).toNat = 48 := rfl
      omega
    · rw [dec_big h10, List.head?_append]
      have := ih (n / 10) (by omega) (by omega)
      cases hh : (Lib.decDigits (n / 10)).head? with
      | none => exact absurd (List.head?_eq_none_iff.1 hh) (dec_ne _)
      | some c => rw [hh] at this; exact this
/-- digits without zeros ahead -/
def plD (l : List UInt8) : Bool := l.all isD && (l.length == 1 || (l.head? != some 48))
theorem plD_dec (n : Nat) : plD (Lib.decDigits n) = true := by
  unfold plD
  rw [dec_all, Bool.true_and]
  by_cases h : n < 10
  · rw [dec_small h]; rfl
  · have := dec_head n (by omega)
    rw [Bool.or_eq_true]
    exact .inr (by rw [bne_iff_ne]; exact this)
theorem vD_mono (l : List UInt8) (k : Nat) : vD (l.take k) ≤ vD l := by
  unfold vD
  rw [← List.take_append_drop k l, List.foldl_append, List.take_append_drop]
  generalize List.foldl (fun n (c : UInt8) => n * 10 + (c.toNat - 48)) 0 (l.take k) = n
  have : ∀ (m : List UInt8) (n : Nat), n ≤ List.foldl (fun n (c : UInt8) => n * 10 + (c.toNat - 48)) n m := by
    intro m
    induction m with
    | nil => intro n; exact Nat.le_refl _
    | cons c m ih => intro n; rw [List.foldl_cons]; exact Nat.le_trans (by omega) (ih _)
  exact this _ _
/-- decimal digits as a text -/
def dS (n : Nat) : ByteArray := ⟨(Lib.decDigits n).toArray⟩
def pS (k n : Nat) : ByteArray := ⟨(padD k n).toArray⟩
theorem two_arr (a b : List UInt8) : (⟨a.toArray⟩ : ByteArray) ++ ⟨b.toArray⟩ = ⟨(a ++ b).toArray⟩ := by
  apply ByteArray.ext
  rw [ByteArray.data_append]
  simp
theorem dS_split (j r B : Nat) (hB : B < 10 ^ j) (hr : 0 < r ∨ j = 0) : dS r ++ pS j B = dS (r * 10 ^ j + B) := by
  unfold dS pS
  rw [two_arr, dec_split j r B hB hr]
theorem pS_split (i j r B : Nat) (hB : B < 10 ^ j) : pS i r ++ pS j B = pS (i + j) (r * 10 ^ j + B) := by
  unfold pS
  rw [two_arr, padD_add i j r B hB]
theorem pS_size (k n : Nat) : (pS k n).size = k := by
  show (padD k n).toArray.size = k
  rw [List.size_toArray, padD_len]
theorem dS_size (n : Nat) : (dS n).size = Lib.nDigits n := by
  show (Lib.decDigits n).toArray.size = _
  rw [List.size_toArray, Lib.decDigits_length]
end Go.Bv
