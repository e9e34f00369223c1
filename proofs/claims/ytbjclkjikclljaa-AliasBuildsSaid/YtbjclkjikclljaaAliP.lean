/- Layer 43: the mathematics of ranks: pairs that tell an item, counted in naturals. -/
import Derived.Test.YtbjclkjikclljaaAliL
namespace Go.Ali
/-- of the column k, the numbers below u that tell j -/
def ptN (be : List (BitVec 64)) (al : List Int) (j : Int) (k u : Nat) : Nat := (if (k : Int) = j then min u (be.getD k 0).toNat else 0) + (if al.getD k 0 = j then u - min u (be.getD k 0).toNat else 0)
/-- the pairs of the first k columns that tell j -/
def wnN (T : Nat) (be : List (BitVec 64)) (al : List Int) (j : Int) : Nat → Nat
  | 0 => 0
  | k + 1 => wnN T be al j k + ptN be al j k T
theorem pt_le (be : List (BitVec 64)) (al : List Int) (j : Int) (k u : Nat) : ptN be al j k u ≤ u := by
  unfold ptN
  by_cases h1 : (k : Int) = j
  · by_cases h2 : al.getD k 0 = j
    · rw [if_pos h1, if_pos h2]; omega
    · rw [if_pos h1, if_neg h2]; omega
  · by_cases h2 : al.getD k 0 = j
    · rw [if_neg h1, if_pos h2]; omega
    · rw [if_neg h1, if_neg h2]; omega
theorem wn_le {T : Nat} {be : List (BitVec 64)} {al : List Int} {j : Int} : ∀ k, wnN T be al j k ≤ k * T
  | 0 => by show 0 ≤ 0 * T; omega
  | k + 1 => by
    have h1 := wn_le (T := T) (be := be) (al := al) (j := j) k
    have h2 := pt_le be al j k T
    show wnN T be al j k + ptN be al j k T ≤ (k + 1) * T
    rw [Nat.succ_mul]
    omega
theorem wn_mono {T : Nat} {be : List (BitVec 64)} {al : List Int} {j : Int} {a : Nat} : ∀ {b : Nat}, a ≤ b → wnN T be al j a ≤ wnN T be al j b
  | 0, h => by rw [show a = 0 by omega]; exact Nat.le_refl _
  | b + 1, h => by
    by_cases e : a = b + 1
    · rw [e]; exact Nat.le_refl _
    · have := wn_mono (T := T) (be := be) (al := al) (j := j) (a := a) (b := b) (by omega)
      exact Nat.le_trans this (Nat.le_add_right _ _)
/-- a pair that tells j counts in its own column -/
theorem pt_step {be : List (BitVec 64)} {al : List Int} {j : Int} {k : Nat} {y : BitVec 64} {u : Nat} (hy : y.toNat < u) (ht : tlV be al k y = j) : ptN be al j k y.toNat + 1 ≤ ptN be al j k u := by
  unfold tlV at ht
  unfold ptN
  by_cases h : y.toNat < (be.getD k 0).toNat
  · rw [if_pos h] at ht
    rw [if_pos ht, if_pos ht]
    by_cases h2 : al.getD k 0 = j
    · rw [if_pos h2, if_pos h2]; omega
    · rw [if_neg h2, if_neg h2]; omega
  · rw [if_neg h] at ht
    rw [if_pos ht, if_pos ht]
    by_cases h2 : (k : Int) = j
    · rw [if_pos h2, if_pos h2]; omega
    · rw [if_neg h2, if_neg h2]; omega
/-- how many pairs ahead of a pair tell j -/
def rkN (T : Nat) (be : List (BitVec 64)) (al : List Int) (j : Int) (c u : Nat) : Nat := wnN T be al j c + ptN be al j c u
theorem rk_below {T n : Nat} {be : List (BitVec 64)} {al : List Int} {j : Int} {c : Nat} {u : BitVec 64} (hc : c < n) (hu : u.toNat < T) (ht : tlV be al c u = j) : rkN T be al j c u.toNat < wnN T be al j n := by
  have h1 := pt_step (be := be) (al := al) hu ht
  have h2 := wn_mono (T := T) (be := be) (al := al) (j := j) (show c + 1 ≤ n by omega)
  have h3 : wnN T be al j (c + 1) = wnN T be al j c + ptN be al j c T := rfl
  unfold rkN
  omega
theorem rk_less {T : Nat} {be : List (BitVec 64)} {al : List Int} {j : Int} {c x : Nat} {u y : BitVec 64} (hy : y.toNat < T) (ht : tlV be al x y = j) (h : x < c ∨ x = c ∧ y.toNat < u.toNat) : rkN T be al j x y.toNat < rkN T be al j c u.toNat := by
  rcases h with h | ⟨rfl, h⟩
  · have h1 := rk_below (n := c) h hy ht
    unfold rkN at h1 ⊢
    omega
  · have h1 := pt_step (be := be) (al := al) h ht
    unfold rkN
    omega
/-- two pairs of one item and one rank are the same -/
theorem rk_one {T : Nat} {be : List (BitVec 64)} {al : List Int} {j : Int} {c x : Nat} {u y : BitVec 64} (hu : u.toNat < T) (hy : y.toNat < T) (ht : tlV be al c u = j) (ht2 : tlV be al x y = j) (h : rkN T be al j x y.toNat = rkN T be al j c u.toNat) : x = c ∧ y = u := by
  by_cases h1 : x < c ∨ x = c ∧ y.toNat < u.toNat
  · have := rk_less hy ht2 h1; omega
  · by_cases h2 : c < x ∨ c = x ∧ u.toNat < y.toNat
    · have := rk_less hu ht h2; omega
    · exact ⟨by omega, BitVec.eq_of_toNat_eq (by omega)⟩
theorem mn_nat (a b : BitVec 64) : (mn a b).toNat = min a.toNat b.toNat := by
  unfold mn
  by_cases h : a.toNat ≤ b.toNat
  · rw [if_pos h]; omega
  · rw [if_neg h]; omega
/-- what the columns count, as words and as naturals -/
theorem col_nat {be : List (BitVec 64)} {al : List Int} {j : Int} {k : Nat} {m s : BitVec 64} {N : Nat} (hs : s.toNat = N) (hb : N + m.toNat < 18446744073709551616) :
    (s + (if (k : Int) = j then mn m (be.getD k 0) else 0#64) + (if al.getD k 0 = j then m - mn m (be.getD k 0) else 0#64)).toNat = N + ptN be al j k m.toNat := by
  have hm := mn_nat m (be.getD k 0)
  have h0 : (0#64).toNat = 0 := rfl
  have hle : mn m (be.getD k 0) ≤ m := by
    rw [BitVec.le_def, hm]; omega
  have hsub := BitVec.toNat_sub_of_le hle
  have hpt := pt_le be al j k m.toNat
  unfold ptN at hpt ⊢
  rw [BitVec.toNat_add, BitVec.toNat_add]
  by_cases h1 : (k : Int) = j <;> by_cases h2 : al.getD k 0 = j
  · rw [if_pos h1, if_pos h2, hsub, hm, if_pos h1, if_pos h2, hs]; omega
  · rw [if_pos h1, if_neg h2, hm, h0, if_pos h1, if_neg h2, hs]; omega
  · rw [if_neg h1, if_pos h2, hsub, hm, h0, if_neg h1, if_pos h2, hs]; omega
  · rw [if_neg h1, if_neg h2, h0, if_neg h1, if_neg h2, hs]; omega
theorem ah_nat {T : BitVec 64} {be : List (BitVec 64)} {al : List Int} {j : Int} {c : Nat} {u : BitVec 64} (hT : T.toNat ≤ 1099511627776) (hu : u.toNat ≤ T.toNat) : ∀ {k : Nat}, k ≤ 256 → (ahK T be al c u j k).toNat = if k ≤ c then wnN T.toNat be al j k else rkN T.toNat be al j c u.toNat
  | 0, _ => by rw [if_pos (Nat.zero_le _)]; rfl
  | k + 1, hk => by
    have ih := ah_nat (be := be) (al := al) (j := j) (c := c) hT hu (k := k) (by omega)
    show (if c < k then ahK T be al c u j k else _).toNat = _
    have hle := wn_le (T := T.toNat) (be := be) (al := al) (j := j) k
    have hle2 : k * T.toNat ≤ 256 * 1099511627776 := Nat.mul_le_mul (by omega) hT
    by_cases h1 : c < k
    · rw [if_pos h1, ih, if_neg (by omega), if_neg (by omega)]
    · rw [if_neg h1]
      rw [if_pos (by omega)] at ih
      by_cases h2 : k = c
      · rw [if_pos h2, col_nat ih (by omega), if_neg (by omega)]
        subst h2
        rfl
      · rw [if_neg h2, col_nat ih (by omega), if_pos (by omega)]
        rfl
theorem rw_nat {T : BitVec 64} {be : List (BitVec 64)} {al : List Int} {j : Int} (hT : T.toNat ≤ 1099511627776) {k : Nat} (hk : k ≤ 256) (hb : ∀ i, i < k → (be.getD i 0).toNat ≤ T.toNat) : (rwK T be al j k).toNat = wnN T.toNat be al j k := by
  have h1 := bf_weight (T := T) (be := be) (al := al) (j := j) (c := (k : Int)) (u := 0#64) (k := k) (Int.le_refl _) hb
  have h2 := bf_ahead (T := T) (be := be) (al := al) (j := j) (c := k) (u := 0#64) (Nat.zero_le _) (k := k)
  have h3 := ah_nat (T := T) (be := be) (al := al) (j := j) (c := k) (u := 0#64) hT (Nat.zero_le _) hk
  rw [← h1, h2, h3, if_pos (Nat.le_refl _)]
end Go.Ali
