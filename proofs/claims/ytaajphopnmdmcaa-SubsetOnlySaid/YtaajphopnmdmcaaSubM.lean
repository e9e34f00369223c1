/- Plain lemmas: picks, and the choices that lead to them. -/
import Derived.Test.YtaajphopnmdmcaaShfM
namespace Go.Bv
set_option linter.unusedVariables false
/-- the row after k exchanges, from the first place on -/
def s2 (J : Nat → Nat) : Nat → Nat → Nat
  | 0 => fun x => x
  | k + 1 => sw (s2 J k) k (J k)
def i2 (J : Nat → Nat) : Nat → Nat → Nat
  | 0 => fun x => x
  | k + 1 => swI (s2 J k) (i2 J k) k (J k)
def rt2 (J : Nat → Nat) (m n : Nat) : Prop := ∀ i, i < m → i ≤ J i ∧ J i < n
theorem s2_lt {J : Nat → Nat} {m n : Nat} (h : rt2 J m n) : ∀ k, k ≤ m → ∀ x, x < n → s2 J k x < n
  | 0, _, x, hx => hx
  | k + 1, hk, x, hx => sw_lt (by have := h k (by omega); omega) (h k (by omega)).2 (s2_lt h k (by omega)) x hx
theorem i2_lt {J : Nat → Nat} {m n : Nat} (h : rt2 J m n) : ∀ k, k ≤ m → ∀ x, x < n → i2 J k x < n
  | 0, _, x, hx => hx
  | k + 1, hk, x, hx => swI_lt (by have := h k (by omega); omega) (h k (by omega)).2 (i2_lt h k (by omega)) x hx
theorem s2_i2 {J : Nat → Nat} {m n : Nat} (h : rt2 J m n) : ∀ k, k ≤ m → (∀ x, x < n → i2 J k (s2 J k x) = x) ∧ (∀ y, y < n → s2 J k (i2 J k y) = y)
  | 0, _ => ⟨fun _ _ => rfl, fun _ _ => rfl⟩
  | k + 1, hk => by
    obtain ⟨h1, h2⟩ := s2_i2 h k (by omega)
    exact sw_inv (i := k) (j := J k) (by have := h k (by omega); omega) (h k (by omega)).2 h1 h2
theorem s2_inj {J : Nat → Nat} {m n : Nat} (h : rt2 J m n) {k : Nat} (hk : k ≤ m) {x y : Nat} (hx : x < n) (hy : y < n) (he : s2 J k x = s2 J k y) : x = y := by
  rw [← (s2_i2 h k hk).1 x hx, ← (s2_i2 h k hk).1 y hy, he]
theorem s2_stay {J : Nat → Nat} {m n : Nat} (h : rt2 J m n) {k x : Nat} (hx : x < k) : ∀ d, k + d ≤ m → s2 J (k + d) x = s2 J k x
  | 0, _ => rfl
  | d + 1, hd => by
    show sw (s2 J (k + d)) (k + d) (J (k + d)) x = _
    have h1 := h (k + d) (by omega)
    unfold sw
    rw [if_neg (by omega), if_neg (by omega)]
    exact s2_stay h hx d (by omega)
theorem s2_put {J : Nat → Nat} {m n : Nat} (h : rt2 J m n) {k : Nat} (hk : k < m) : s2 J m k = s2 J k (J k) := by
  have h1 := s2_stay h (k := k + 1) (x := k) (by omega) (m - (k + 1)) (by omega)
  rw [show k + 1 + (m - (k + 1)) = m by omega] at h1
  rw [h1]
  show sw _ _ _ _ = _
  unfold sw
  by_cases e : k = J k
  · rw [if_pos e]; exact congrArg _ e
  · rw [if_neg e, if_pos rfl]
/-- the document's block: what is left in front stays -/
def b2 (J : Nat → Nat) : Nat → Nat → Nat
  | 0 => fun x => x
  | k + 1 => fun y => if y = J k then b2 J k k else b2 J k y
theorem b2_s2 {J : Nat → Nat} {m n : Nat} (h : rt2 J m n) : ∀ k, k ≤ m → ∀ y, k ≤ y → b2 J k y = s2 J k y
  | 0, _, _, _ => rfl
  | k + 1, hk, y, hy => by
    show (if y = J k then b2 J k k else b2 J k y) = sw (s2 J k) k (J k) y
    unfold sw
    rw [b2_s2 h k (by omega) k (Nat.le_refl _), b2_s2 h k (by omega) y (by omega)]
    by_cases e : y = J k
    · rw [if_pos e, if_pos e]
    · rw [if_neg e, if_neg e, if_neg (by omega)]
/-- whether c may be choices of a pick of n -/
def rp2 (n : Nat) (c : List Int) : Prop := c.length ≤ n ∧ ∀ i, i < c.length → 0 ≤ c.getD i 0 ∧ c.getD i 0 ≤ (n : Int) - 1 - (i : Int)
def JF (c : List Int) (i : Nat) : Nat := i + (c.getD i 0).toNat
theorem rp2_F {n : Nat} {c : List Int} (h : rp2 n c) : rt2 (JF c) c.length n := fun i hi => by have := h.2 i hi; unfold JF; omega
/-- what choices pick -/
def pkI (c : List Int) : List Int := liI (s2 (JF c) c.length) c.length
theorem pkI_len (c : List Int) : (pkI c).length = c.length := liI_len _ _
theorem pkI_lt {n : Nat} {c : List Int} (h : rp2 n c) {x : Nat} (hx : x < c.length) : s2 (JF c) c.length x < n := s2_lt (rp2_F h) _ (Nat.le_refl _) x (by have := h.1; omega)
/-- the choices told so far, zeros behind them -/
def ctI (c : List Int) (k : Nat) : List Int := (List.range c.length).map fun i => if i < k then c.getD i 0 else 0
theorem ctI_len (c : List Int) (k : Nat) : (ctI c k).length = c.length := by unfold ctI; simp
theorem ctI_get (c : List Int) (k : Nat) {i : Nat} (h : i < c.length) : (ctI c k).getD i 0 = if i < k then c.getD i 0 else 0 := by
  unfold ctI; rw [List.getD_eq_getElem?_getD, List.getElem?_map, List.getElem?_range h]; rfl
theorem ctI_set (c : List Int) {k : Nat} (h : k < c.length) : (ctI c k).set k (c.getD k 0) = ctI c (k + 1) := by
  apply ints_eq (n := c.length) (by rw [List.length_set, ctI_len]) (ctI_len _ _)
  intro i hi
  rw [ctI_get c (k + 1) hi, List.getD_eq_getElem?_getD, List.getElem?_set, ctI_len]
  by_cases e : k = i
  · subst e; rw [if_pos rfl, if_pos h, if_pos (by omega)]; rfl
  · rw [if_neg e, ← List.getD_eq_getElem?_getD, ctI_get c k hi]
    by_cases e2 : i < k
    · rw [if_pos e2, if_pos (by omega)]
    · rw [if_neg e2, if_neg (by omega)]
theorem ctI_all (c : List Int) : ctI c c.length = c := by
  apply ints_eq (n := c.length) (ctI_len _ _) rfl
  intro i hi
  rw [ctI_get c _ hi, if_pos hi]
theorem ctI_zero (c : List Int) : ctI c 0 = liI (fun _ => 0) c.length := by
  apply ints_eq (n := c.length) (ctI_len _ _) (liI_len _ _)
  intro i hi
  rw [ctI_get c _ hi, if_neg (by omega), liI_get _ hi]; rfl
end Go.Bv
