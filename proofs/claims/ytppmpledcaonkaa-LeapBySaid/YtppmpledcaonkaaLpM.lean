/- Plain lemmas: polynomials over two elements act on the states of a generator whose step is linear. -/
import Derived.Test.YtppmpledcaonkaaGf2M
namespace Go.G2
set_option linter.unusedVariables false
/-- states with a sum and a step that keeps sums -/
structure Lin (S : Type) where
  x : S → S → S
  z : S
  st : S → S
  x_comm : ∀ p q, x p q = x q p
  x_assoc : ∀ p q r, x (x p q) r = x p (x q r)
  x_self : ∀ p, x p p = z
  x_z : ∀ p, x p z = p
  st_x : ∀ p q, st (x p q) = x (st p) (st q)
namespace Lin
variable {S : Type} (L : Lin S)
theorem z_x (p : S) : L.x L.z p = p := by rw [L.x_comm, L.x_z]
theorem st_z : L.st L.z = L.z := by
  have h := L.st_x L.z L.z
  rw [L.x_self, L.x_self] at h
  exact h
theorem x_four (a b c d : S) : L.x (L.x a b) (L.x c d) = L.x (L.x a c) (L.x b d) := by
  rw [L.x_assoc, L.x_assoc, ← L.x_assoc b, L.x_comm b c, L.x_assoc c]
theorem x_zero {p q : S} (h : L.x p q = L.z) : p = q := by
  have h2 : L.x (L.x p q) q = L.x L.z q := by rw [h]
  rw [L.x_assoc, L.x_self, L.x_z, L.z_x] at h2
  exact h2
/-- behind n steps -/
def it {S : Type} (L : Lin S) : Nat → S → S
  | 0, s => s
  | n + 1, s => it L n (L.st s)
theorem it_st : ∀ (n : Nat) (s : S), L.it n (L.st s) = L.st (L.it n s)
  | 0, s => rfl
  | n + 1, s => by show L.it n (L.st (L.st s)) = _; rw [it_st n]; rfl
theorem it_add : ∀ (a b : Nat) (s : S), L.it (a + b) s = L.it a (L.it b s)
  | a, 0, s => rfl
  | a, b + 1, s => by show L.it (a + b) (L.st s) = _; rw [it_add a b]; rfl
theorem it_z : ∀ n : Nat, L.it n L.z = L.z
  | 0 => rfl
  | n + 1 => by show L.it n (L.st L.z) = _; rw [L.st_z, it_z n]
theorem it_x : ∀ (n : Nat) (p q : S), L.it n (L.x p q) = L.x (L.it n p) (L.it n q)
  | 0, p, q => rfl
  | n + 1, p, q => by show L.it n (L.st _) = _; rw [L.st_x, it_x n]; rfl
theorem it_mul (n : Nat) (s : S) (h : L.it n s = s) : ∀ k : Nat, L.it (k * n) s = s
  | 0 => by rw [Nat.zero_mul]; rfl
  | k + 1 => by rw [Nat.succ_mul, L.it_add, h, it_mul n s h k]
/-- the sum of the states behind j steps, for all terms x^j of m -/
def act (m : Nat) (s : S) : S := if m = 0 then L.z else L.x (if m % 2 = 1 then s else L.z) (act (m / 2) (L.st s))
termination_by m
decreasing_by omega
theorem act_zero (s : S) : L.act 0 s = L.z := by unfold act; rfl
theorem act_step (m : Nat) (s : S) : L.act m s = L.x (if m % 2 = 1 then s else L.z) (L.act (m / 2) (L.st s)) := by
  by_cases h : m = 0
  · subst h
    rw [act_zero, act_zero, if_neg (by decide), L.x_z]
  · conv => lhs; unfold act
    rw [if_neg h]
theorem act_one (s : S) : L.act 1 s = s := by rw [act_step, act_zero, if_pos rfl, L.x_z]
theorem act_x (m : Nat) : ∀ p q : S, L.act m (L.x p q) = L.x (L.act m p) (L.act m q) := by
  induction m using Nat.strongRecOn with
  | ind m ih =>
    intro p q
    by_cases h : m = 0
    · subst h; rw [act_zero, act_zero, act_zero, L.x_z]
    · rw [act_step, L.st_x, ih (m / 2) (by omega), act_step L m p, act_step L m q, x_four]
      congr 1
      by_cases h2 : m % 2 = 1
      · rw [if_pos h2, if_pos h2, if_pos h2]
      · rw [if_neg h2, if_neg h2, if_neg h2, L.x_z]
theorem act_z (m : Nat) : L.act m L.z = L.z := by
  have h := L.act_x m L.z L.z
  rw [L.x_self, L.x_self] at h
  exact h
theorem act_st (m : Nat) : ∀ s : S, L.act m (L.st s) = L.st (L.act m s) := by
  induction m using Nat.strongRecOn with
  | ind m ih =>
    intro s
    by_cases h : m = 0
    · subst h; rw [act_zero, act_zero, st_z]
    · rw [act_step, ih (m / 2) (by omega), act_step L m s, L.st_x]
      congr 1
      by_cases h2 : m % 2 = 1
      · rw [if_pos h2, if_pos h2]
      · rw [if_neg h2, if_neg h2, st_z]
theorem act_xor (a : Nat) : ∀ (b : Nat) (s : S), L.act (a ^^^ b) s = L.x (L.act a s) (L.act b s) := by
  induction a using Nat.strongRecOn with
  | ind a ih =>
    intro b s
    by_cases h : a = 0
    · subst h; rw [act_zero, Nat.zero_xor, z_x]
    · rw [act_step, xor_two, ih (a / 2) (by omega), act_step L a s, act_step L b s, x_four]
      congr 1
      rw [xor_odd]
      have h1 : a % 2 = 0 ∨ a % 2 = 1 := by omega
      have h2 : b % 2 = 0 ∨ b % 2 = 1 := by omega
      rcases h1 with h1 | h1 <;> rcases h2 with h2 | h2 <;> rw [h1, h2] <;> simp [L.x_z, L.z_x, L.x_self]
theorem act_two (m : Nat) (s : S) : L.act (2 * m) s = L.st (L.act m s) := by
  rw [act_step, if_neg (by omega), z_x, Nat.mul_div_cancel_left _ (by decide), act_st]
theorem act_mul (a : Nat) : ∀ (b : Nat) (s : S), L.act (mulG a b) s = L.act a (L.act b s) := by
  induction a using Nat.strongRecOn with
  | ind a ih =>
    intro b s
    by_cases h : a = 0
    · subst h; rw [mulG_zero, act_zero, act_zero]
    · rw [mulG_step, act_xor, act_two, ih (a / 2) (by omega), act_step L a, act_st]
      congr 1
      by_cases h2 : a % 2 = 1
      · rw [if_pos h2, if_pos h2]
      · rw [if_neg h2, if_neg h2, act_zero]
theorem act_pow : ∀ (n : Nat) (s : S), L.act (2 ^ n) s = L.it n s
  | 0, s => by rw [Nat.pow_zero, act_one]; rfl
  | n + 1, s => by rw [Nat.pow_succ, Nat.mul_comm, act_two, act_pow n, ← it_st]; rfl
theorem act_rm {P : Nat} (hP : P ≠ 0) (h : ∀ s, L.act P s = L.z) (m : Nat) (s : S) : L.act (rmG m P) s = L.act m s := by
  have h2 := congrArg (fun m => L.act m s) (dv_spec (a := m) hP).1
  simp only [act_xor, act_mul, h, act_z, z_x] at h2
  exact h2.symm
/-- the sum as a loop makes it -/
def byL {S : Type} (L : Lin S) : Nat → Nat → S → S → S
  | 0, _, _, acc => acc
  | f + 1, m, s, acc => byL L f (m / 2) (L.st s) (if m % 2 = 1 then L.x acc s else acc)
theorem byL_act : ∀ (f m : Nat) (s acc : S), m < 2 ^ f → L.byL f m s acc = L.x acc (L.act m s)
  | 0, m, s, acc, h => by
    have h0 : m = 0 := by rw [Nat.pow_zero] at h; omega
    subst h0
    show acc = _
    rw [act_zero, L.x_z]
  | f + 1, m, s, acc, h => by
    show L.byL f (m / 2) (L.st s) (if m % 2 = 1 then L.x acc s else acc) = _
    rw [byL_act f (m / 2) _ _ (by rw [Nat.pow_succ] at h; omega), act_step L m s]
    by_cases h2 : m % 2 = 1
    · rw [if_pos h2, if_pos h2, L.x_assoc]
    · rw [if_neg h2, if_neg h2, z_x]
end Lin
end Go.G2
