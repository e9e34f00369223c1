/- Plain lemmas on mixers of words: folds and what undoes them, inverses of odd words, the mixers and their inverses. No program in sight. -/
import Derived.Test.YtjmnhooenampkaaGreatDoorAff
namespace Go.Bv
/-- a word and it, shifted to the right, bit by bit against each other -/
def F {w : Nat} (k : Nat) (z : BitVec w) : BitVec w := z ^^^ z >>> k
theorem F_far {w : Nat} (k : Nat) (z : BitVec w) (h : w ≤ k) : F k z = z := by
  unfold F
  have : z >>> k = 0#w := by
    apply BitVec.eq_of_getLsbD_eq; intro i hi; rw [BitVec.getLsbD_ushiftRight, BitVec.getLsbD_of_ge z (k + i) (by omega)]; simp
  rw [this, BitVec.xor_zero]
theorem F_F {w : Nat} (k j : Nat) (z : BitVec w) : F k (F j z) = z ^^^ z >>> j ^^^ z >>> k ^^^ z >>> (j + k) := by
  unfold F
  rw [BitVec.ushiftRight_xor_distrib, BitVec.shiftRight_add, BitVec.xor_assoc]
  rw [BitVec.xor_assoc, BitVec.xor_assoc]
theorem F_comm {w : Nat} (k j : Nat) (z : BitVec w) : F k (F j z) = F j (F k z) := by
  rw [F_F, F_F, Nat.add_comm k j]
  congr 1
  rw [BitVec.xor_assoc, BitVec.xor_assoc, BitVec.xor_comm (z >>> j)]
theorem F_twice {w : Nat} (k : Nat) (z : BitVec w) : F k (F k z) = F (2 * k) z := by
  rw [F_F, BitVec.xor_assoc z, BitVec.xor_self, BitVec.xor_zero, show k + k = 2 * k by omega]; rfl
/-- what undoes a fold: folds by k, 2 k, 4 k and so on -/
def unf {w : Nat} : Nat → Nat → BitVec w → BitVec w
  | 0, _, z => z
  | f + 1, k, z => if w ≤ k then z else unf f (2 * k) (F k z)
theorem unf_far {w : Nat} (f k : Nat) (z : BitVec w) (h : w ≤ k) : unf f k z = z := by
  cases f with
  | zero => rfl
  | succ f => rw [unf, if_pos h]
theorem unf_step {w : Nat} (f k : Nat) (z : BitVec w) (h : ¬ w ≤ k) : unf (f + 1) k z = unf f (2 * k) (F k z) := by rw [unf, if_neg h]
theorem unf_comm {w : Nat} (f : Nat) : ∀ (k j : Nat) (z : BitVec w), F j (unf f k z) = unf f k (F j z) := by
  induction f with
  | zero => intro k j z; rfl
  | succ f ih =>
    intro k j z
    by_cases h : w ≤ k
    · rw [unf_far _ _ _ h, unf_far _ _ _ h]
    · rw [unf_step _ _ _ h, unf_step _ _ _ h, ih, F_comm]
theorem unf_F {w : Nat} (f : Nat) : ∀ (k : Nat) (z : BitVec w), w ≤ k * 2 ^ f → unf f k (F k z) = z := by
  induction f with
  | zero => intro k z h; rw [F_far _ _ (by omega)]; rfl
  | succ f ih =>
    intro k z h
    by_cases h2 : w ≤ k
    · rw [unf_far _ _ _ h2, F_far _ _ h2]
    · rw [unf_step _ _ _ h2, F_twice]
      exact ih (2 * k) z (by rw [Nat.pow_succ] at h; rw [Nat.mul_comm 2 k, Nat.mul_assoc, Nat.mul_comm 2]; exact h)
theorem F_unf {w : Nat} (f k : Nat) (z : BitVec w) (h : w ≤ k * 2 ^ f) : F k (unf f k z) = z := by
  rw [unf_comm, unf_F f k z h]
theorem F_inj {w : Nat} {k : Nat} (hk : 0 < k) {x y : BitVec w} (h : F k x = F k y) : x = y := by
  have e : w ≤ k * 2 ^ w := by
    have := Nat.lt_two_pow_self (n := w)
    calc w ≤ 1 * 2 ^ w := by omega
      _ ≤ k * 2 ^ w := Nat.mul_le_mul_right _ hk
  rw [← unf_F w k x e, h, unf_F w k y e]

/-- Newton's way to an inverse of an odd word -/
def newton (a : BitVec 64) : Nat → BitVec 64
  | 0 => a
  | n + 1 => newton a n * (2#64 - a * newton a n)
def oddInv (a : BitVec 64) : BitVec 64 := newton a 5
theorem newton_mul (a : BitVec 64) (b : BitVec 64) (h : a = 1#64 + 2#64 * b) (n : Nat) : ∃ e, a * newton a n = 1#64 + P 64 (3 * 2 ^ n) * e := by
  induction n with
  | zero =>
    obtain ⟨e, he⟩ := parity b
    have hP : P 64 (3 * 2 ^ 0) = 8#64 := rfl
    rw [hP]
    rcases he with he | he
    · exact ⟨e * (1#64 + 2#64 * e), by rw [h, he]; simp only [newton]; grind⟩
    · exact ⟨(1#64 + 2#64 * e) * (1#64 + e), by rw [h, he]; simp only [newton]; grind⟩
  | succ n ih =>
    obtain ⟨e, he⟩ := ih
    have hP : P 64 (3 * 2 ^ (n + 1)) = P 64 (3 * 2 ^ n) * P 64 (3 * 2 ^ n) := by rw [← P_add]; congr 1; rw [Nat.pow_succ]; omega
    refine ⟨- (e * e), ?_⟩
    rw [hP]
    simp only [newton]
    have : a * (newton a n * (2#64 - a * newton a n)) = (a * newton a n) * (2#64 - a * newton a n) := by grind
    rw [this, he]; grind
theorem P_far {w i : Nat} (h : w ≤ i) : P w i = 0#w := by
  obtain ⟨j, rfl⟩ := Nat.exists_eq_add_of_le h
  rw [P_add, P_end]; simp
theorem oddInv_mul (a b : BitVec 64) (h : a = 1#64 + 2#64 * b) : a * oddInv a = 1#64 := by
  obtain ⟨e, he⟩ := newton_mul a b h 5
  rw [oddInv, he, P_far (by decide)]; simp
theorem odd_of_bit {a : BitVec 64} (h : a &&& 1#64 ≠ 0#64) : ∃ b, a = 1#64 + 2#64 * b := by
  obtain ⟨e, he | he⟩ := parity a
  · exfalso; apply h
    apply BitVec.eq_of_toNat_eq
    rw [BitVec.toNat_and]
    show a.toNat &&& 1 = 0
    rw [Nat.and_one_is_mod, he, BitVec.toNat_mul]
    simp
  · exact ⟨e, he⟩

def C1 : BitVec 64 := 0xbf58476d1ce4e5b9#64
def C2 : BitVec 64 := 0x94d049bb133111eb#64
def L1 : BitVec 64 := 0xff51afd7ed558ccd#64
def L2 : BitVec 64 := 0xc4ceb9fe1a85ec53#64
def S1 : BitVec 64 := 0x85ebca6b#64
def S2 : BitVec 64 := 0xc2b2ae35#64
theorem C1_inv : C1 * oddInv C1 = 1#64 := oddInv_mul _ 0x5fac23b68e7272dc#64 (by decide)
theorem C2_inv : C2 * oddInv C2 = 1#64 := oddInv_mul _ 0x4a6824dd899888f5#64 (by decide)
theorem L1_inv : L1 * oddInv L1 = 1#64 := oddInv_mul _ 0x7fa8d7ebf6aac666#64 (by decide)
theorem L2_inv : L2 * oddInv L2 = 1#64 := oddInv_mul _ 0x62675cff0d42f629#64 (by decide)
theorem S1_inv : S1 * oddInv S1 = 1#64 := oddInv_mul _ 0x42f5e535#64 (by decide)
theorem S2_inv : S2 * oddInv S2 = 1#64 := oddInv_mul _ 0x6159571a#64 (by decide)
/-- the mixers -/
def split (z : BitVec 64) : BitVec 64 := F 31 (F 27 (F 30 z * C1) * C2)
def unsplit (z : BitVec 64) : BitVec 64 := unf 6 30 (unf 6 27 (unf 6 31 z * oddInv C2) * oddInv C1)
def fmix (z : BitVec 64) : BitVec 64 := F 33 (F 33 (F 33 z * L1) * L2)
def unfmix (z : BitVec 64) : BitVec 64 := unf 6 33 (unf 6 33 (unf 6 33 z * oddInv L2) * oddInv L1)
theorem mul_inv_right {c d : BitVec 64} (h : c * d = 1#64) (x : BitVec 64) : x * c * d = x := by rw [BitVec.mul_assoc, h, BitVec.mul_one]
theorem mul_inv_left {c d : BitVec 64} (h : c * d = 1#64) (x : BitVec 64) : x * d * c = x := by rw [BitVec.mul_assoc, BitVec.mul_comm d, h, BitVec.mul_one]
theorem unsplit_split (z : BitVec 64) : unsplit (split z) = z := by
  unfold unsplit split
  rw [unf_F _ _ _ (by decide), mul_inv_right C2_inv, unf_F _ _ _ (by decide), mul_inv_right C1_inv, unf_F _ _ _ (by decide)]
theorem split_unsplit (z : BitVec 64) : split (unsplit z) = z := by
  unfold unsplit split
  rw [F_unf _ _ _ (by decide), mul_inv_left C1_inv, F_unf _ _ _ (by decide), mul_inv_left C2_inv, F_unf _ _ _ (by decide)]
theorem unfmix_fmix (z : BitVec 64) : unfmix (fmix z) = z := by
  unfold unfmix fmix
  rw [unf_F _ _ _ (by decide), mul_inv_right L2_inv, unf_F _ _ _ (by decide), mul_inv_right L1_inv, unf_F _ _ _ (by decide)]
theorem fmix_unfmix (z : BitVec 64) : fmix (unfmix z) = z := by
  unfold unfmix fmix
  rw [F_unf _ _ _ (by decide), mul_inv_left L1_inv, F_unf _ _ _ (by decide), mul_inv_left L2_inv, F_unf _ _ _ (by decide)]
/-! ### 32 bits, in words of 64 -/
def up (h : BitVec 32) : BitVec 64 := h.setWidth 64
def low (h : BitVec 64) : BitVec 64 := h &&& 0xffffffff#64
theorem low_bit (h : BitVec 64) (i : Nat) : (low h).getLsbD i = (decide (i < 32) && h.getLsbD i) := by
  have e : 0xffffffff#64 = BitVec.ofNat 64 (2 ^ 32 - 1) := rfl
  unfold low
  simp only [BitVec.getLsbD, BitVec.toNat_and]
  rw [show (0xffffffff#64).toNat = 2 ^ 32 - 1 from rfl, Nat.testBit_and, Nat.testBit_two_pow_sub_one, Bool.and_comm]
theorem low_up (h : BitVec 64) : low h = up (h.setWidth 32) := by
  apply BitVec.eq_of_getLsbD_eq; intro i hi
  rw [low_bit]; unfold up
  simp only [BitVec.getLsbD_setWidth, hi, decide_true, Bool.true_and]
theorem up_low (h : BitVec 32) : (up h).setWidth 32 = h := by
  apply BitVec.eq_of_getLsbD_eq; intro i hi; unfold up; simp [hi]
theorem up_inj {x y : BitVec 32} (h : up x = up y) : x = y := by rw [← up_low x, h, up_low]
theorem F_up (k : Nat) (h : BitVec 32) : F k (up h) = up (F k h) := by
  apply BitVec.eq_of_getLsbD_eq; intro i hi
  unfold F up
  simp only [BitVec.getLsbD_xor, BitVec.getLsbD_ushiftRight, BitVec.getLsbD_setWidth, hi, decide_true, Bool.true_and]
  by_cases h2 : k + i < 64
  · simp [h2]
  · rw [BitVec.getLsbD_of_ge h (k + i) (by omega)]; simp
theorem low_mul (x c : BitVec 64) : low (x * c) = up (x.setWidth 32 * c.setWidth 32) := by
  rw [low_up, BitVec.setWidth_mul _ _ (by omega)]
theorem low_mul_up (x : BitVec 32) (c : BitVec 64) : low (up x * c) = up (x * c.setWidth 32) := by rw [low_mul, up_low]
def fmix32 (h : BitVec 32) : BitVec 32 := F 16 (F 13 (F 16 h * S1.setWidth 32) * S2.setWidth 32)
/-- the mixer of 32 bits as the program reckons it -/
def mid32 (h : BitVec 64) : BitVec 64 := F 16 (low (F 13 (low (F 16 h * S1)) * S2))
theorem mid32_up (h : BitVec 32) : mid32 (up h) = up (fmix32 h) := by
  unfold mid32 fmix32
  rw [F_up, low_mul_up, F_up, low_mul_up, F_up]
def unmid32 (h : BitVec 64) : BitVec 64 := unf 6 16 (low (unf 6 13 (low (unf 6 16 h * oddInv S2)) * oddInv S1))
theorem unf_up (f : Nat) : ∀ (k : Nat) (h : BitVec 32), unf f k (up h) = up (unf f k h) := by
  induction f with
  | zero => intro k h; rfl
  | succ f ih =>
    intro k h
    by_cases h1 : 64 ≤ k
    · rw [unf_far _ _ _ h1, unf_far _ _ _ (by omega)]
    · rw [unf_step _ _ _ h1, F_up, ih]
      by_cases h2 : 32 ≤ k
      · rw [unf_far _ _ h h2, F_far _ _ h2, unf_far _ _ _ (by omega)]
      · rw [unf_step _ _ _ h2]
theorem inv32 {c d : BitVec 64} (h : c * d = 1#64) : c.setWidth 32 * d.setWidth 32 = 1#32 := by
  rw [← BitVec.setWidth_mul _ _ (by omega), h]; rfl
theorem mul_inv_right32 {c d : BitVec 32} (h : c * d = 1#32) (x : BitVec 32) : x * c * d = x := by rw [BitVec.mul_assoc, h, BitVec.mul_one]
theorem mul_inv_left32 {c d : BitVec 32} (h : c * d = 1#32) (x : BitVec 32) : x * d * c = x := by rw [BitVec.mul_assoc, BitVec.mul_comm d, h, BitVec.mul_one]
def unfmix32 (h : BitVec 32) : BitVec 32 := unf 6 16 (unf 6 13 (unf 6 16 h * (oddInv S2).setWidth 32) * (oddInv S1).setWidth 32)
theorem unmid32_up (h : BitVec 32) : unmid32 (up h) = up (unfmix32 h) := by
  unfold unmid32 unfmix32
  rw [unf_up, low_mul_up, unf_up, low_mul_up, unf_up]
theorem unfmix32_fmix32 (z : BitVec 32) : unfmix32 (fmix32 z) = z := by
  unfold unfmix32 fmix32
  rw [unf_F _ _ _ (by decide), mul_inv_right32 (inv32 S2_inv), unf_F _ _ _ (by decide), mul_inv_right32 (inv32 S1_inv), unf_F _ _ _ (by decide)]
theorem fmix32_unfmix32 (z : BitVec 32) : fmix32 (unfmix32 z) = z := by
  unfold unfmix32 fmix32
  rw [F_unf _ _ _ (by decide), mul_inv_left32 (inv32 S1_inv), F_unf _ _ _ (by decide), mul_inv_left32 (inv32 S2_inv), F_unf _ _ _ (by decide)]
theorem split_inj {x y : BitVec 64} : split x = split y ↔ x = y := ⟨fun h => by rw [← unsplit_split x, h, unsplit_split], fun h => by rw [h]⟩
theorem fmix_inj {x y : BitVec 64} : fmix x = fmix y ↔ x = y := ⟨fun h => by rw [← unfmix_fmix x, h, unfmix_fmix], fun h => by rw [h]⟩
theorem fmix32_inj {x y : BitVec 32} : fmix32 x = fmix32 y ↔ x = y := ⟨fun h => by rw [← unfmix32_fmix32 x, h, unfmix32_fmix32], fun h => by rw [h]⟩
end Go.Bv
