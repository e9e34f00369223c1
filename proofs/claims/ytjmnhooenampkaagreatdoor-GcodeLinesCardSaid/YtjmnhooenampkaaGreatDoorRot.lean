/- Plain lemmas on turned words: the shapes in which the program and the document's own answer turn a word, as rotateLeft. -/
import Derived.Test.YtjmnhooenampkaaGreatDoorBv
namespace Go.Bv

theorem ofInt_and63 (n : Int) : N64 (BitVec.ofInt 64 n &&& 63#64) = (n % 64).toNat := by
  have h : (BitVec.ofInt 64 n &&& 63#64).toNat = (BitVec.ofInt 64 n).toNat % 64 := by
    rw [BitVec.toNat_and]; exact Nat.and_two_pow_sub_one_eq_mod _ 6
  unfold N64; rw [h, BitVec.toNat_ofInt]; omega
theorem ofInt_and31 (n : Int) : N64 (BitVec.ofInt 64 n &&& 31#64) = (n % 32).toNat := by
  have h : (BitVec.ofInt 64 n &&& 31#64).toNat = (BitVec.ofInt 64 n).toNat % 32 := by
    rw [BitVec.toNat_and]; exact Nat.and_two_pow_sub_one_eq_mod _ 5
  unfold N64; rw [h, BitVec.toNat_ofInt]; omega
theorem rot64_prog (x : BitVec 64) (n : Int) :
    x <<< N64 (BitVec.ofInt 64 n &&& 63#64) ||| x >>> N64 (64#64 - (BitVec.ofInt 64 n &&& 63#64)) = x.rotateLeft (n % 64).toNat := by
  have h := ofInt_and63 n
  have h2 : N64 (64#64 - (BitVec.ofInt 64 n &&& 63#64)) = 64 - (n % 64).toNat := by
    have h3 : (BitVec.ofInt 64 n &&& 63#64).toNat = (n % 64).toNat := h
    unfold N64; rw [BitVec.toNat_sub, h3]; simp; omega
  rw [h, h2, BitVec.rotateLeft_eq_rotateLeftAux_of_lt (by omega)]
  rfl
theorem rot32_prog (x : BitVec 32) (n : Int) :
    x <<< N64 (BitVec.ofInt 64 n &&& 31#64) ||| x >>> N64 (32#64 - (BitVec.ofInt 64 n &&& 31#64)) = x.rotateLeft (n % 32).toNat := by
  have h := ofInt_and31 n
  have h2 : N64 (32#64 - (BitVec.ofInt 64 n &&& 31#64)) = 32 - (n % 32).toNat := by
    have h3 : (BitVec.ofInt 64 n &&& 31#64).toNat = (n % 32).toNat := h
    unfold N64; rw [BitVec.toNat_sub, h3]; simp; omega
  rw [h, h2, BitVec.rotateLeft_eq_rotateLeftAux_of_lt (by omega)]
  rfl
theorem div_shr {n : Nat} (y : BitVec n) (k : Nat) (h : k < n) : y / BitVec.ofNat n (2 ^ k) = y >>> k := by
  apply BitVec.eq_of_toNat_eq
  rw [BitVec.toNat_udiv, BitVec.toNat_ofNat, Nat.mod_eq_of_lt (Nat.pow_lt_pow_right (by omega) h), BitVec.toNat_ushiftRight, Nat.shiftRight_eq_div_pow]
theorem mod_low {n : Nat} (y : BitVec n) (k : Nat) (h : k < n) (i : Nat) : (y % BitVec.ofNat n (2 ^ k)).getLsbD i = (decide (i < k) && y.getLsbD i) := by
  simp only [BitVec.getLsbD]
  rw [BitVec.toNat_umod, BitVec.toNat_ofNat, Nat.mod_eq_of_lt (Nat.pow_lt_pow_right (by omega) h), Nat.testBit_mod_two_pow]
theorem mul2 {n : Nat} (y : BitVec n) : y * 2#n = y <<< 1 := by
  apply BitVec.eq_of_toNat_eq
  simp [BitVec.toNat_mul, BitVec.toNat_shiftLeft, Nat.shiftLeft_eq]
theorem rot_or {n : Nat} (y : BitVec n) (h : 1 < n) : y <<< 1 + y >>> (n - 1) = y.rotateLeft 1 := by
  rw [BitVec.add_eq_or_of_and_eq_zero, BitVec.rotateLeft_eq_rotateLeftAux_of_lt h]
  · rfl
  · apply BitVec.eq_of_getLsbD_eq
    intro i hi
    simp only [BitVec.getLsbD_and, BitVec.getLsbD_shiftLeft, BitVec.getLsbD_ushiftRight, BitVec.getLsbD_zero]
    by_cases h0 : i = 0
    · simp [h0]
    · rw [BitVec.getLsbD_of_ge y (n - 1 + i) (by omega)]; simp
theorem rot64_step (y : BitVec 64) : y * 2#64 + y / 9223372036854775808#64 = y.rotateLeft 1 := by
  rw [mul2]; exact (congrArg (y <<< 1 + ·) (div_shr y 63 (by omega))).trans (rot_or y (by omega))
theorem rot32_step (y : BitVec 32) : y * 2#32 + y / 2147483648#32 = y.rotateLeft 1 := by
  rw [mul2]; exact (congrArg (y <<< 1 + ·) (div_shr y 31 (by omega))).trans (rot_or y (by omega))
theorem rot_zero {n : Nat} (x : BitVec n) : x.rotateLeft 0 = x := by
  apply BitVec.eq_of_getLsbD_eq; intro i hi; simp [hi]
theorem rot_succ {n : Nat} (x : BitVec n) (k : Nat) (h1 : 1 < n) (h : k + 1 < n) : (x.rotateLeft k).rotateLeft 1 = x.rotateLeft (k + 1) := by
  apply BitVec.eq_of_getLsbD_eq; intro i hi
  simp only [BitVec.getLsbD_rotateLeft, Nat.mod_eq_of_lt h1, Nat.mod_eq_of_lt h, Nat.mod_eq_of_lt (show k < n by omega)]
  by_cases a : i < 1
  · have : i = 0 := by omega
    subst this
    have b : ¬ n - 1 < k := by omega
    have e : n - 1 - k = n - (k + 1) := by omega
    have f : n - 1 < n := by omega
    simp [b, e, f]
  · by_cases b : i < k + 1
    · have b' : i - 1 < k := by omega
      have e : n - k + (i - 1) = n - (k + 1) + i := by omega
      simp [a, b, b', e, hi]
    · have b' : ¬ i - 1 < k := by omega
      have e : i - 1 - k = i - (k + 1) := by omega
      have hi' : i - 1 < n := by omega
      simp [a, b, b', e, hi, hi']
theorem rot_back {n : Nat} (x : BitVec n) (k : Nat) (h : k ≤ n) : (x.rotateLeft k).rotateLeft (n - k) = x := by
  apply BitVec.eq_of_getLsbD_eq; intro i hi
  simp only [BitVec.getLsbD_rotateLeft]
  by_cases hk : k = n
  · subst hk; simp [hi]
  by_cases h0 : k = 0
  · subst h0; simp [hi]
  rw [Nat.mod_eq_of_lt (show k < n by omega), Nat.mod_eq_of_lt (show n - k < n by omega)]
  by_cases a : i < n - k
  · have b : ¬ n - (n - k) + i < k := by omega
    have c : n - (n - k) + i < n := by omega
    have e : n - (n - k) + i - k = i := by omega
    simp [a, b, c, e]
  · have b : i - (n - k) < k := by omega
    have e : n - k + (i - (n - k)) = i := by omega
    simp [a, b, e, hi]
end Go.Bv
