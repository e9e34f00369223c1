import Derived.Test.YtebcfbcfipmahaaGreatBv
import Derived.Test.YtebcfbcfipmahaaGreatProg
import Derived.Test.YtebcfbcfipmahaaGreatYWidQ
import Derived.Deep.RegionLaw
import Derived.Deep.RegionWith
import Derived.Handy
import Derived.Test.YtebcfbcfipmahaaGreatYDivM
section
/- Plain lemmas on turned words: the shapes in which the program and the document's own answer turn a word, as rotateLeft. -/
namespace Go.Bv

theorem ofInt_and63 (n : Int) : N64 (BitVec.ofInt 64 n &&& 63#64) = (n % 64).toNat := by
  have h : (BitVec.ofInt 64 n &&& 63#64).toNat = (BitVec.ofInt 64 n).toNat % 64 := by
    rw [BitVec.toNat_and]; exact Nat.and_two_pow_sub_one_eq_mod _ 6
  unfold N64; rw [h, BitVec.toNat_ofInt]; omega
theorem ofInt_and31 (n : Int) : N64 (BitVec.ofInt 64 n &&& 31#64) = (n % 32).toNat := by
  have h : (BitVec.ofInt 64 n &&& 31#64).toNat = (BitVec.ofInt 64 n).toNat % 32 := by
    rw [BitVec.toNat_and]; exact Nat.and_two_pow_sub_one_eq_mod _ 5
  unfold N64; rw [h, BitVec.toNat_ofInt]; omega
theorem rot64_prog (x : BitVec 64) (n : Int) :
    x <<< N64 (BitVec.ofInt 64 n &&& 63#64) ||| x >>> N64 (64#64 - (BitVec.ofInt 64 n &&& 63#64)) = x.rotateLeft (n % 64).toNat := by
  have h := ofInt_and63 n
  have h2 : N64 (64#64 - (BitVec.ofInt 64 n &&& 63#64)) = 64 - (n % 64).toNat := by
    have h3 : (BitVec.ofInt 64 n &&& 63#64).toNat = (n % 64).toNat := h
    unfold N64; rw [BitVec.toNat_sub, h3]; simp; omega
  rw [h, h2, BitVec.rotateLeft_eq_rotateLeftAux_of_lt (by omega)]
  rfl
theorem rot32_prog (x : BitVec 32) (n : Int) :
    x <<< N64 (BitVec.ofInt 64 n &&& 31#64) ||| x >>> N64 (32#64 - (BitVec.ofInt 64 n &&& 31#64)) = x.rotateLeft (n % 32).toNat := by
  have h := ofInt_and31 n
  have h2 : N64 (32#64 - (BitVec.ofInt 64 n &&& 31#64)) = 32 - (n % 32).toNat := by
    have h3 : (BitVec.ofInt 64 n &&& 31#64).toNat = (n % 32).toNat := h
    unfold N64; rw [BitVec.toNat_sub, h3]; simp; omega
  rw [h, h2, BitVec.rotateLeft_eq_rotateLeftAux_of_lt (by omega)]
  rfl
theorem div_shr {n : Nat} (y : BitVec n) (k : Nat) (h : k < n) : y / BitVec.ofNat n (2 ^ k) = y >>> k := by
  apply BitVec.eq_of_toNat_eq
  rw [BitVec.toNat_udiv, BitVec.toNat_ofNat, Nat.mod_eq_of_lt (Nat.pow_lt_pow_right (by omega) h), BitVec.toNat_ushiftRight, Nat.shiftRight_eq_div_pow]
theorem mod_low {n : Nat} (y : BitVec n) (k : Nat) (h : k < n) (i : Nat) : (y % BitVec.ofNat n (2 ^ k)).getLsbD i = (decide (i < k) && y.getLsbD i) := by
  simp only [BitVec.getLsbD]
  rw [BitVec.toNat_umod, BitVec.toNat_ofNat, Nat.mod_eq_of_lt (Nat.pow_lt_pow_right (by omega) h), Nat.testBit_mod_two_pow]
theorem mul2 {n : Nat} (y : BitVec n) : y * 2#n = y <<< 1 := by
  apply BitVec.eq_of_toNat_eq
  simp [BitVec.toNat_mul, BitVec.toNat_shiftLeft, Nat.shiftLeft_eq]
theorem rot_or {n : Nat} (y : BitVec n) (h : 1 < n) : y <<< 1 + y >>> (n - 1) = y.rotateLeft 1 := by
  rw [BitVec.add_eq_or_of_and_eq_zero, BitVec.rotateLeft_eq_rotateLeftAux_of_lt h]
  · rfl
  · apply BitVec.eq_of_getLsbD_eq
    intro i hi
    simp only [BitVec.getLsbD_and, BitVec.getLsbD_shiftLeft, BitVec.getLsbD_ushiftRight, BitVec.getLsbD_zero]
    by_cases h0 : i = 0
    · simp [h0]
    · rw [BitVec.getLsbD_of_ge y (n - 1 + i) (by omega)]; simp
theorem rot64_step (y : BitVec 64) : y * 2#64 + y / 9223372036854775808#64 = y.rotateLeft 1 := by
  rw [mul2]; exact (congrArg (y <<< 1 + ·) (div_shr y 63 (by omega))).trans (rot_or y (by omega))
theorem rot32_step (y : BitVec 32) : y * 2#32 + y / 2147483648#32 = y.rotateLeft 1 := by
  rw [mul2]; exact (congrArg (y <<< 1 + ·) (div_shr y 31 (by omega))).trans (rot_or y (by omega))
theorem rot_zero {n : Nat} (x : BitVec n) : x.rotateLeft 0 = x := by
  apply BitVec.eq_of_getLsbD_eq; intro i hi; simp [hi]
theorem rot_succ {n : Nat} (x : BitVec n) (k : Nat) (h1 : 1 < n) (h : k + 1 < n) : (x.rotateLeft k).rotateLeft 1 = x.rotateLeft (k + 1) := by
  apply BitVec.eq_of_getLsbD_eq; intro i hi
  simp only [BitVec.getLsbD_rotateLeft, Nat.mod_eq_of_lt h1, Nat.mod_eq_of_lt h, Nat.mod_eq_of_lt (show k < n by omega)]
  by_cases a : i < 1
  · have : i = 0 := by omega
    subst this
    have b : ¬ n - 1 < k := by omega
    have e : n - 1 - k = n - (k + 1) := by omega
    have f : n - 1 < n := by omega
    simp [b, e, f]
  · by_cases b : i < k + 1
    · have b' : i - 1 < k := by omega
      have e : n - k + (i - 1) = n - (k + 1) + i := by omega
      simp [a, b, b', e, hi]
    · have b' : ¬ i - 1 < k := by omega
      have e : i - 1 - k = i - (k + 1) := by omega
      have hi' : i - 1 < n := by omega
      simp [a, b, b', e, hi, hi']
theorem rot_back {n : Nat} (x : BitVec n) (k : Nat) (h : k ≤ n) : (x.rotateLeft k).rotateLeft (n - k) = x := by
  apply BitVec.eq_of_getLsbD_eq; intro i hi
  simp only [BitVec.getLsbD_rotateLeft]
  by_cases hk : k = n
  · subst hk; simp [hi]
  by_cases h0 : k = 0
  · subst h0; simp [hi]
  rw [Nat.mod_eq_of_lt (show k < n by omega), Nat.mod_eq_of_lt (show n - k < n by omega)]
  by_cases a : i < n - k
  · have b : ¬ n - (n - k) + i < k := by omega
    have c : n - (n - k) + i < n := by omega
    have e : n - (n - k) + i - k = i := by omega
    simp [a, b, c, e]
  · have b : i - (n - k) < k := by omega
    have e : n - k + (i - (n - k)) = i := by omega
    simp [a, b, e, hi]
end Go.Bv
end
section
/- Contracts of load.Rot64 and of the document's own Left and Rot64: for every word and every number. -/
namespace Go.Proofs.YtebcfbcfipmahaaGreat
open Go.RowKit Go.Bv
set_option linter.unusedVariables false
end Go.Proofs.YtebcfbcfipmahaaGreat
end
section
/- Numbers of 128 bits in two words: the contracts of wide once more; odd, add and Times of pcg64. · Contracts of pcg64: oneStep, on, Step, Out, Next. · Contracts of pcg64: Out, Next; the document's own Out. -/
namespace Go.Bv
open Go Go.RowKit
def hi128 (x : BitVec 128) : BitVec 64 := x.extractLsb' 64 64
def lo128 (x : BitVec 128) : BitVec 64 := x.setWidth 64
def join128 (a b : BitVec 64) : BitVec 128 := BitVec.ofNat 128 (two a b)
theorem hi_ofNat (N : Nat) : hi128 (BitVec.ofNat 128 N) = BitVec.ofNat 64 (N / 2 ^ 64) := by
  apply BitVec.eq_of_toNat_eq
  unfold hi128
  rw [BitVec.extractLsb'_toNat, BitVec.toNat_ofNat, BitVec.toNat_ofNat, Nat.shiftRight_eq_div_pow]
  rw [show (2 : Nat) ^ 128 = 2 ^ 64 * 2 ^ 64 from by rw [← Nat.pow_add], Nat.mod_mul_right_div_self, Nat.mod_mod]
theorem lo_ofNat (N : Nat) : lo128 (BitVec.ofNat 128 N) = BitVec.ofNat 64 N := by
  apply BitVec.eq_of_toNat_eq
  unfold lo128
  rw [BitVec.toNat_setWidth, BitVec.toNat_ofNat, BitVec.toNat_ofNat]
  rw [show (2 : Nat) ^ 128 = 2 ^ 64 * 2 ^ 64 from by rw [← Nat.pow_add], Nat.mod_mul_right_mod]
theorem two_x (x : BitVec 128) : two (hi128 x) (lo128 x) = x.toNat := by
  unfold two hi128 lo128
  rw [BitVec.extractLsb'_toNat, BitVec.toNat_setWidth, Nat.shiftRight_eq_div_pow]
  have := x.isLt
  omega
theorem hi_join (a b : BitVec 64) : hi128 (join128 a b) = a := by unfold join128; rw [hi_ofNat, two_hi]
theorem lo_join (a b : BitVec 64) : lo128 (join128 a b) = b := by unfold join128; rw [lo_ofNat, two_lo]
theorem ext128 {x y : BitVec 128} (h1 : hi128 x = hi128 y) (h2 : lo128 x = lo128 y) : x = y := by
  apply BitVec.eq_of_toNat_eq; rw [← two_x, ← two_x, h1, h2]
theorem eq_parts (x y : BitVec 128) : (hi128 x == hi128 y && lo128 x == lo128 y) = (x == y) := by
  rw [Bool.eq_iff_iff, Bool.and_eq_true, beq_iff_eq, beq_iff_eq, beq_iff_eq]
  exact ⟨fun h => ext128 h.1 h.2, fun h => by rw [h]; exact ⟨rfl, rfl⟩⟩
theorem one_bit (j : Nat) (h : j ≠ 0) : (1#128).getLsbD j = false := by
  rw [BitVec.getLsbD_one]; simp [h]
theorem hi_or1 (x : BitVec 128) : hi128 x = hi128 (x ||| 1#128) := by
  unfold hi128
  apply BitVec.eq_of_getLsbD_eq
  intro i hi
  rw [BitVec.getLsbD_extractLsb', BitVec.getLsbD_extractLsb', BitVec.getLsbD_or, one_bit _ (by omega), Bool.or_false]
theorem lo_or1 (x : BitVec 128) : lo128 x ||| 1#64 = lo128 (x ||| 1#128) := by
  unfold lo128
  rw [BitVec.setWidth_or]; rfl
/-- the two words of a number in a box -/
def B2 (w : World) (b : Nat) (t : TypeId) (x : BitVec 128) : Prop := w.heap[b]? = some (.cells #[.int .u64 (W64 (hi128 x)), .int .u64 (W64 (lo128 x))] t (0, 0))
theorem B2.stay {w w' : World} {b : Nat} {t : TypeId} {x : BitVec 128} (h : B2 w b t x) (hn : New w w') : B2 w' b t x := (hn.block _ (lt_of_block h)).trans h
theorem B2.c0 {w : World} {b : Nat} {t : TypeId} {x : BitVec 128} (h : B2 w b t x) : w.cell? ⟨b, 0, none⟩ = some (.int .u64 (W64 (hi128 x))) := by rw [cell_of_row _ _ _ _ _ _ h]; rfl
theorem B2.c1 {w : World} {b : Nat} {t : TypeId} {x : BitVec 128} (h : B2 w b t x) : w.cell? ⟨b, 1, none⟩ = some (.int .u64 (W64 (lo128 x))) := by rw [cell_of_row _ _ _ _ _ _ h]; rfl
theorem B2.free {w : World} {b : Nat} {t : TypeId} {x : BitVec 128} (h : B2 w b t x) (i : Nat) : w.frozen? ⟨b, i, none⟩ = false := frozen_of_row _ _ _ _ _ h
/-- a box of zeros -/
def Z2 (w : World) (b : Nat) (t : TypeId) : Prop := w.heap[b]? = some (.cells #[.int .u64 0, .int .u64 0] t (0, 0))
theorem Z2.stay {w w' : World} {b : Nat} {t : TypeId} (h : Z2 w b t) (hn : New w w') : Z2 w' b t := (hn.block _ (lt_of_block h)).trans h
theorem Z2.c0 {w : World} {b : Nat} {t : TypeId} (h : Z2 w b t) : w.cell? ⟨b, 0, none⟩ = some (.int .u64 0) := by rw [cell_of_row _ _ _ _ _ _ h]; rfl
theorem Z2.c1 {w : World} {b : Nat} {t : TypeId} (h : Z2 w b t) : w.cell? ⟨b, 1, none⟩ = some (.int .u64 0) := by rw [cell_of_row _ _ _ _ _ _ h]; rfl
theorem Z2.free {w : World} {b : Nat} {t : TypeId} (h : Z2 w b t) (i : Nat) : w.frozen? ⟨b, i, none⟩ = false := frozen_of_row _ _ _ _ _ h
/-- a number stored whole -/
theorem B2.put {w : World} {b : Nat} {t : TypeId} {u v : Value} (x : BitVec 128) (h : w.heap[b]? = some (.cells #[u, v] t (0, 0))) :
    B2 ((w.setCell ⟨b, 0, none⟩ (.int .u64 (W64 (hi128 x)))).setCell ⟨b, 1, none⟩ (.int .u64 (W64 (lo128 x)))) b t x := by
  have h1 := heap_setCell_same w b 0 _ t (.int .u64 (W64 (hi128 x))) h
  have h2 := heap_setCell_same _ b 1 _ t (.int .u64 (W64 (lo128 x))) h1
  exact h2
theorem put2_other {w : World} {b k : Nat} (x : BitVec 128) (hk : k ≠ b) :
    ((w.setCell ⟨b, 0, none⟩ (.int .u64 (W64 (hi128 x)))).setCell ⟨b, 1, none⟩ (.int .u64 (W64 (lo128 x)))).heap[k]? = w.heap[k]? := by
  rw [heap_setCell_other _ _ _ _ hk, heap_setCell_other _ _ _ _ hk]
theorem put2_new {W w : World} {b : Nat} (x : BitVec 128) (hn : New W w) (hb : W.heap.size ≤ b) :
    New W ((w.setCell ⟨b, 0, none⟩ (.int .u64 (W64 (hi128 x)))).setCell ⟨b, 1, none⟩ (.int .u64 (W64 (lo128 x)))) := (hn.setCell hb _).setCell hb _
theorem two_blocks (w : World) (A B : Obj) : ((w.alloc A).alloc B).heap[w.heap.size]? = some A ∧ ((w.alloc A).alloc B).heap[w.heap.size + 1]? = some B ∧ New w ((w.alloc A).alloc B) := by
  have e1 : (w.alloc A).heap.size = w.heap.size + 1 := by simp
  refine ⟨?_, ?_, ((New.refl w).alloc _).alloc _⟩
  · rw [((New.refl (w.alloc A)).alloc B).block _ (by rw [e1]; omega)]; exact heap_alloc_new _ _
  · rw [← e1]; exact heap_alloc_new _ _
end Go.Bv
namespace Go.Proofs.YtebcfbcfipmahaaGreat
open Go.RowKit Go.Bv
set_option linter.unusedVariables false
set_option maxRecDepth 100000
theorem wtimes_x (x y : BitVec 128) (w : World) :
    Calls Tryz.prog 134 #[.agg #[.int .u64 (W64 (hi128 x)), .int .u64 (W64 (lo128 x))], .agg #[.int .u64 (W64 (hi128 y)), .int .u64 (W64 (lo128 y))]] w fun e w' =>
      e = .returned (.agg #[.int .u64 (W64 (hi128 (x * y))), .int .u64 (W64 (lo128 (x * y)))]) ∧ New w w' := by
  have h := wtimes_two (hi128 x) (lo128 x) (hi128 y) (lo128 y) w
  have e : BitVec.ofNat 128 (x.toNat * y.toNat) = x * y := BitVec.eq_of_toNat_eq (by rw [BitVec.toNat_ofNat, BitVec.toNat_mul])
  rw [two_x, two_x, ← hi_ofNat, ← lo_ofNat, e] at h
  exact h
theorem wadd_x (x y : BitVec 128) (w : World) :
    Calls Tryz.prog 142 #[.agg #[.int .u64 (W64 (hi128 x)), .int .u64 (W64 (lo128 x))], .agg #[.int .u64 (W64 (hi128 y)), .int .u64 (W64 (lo128 y))]] w fun e w' =>
      e = .returned (.tuple #[.agg #[.int .u64 (W64 (hi128 (x + y))), .int .u64 (W64 (lo128 (x + y)))], .bool (decide (2 ^ 128 ≤ x.toNat + y.toNat))]) ∧ New w w' := by
  have h := wadd_two (hi128 x) (lo128 x) (hi128 y) (lo128 y) w
  have e : BitVec.ofNat 128 (x.toNat + y.toNat) = x + y := BitVec.eq_of_toNat_eq (by rw [BitVec.toNat_ofNat, BitVec.toNat_add])
  rw [two_x, two_x, ← hi_ofNat, ← lo_ofNat, e] at h
  exact h
theorem wsub_x (x y : BitVec 128) (w : World) :
    Calls Tryz.prog 159 #[.agg #[.int .u64 (W64 (hi128 x)), .int .u64 (W64 (lo128 x))], .agg #[.int .u64 (W64 (hi128 y)), .int .u64 (W64 (lo128 y))]] w fun e w' =>
      e = .returned (.tuple #[.agg #[.int .u64 (W64 (hi128 (x - y))), .int .u64 (W64 (lo128 (x - y)))], .bool (decide (x.toNat < y.toNat))]) ∧ New w w' := by
  have hx := x.isLt
  have hy := y.isLt
  have h := wsub_two (hi128 x) (lo128 x) (hi128 y) (lo128 y) w (2 ^ 128 - y.toNat + x.toNat) (by rw [two_x, two_x]; omega)
  have e : BitVec.ofNat 128 (2 ^ 128 - y.toNat + x.toNat) = x - y := BitVec.eq_of_toNat_eq (by rw [BitVec.toNat_ofNat, BitVec.toNat_sub])
  rw [two_x, two_x, ← hi_ofNat, ← lo_ofNat, e] at h
  exact h
theorem wshl_x (x : BitVec 128) (m : Nat) (hm : m < 128) (n : Int) (hn : n = (m : Int)) (w : World) :
    Calls Tryz.prog 157 #[.agg #[.int .u64 (W64 (hi128 x)), .int .u64 (W64 (lo128 x))], .int .i64 n] w fun e w' =>
      e = .returned (.agg #[.int .u64 (W64 (hi128 (x <<< m))), .int .u64 (W64 (lo128 (x <<< m)))]) ∧ New w w' := by
  have h := wshl_two (hi128 x) (lo128 x) n m m (by omega) (by omega) (by omega) w
  have e : BitVec.ofNat 128 (x.toNat * 2 ^ m) = x <<< m := BitVec.eq_of_toNat_eq (by rw [BitVec.toNat_ofNat, BitVec.toNat_shiftLeft, Nat.shiftLeft_eq])
  rw [two_x, ← hi_ofNat, ← lo_ofNat, e] at h
  exact h
theorem wshr_x (x : BitVec 128) (m : Nat) (hm : m < 128) (n : Int) (hn : n = (m : Int)) (w : World) :
    Calls Tryz.prog 128 #[.agg #[.int .u64 (W64 (hi128 x)), .int .u64 (W64 (lo128 x))], .int .i64 n] w fun e w' =>
      e = .returned (.agg #[.int .u64 (W64 (hi128 (x >>> m))), .int .u64 (W64 (lo128 (x >>> m)))]) ∧ New w w' := by
  have h := wshr_two (hi128 x) (lo128 x) n m m (by omega) (by omega) (by omega) w
  have e : BitVec.ofNat 128 (x.toNat / 2 ^ m) = x >>> m := BitVec.eq_of_toNat_eq (by
    rw [BitVec.toNat_ofNat, BitVec.toNat_ushiftRight, Nat.shiftRight_eq_div_pow]
    exact Nat.mod_eq_of_lt (Nat.lt_of_le_of_lt (Nat.div_le_self _ _) x.isLt))
  rw [two_x, ← hi_ofNat, ← lo_ofNat, e] at h
  exact h
theorem equ_x (w : World) (x y : BitVec 128) :
    (Op.equalIn 10000 63 (.agg #[.int .u64 (W64 (hi128 x)), .int .u64 (W64 (lo128 x))]) (.agg #[.int .u64 (W64 (hi128 y)), .int .u64 (W64 (lo128 y))])).run Tryz.prog w = .ok (x == y) w := by
  rw [equ128, eq_parts]
/-- the factor of pcg64 -/
def T14 : BitVec 128 := 0x2360ed051fc65da44385df649fccf645#128
theorem T14_hi : W64 (hi128 T14) = 2549297995355413924 := by unfold W64; decide +kernel
theorem T14_lo : W64 (lo128 T14) = 4865540595714422341 := by unfold W64; decide +kernel
end Go.Proofs.YtebcfbcfipmahaaGreat
namespace Go.Bv
open Go Go.RowKit
/-- the two numbers of an effect, in a box -/
def E4 (w : World) (b : Nat) (t : TypeId) (m p : BitVec 128) : Prop := w.heap[b]? = some (.cells #[.int .u64 (W64 (hi128 m)), .int .u64 (W64 (lo128 m)), .int .u64 (W64 (hi128 p)), .int .u64 (W64 (lo128 p))] t (0, 0))
def E4z (w : World) (b : Nat) (t : TypeId) : Prop := w.heap[b]? = some (.cells #[.int .u64 0, .int .u64 0, .int .u64 0, .int .u64 0] t (0, 0))
theorem E4z.stay {w w' : World} {b : Nat} {t : TypeId} (h : E4z w b t) (hn : New w w') : E4z w' b t := (hn.block _ (lt_of_block h)).trans h
theorem E4z.c {w : World} {b : Nat} {t : TypeId} (h : E4z w b t) (i : Nat) (hi : i < 4) : w.cell? ⟨b, i, none⟩ = some (.int .u64 0) := by
  rw [cell_of_row _ _ _ _ _ _ h]
  have hc : i = 0 ∨ i = 1 ∨ i = 2 ∨ i = 3 := by omega
  rcases hc with rfl | rfl | rfl | rfl <;> rfl
theorem E4z.free {w : World} {b : Nat} {t : TypeId} (h : E4z w b t) (i : Nat) : w.frozen? ⟨b, i, none⟩ = false := frozen_of_row _ _ _ _ _ h
theorem E4.stay {w w' : World} {b : Nat} {t : TypeId} {m p : BitVec 128} (h : E4 w b t m p) (hn : New w w') : E4 w' b t m p := (hn.block _ (lt_of_block h)).trans h
theorem E4.c0 {w : World} {b : Nat} {t : TypeId} {m p : BitVec 128} (h : E4 w b t m p) : w.cell? ⟨b, 0, none⟩ = some (.int .u64 (W64 (hi128 m))) := by rw [cell_of_row _ _ _ _ _ _ h]; rfl
theorem E4.c1 {w : World} {b : Nat} {t : TypeId} {m p : BitVec 128} (h : E4 w b t m p) : w.cell? ⟨b, 1, none⟩ = some (.int .u64 (W64 (lo128 m))) := by rw [cell_of_row _ _ _ _ _ _ h]; rfl
theorem E4.c2 {w : World} {b : Nat} {t : TypeId} {m p : BitVec 128} (h : E4 w b t m p) : w.cell? ⟨b, 2, none⟩ = some (.int .u64 (W64 (hi128 p))) := by rw [cell_of_row _ _ _ _ _ _ h]; rfl
theorem E4.c3 {w : World} {b : Nat} {t : TypeId} {m p : BitVec 128} (h : E4 w b t m p) : w.cell? ⟨b, 3, none⟩ = some (.int .u64 (W64 (lo128 p))) := by rw [cell_of_row _ _ _ _ _ _ h]; rfl
theorem E4.free {w : World} {b : Nat} {t : TypeId} {m p : BitVec 128} (h : E4 w b t m p) (i : Nat) : w.frozen? ⟨b, i, none⟩ = false := frozen_of_row _ _ _ _ _ h
/-- an effect stored whole -/
theorem E4.put {w : World} {b : Nat} {t : TypeId} {x y u v : Value} (m p : BitVec 128) (h : w.heap[b]? = some (.cells #[x, y, u, v] t (0, 0))) :
    E4 ((((w.setCell ⟨b, 0, none⟩ (.int .u64 (W64 (hi128 m)))).setCell ⟨b, 1, none⟩ (.int .u64 (W64 (lo128 m)))).setCell ⟨b, 2, none⟩ (.int .u64 (W64 (hi128 p)))).setCell ⟨b, 3, none⟩ (.int .u64 (W64 (lo128 p)))) b t m p := by
  have h1 := heap_setCell_same w b 0 _ t (.int .u64 (W64 (hi128 m))) h
  have h2 := heap_setCell_same _ b 1 _ t (.int .u64 (W64 (lo128 m))) h1
  have h3 := heap_setCell_same _ b 2 _ t (.int .u64 (W64 (hi128 p))) h2
  have h4 := heap_setCell_same _ b 3 _ t (.int .u64 (W64 (lo128 p))) h3
  exact h4
theorem put4_other {w : World} {b k : Nat} (m p : BitVec 128) (hk : k ≠ b) :
    ((((w.setCell ⟨b, 0, none⟩ (.int .u64 (W64 (hi128 m)))).setCell ⟨b, 1, none⟩ (.int .u64 (W64 (lo128 m)))).setCell ⟨b, 2, none⟩ (.int .u64 (W64 (hi128 p)))).setCell ⟨b, 3, none⟩ (.int .u64 (W64 (lo128 p)))).heap[k]? = w.heap[k]? := by
  rw [heap_setCell_other _ _ _ _ hk, heap_setCell_other _ _ _ _ hk, heap_setCell_other _ _ _ _ hk, heap_setCell_other _ _ _ _ hk]
theorem put4_new {W w : World} {b : Nat} (m p : BitVec 128) (hn : New W w) (hb : W.heap.size ≤ b) :
    New W ((((w.setCell ⟨b, 0, none⟩ (.int .u64 (W64 (hi128 m)))).setCell ⟨b, 1, none⟩ (.int .u64 (W64 (lo128 m)))).setCell ⟨b, 2, none⟩ (.int .u64 (W64 (hi128 p)))).setCell ⟨b, 3, none⟩ (.int .u64 (W64 (lo128 p)))) := (((hn.setCell hb _).setCell hb _).setCell hb _).setCell hb _
end Go.Bv
namespace Go.Proofs.YtebcfbcfipmahaaGreat
open Go.RowKit Go.Bv
set_option linter.unusedVariables false
set_option maxRecDepth 100000
end Go.Proofs.YtebcfbcfipmahaaGreat
namespace Go.Proofs.YtebcfbcfipmahaaGreat
open Go.RowKit Go.Bv
set_option linter.unusedVariables false
set_option maxRecDepth 100000
/-- what pcg64 tells of a state -/
def out14 (s : BitVec 128) : BitVec 64 := (hi128 s ^^^ lo128 s).rotateLeft ((64 - (hi128 s).toNat / 2 ^ 58) % 64)
theorem rot_k (s : BitVec 128) : ∃ k : Nat, (hi128 s).toNat / 2 ^ 58 = k ∧ k < 64 := ⟨_, rfl, by have := (hi128 s).isLt; omega⟩
theorem rot_neg (s : BitVec 128) : (wrap64 (-wrap64 (W64 (hi128 s >>> 58))) % 64).toNat = (64 - (hi128 s).toNat / 2 ^ 58) % 64 := by
  obtain ⟨k, hk, hlt⟩ := rot_k s
  have e : W64 (hi128 s >>> 58) = (k : Int) := by unfold W64; rw [BitVec.toNat_ushiftRight, Nat.shiftRight_eq_div_pow, hk]
  rw [e, hk]
  unfold wrap64
  omega
theorem rot_sub (s : BitVec 128) : (wrap64 (64 - wrap64 (W64 (hi128 s / 288230376151711744#64))) % 64).toNat = (64 - (hi128 s).toNat / 2 ^ 58) % 64 := by
  obtain ⟨k, hk, hlt⟩ := rot_k s
  have e : W64 (hi128 s / 288230376151711744#64) = (k : Int) := by unfold W64; rw [BitVec.toNat_udiv, ← hk]; rfl
  rw [e, hk]
  unfold wrap64
  omega
theorem rot_in (s : BitVec 128) : -9223372036854775808 ≤ wrap64 (64 - wrap64 (W64 (hi128 s / 288230376151711744#64))) ∧ wrap64 (64 - wrap64 (W64 (hi128 s / 288230376151711744#64))) ≤ 9223372036854775807 := by
  unfold wrap64; omega
end Go.Proofs.YtebcfbcfipmahaaGreat
end
section
/- The number that two cells of a box hold. -/
namespace Go.Bv
open Go Go.RowKit
/-- the number that two cells of a box hold -/
def num2 (w : World) (b : Nat) : Nat := (intOf ((w.cell? ⟨b, 0, none⟩).getD (.bool false))).toNat * 18446744073709551616 + (intOf ((w.cell? ⟨b, 1, none⟩).getD (.bool false))).toNat
theorem B2.num {w : World} {b : Nat} {t : TypeId} {x : BitVec 128} (h : B2 w b t x) : num2 w b = x.toNat := by
  unfold num2; rw [h.c0, h.c1, ← two_x]; unfold two; simp [intOf, W64]
end Go.Bv
end
section
/- Contracts of mers.P, Fold, Add, Sub, Mul and Is, and of the document's own P: for all numbers. -/
namespace Go.Bv
open Go Go.RowKit
set_option linter.unusedVariables false
/-- the prime of so many bits; 0: there is none -/
def pM (k : Int) : BitVec 64 := if k = 31 then 2147483647#64 else if k = 61 then 2305843009213693951#64 else 0#64
theorem pM31 : pM 31 = 2147483647#64 := by unfold pM; rw [if_pos rfl]
theorem pM61 : pM 61 = 2305843009213693951#64 := by unfold pM; rw [if_neg (by omega), if_pos rfl]
theorem pM_no {k : Int} (h1 : ¬ k = 31) (h2 : ¬ k = 61) : pM k = 0#64 := by unfold pM; rw [if_neg h1, if_neg h2]
/-- what holds at the head of a round of Fold -/
def FoldI (m p X : Nat) (j s y : Nat) : Prop := (s + y) % p = X % p ∧ s ≤ j * p ∧ y < 2 ^ (128 - j * m)
theorem fold_next {m p X j s y : Nat} (hm : 31 ≤ m ∧ m ≤ 61) (hp : p = 2 ^ m - 1) (h : FoldI m p X j s y) (hy : y ≠ 0) :
    FoldI m p X (j + 1) (s + y % 2 ^ m) (y / 2 ^ m) ∧ j + 1 ≤ 5 := by
  obtain ⟨h1, h2, h3⟩ := h
  have hpos := Nat.two_pow_pos m
  have hge : 2 ≤ 2 ^ m := by have := Nat.pow_le_pow_right (show 0 < 2 by omega) (show 1 ≤ m by omega); omega
  have hj : j * m < 128 := by
    rcases Nat.lt_or_ge (j * m) 128 with h | h
    · exact h
    · rw [show 128 - j * m = 0 by omega, Nat.pow_zero] at h3; omega
  have hj5 : j ≤ 4 := by
    rcases Nat.lt_or_ge j 5 with h | h
    · omega
    · have : 5 * 31 ≤ j * m := Nat.mul_le_mul h hm.1
      omega
  have he : y = 2 ^ m * (y / 2 ^ m) + y % 2 ^ m := (Nat.div_add_mod y (2 ^ m)).symm
  have hlt := Nat.mod_lt y hpos
  refine ⟨⟨?_, ?_, ?_⟩, by omega⟩
  · rw [← h1]
    have e : s + y = (s + y % 2 ^ m + y / 2 ^ m) + p * (y / 2 ^ m) := by
      conv => lhs; rw [he]
      have : 2 ^ m * (y / 2 ^ m) = p * (y / 2 ^ m) + y / 2 ^ m := by
        rw [show 2 ^ m = p + 1 by omega, Nat.add_mul, Nat.one_mul]
      omega
    rw [e, Nat.add_mul_mod_self_left]
  · rw [Nat.add_mul]; omega
  · have e : 128 - (j + 1) * m = 128 - j * m - m := by rw [Nat.add_mul]; omega
    rw [e]
    by_cases hb : m ≤ 128 - j * m
    · have e2 : 2 ^ (128 - j * m) = 2 ^ m * 2 ^ (128 - j * m - m) := by rw [← Nat.pow_add]; congr 1; omega
      rw [e2] at h3
      exact Nat.div_lt_of_lt_mul h3
    · have h4 : 2 ^ (128 - j * m) ≤ 2 ^ m := Nat.pow_le_pow_right (by omega) (by omega)
      rw [Nat.div_eq_of_lt (by omega)]; exact Nat.two_pow_pos _
theorem fold_sum {m p X j s : Nat} (hm : 31 ≤ m ∧ m ≤ 61) (hp : p = 2 ^ m - 1) (h : FoldI m p X j s 0) (hj : j ≤ 5) :
    (s % 2 ^ m + s / 2 ^ m) % p = X % p ∧ s % 2 ^ m + s / 2 ^ m ≤ p + 4 ∧ s ≤ 5 * p := by
  obtain ⟨h1, h2, _⟩ := h
  have hpos := Nat.two_pow_pos m
  have hlt := Nat.mod_lt s hpos
  have he : s = 2 ^ m * (s / 2 ^ m) + s % 2 ^ m := (Nat.div_add_mod s (2 ^ m)).symm
  have hs : s ≤ 5 * p := Nat.le_trans h2 (Nat.mul_le_mul_right p hj)
  refine ⟨?_, ?_, hs⟩
  · rw [← h1, Nat.add_zero]
    have e : s = (s % 2 ^ m + s / 2 ^ m) + p * (s / 2 ^ m) := by
      conv => lhs; rw [he]
      have : 2 ^ m * (s / 2 ^ m) = p * (s / 2 ^ m) + s / 2 ^ m := by
        rw [show 2 ^ m = p + 1 by omega, Nat.add_mul, Nat.one_mul]
      omega
    conv => rhs; rw [e]
    rw [Nat.add_mul_mod_self_left]
  · have hd : s / 2 ^ m < 5 := by
      apply Nat.div_lt_of_lt_mul
      omega
    omega
theorem and_p (s p : BitVec 64) (m : Nat) (hp : p.toNat = 2 ^ m - 1) : (s &&& p).toNat = s.toNat % 2 ^ m := by
  rw [BitVec.toNat_and, hp, Nat.and_two_pow_sub_one_eq_mod]
theorem lo_toNat (y : BitVec 128) : (lo128 y).toNat = y.toNat % 2 ^ 64 := by unfold lo128; rw [BitVec.toNat_setWidth]
theorem lo_and_p (y : BitVec 128) (p : BitVec 64) (m : Nat) (hm : m ≤ 61) (hp : p.toNat = 2 ^ m - 1) : (lo128 y &&& p).toNat = y.toNat % 2 ^ m := by
  rw [and_p _ _ m hp, lo_toNat]
  exact Nat.mod_mod_of_dvd _ (Nat.pow_dvd_pow 2 (by omega))
end Go.Bv
namespace Go.Proofs.YtebcfbcfipmahaaGreat
open Go.RowKit Go.Bv
set_option linter.unusedVariables false
theorem mp_any (k : Int) (w : World) : Calls Tryz.prog 149 #[.int .i64 k] w fun e w' => e = .returned (.int .u64 (W64 (pM k))) ∧ w' = w := by
  by_cases h1 : k = 31
  · subst h1
    rw [pM31]
    go_enter Tryz.func149, Tryz.ntmps149
    go_wp2
    go_ret
    exact ⟨ret64 (by decide +kernel), rfl⟩
  · by_cases h2 : k = 61
    · subst h2
      rw [pM61]
      go_enter Tryz.func149, Tryz.ntmps149
      go_wp2
      go_ret
      exact ⟨ret64 (by decide +kernel), rfl⟩
    · have hb1 : (k != 31) = true := by rw [bne_iff_ne]; exact h1
      have hb2 : (k != 61) = true := by rw [bne_iff_ne]; exact h2
      rw [pM_no h1 h2, lo_zero]
      go_enter Tryz.func149, Tryz.ntmps149
      go_wp2
      go_ret
      exact ⟨rfl, rfl⟩
set_option maxHeartbeats 1000000 in
theorem fold_k (X : BitVec 128) (m : Nat) (hm : 31 ≤ m ∧ m ≤ 61) (p : BitVec 64) (hp : p.toNat = 2 ^ m - 1)
    (CP : Hid (∀ w, Calls Tryz.prog 149 #[.int .i64 m] w fun e w' => e = .returned (.int .u64 (W64 p)) ∧ w' = w)) (w : World) :
    Calls Tryz.prog 143 #[.int .i64 m, .agg #[.int .u64 (W64 (hi128 X)), .int .u64 (W64 (lo128 X))]] w fun e w' => e = .returned (.int .u64 (W64 (md X.toNat p))) ∧ New w w' := by
  have hpow := Nat.pow_le_pow_right (show 0 < 2 by omega) hm.1
  have hpow2 := Nat.pow_le_pow_right (show 0 < 2 by omega) hm.2
  have hpz : (p == 0#64) = false := by rw [beq_eq_false_iff_ne]; intro h; subst h; rw [show (0#64).toNat = 0 from rfl] at hp; omega
  have hpn : ¬ p = 0#64 := by rw [beq_eq_false_iff_ne] at hpz; exact hpz
  have HPN := Lib.hid hpn
  have HP := Lib.hid hp
  have HM := Lib.hid hm
  have HPOW := Lib.hid hpow
  have HPOW2 := Lib.hid hpow2
  have hm0 : 0 ≤ (m : Int) := by omega
  have HIN : Hid (FoldI m p.toNat X.toNat 0 (0#64).toNat X.toNat) := Lib.hid ⟨by simp, by simp, by rw [Nat.zero_mul]; exact X.isLt⟩
  have h1 := heap_alloc_new w (.cells #[.int .u64 (W64 (hi128 X)), .int .u64 (W64 (lo128 X))] 63)
  have h2 := (New.refl w).alloc (.cells #[.int .u64 (W64 (hi128 X)), .int .u64 (W64 (lo128 X))] 63)
  have H1 := Lib.hid h1
  have H2 := Lib.hid h2
  clear hpow hpow2 hp hm hpn h1 h2
  go_enter Tryz.func143, Tryz.ntmps143
  go_wp2_with fail
  refine (CP.out _).mono ?_
  rintro e w1 ⟨rfl, rfl⟩
  go_wp2_with fail
  generalize w.alloc (.cells #[.int .u64 (W64 (hi128 X)), .int .u64 (W64 (lo128 X))] 63) = w0 at *
  go_loopw [6] (fun S wr => ∃ (j : Nat) (s : BitVec 64) (y : BitVec 128), S = .int .u64 (W64 s) ∧ j ≤ 5 ∧ B2 wr w.heap.size 63 y ∧ New w wr ∧ Hid (FoldI m p.toNat X.toNat j s.toNat y.toNat)) (fun _ wr => num2 wr w.heap.size)
  case atStart => exact ⟨0, 0#64, X, by rw [lo_zero], by omega, H1.out, H2.out, HIN⟩
  case round =>
    clear H1 H2 HIN
    obtain ⟨j, s, y, rfl, hj, hb, hnew, hinv⟩ := hrel
    have HB := Lib.hid hb
    have HN := Lib.hid hnew
    have n0 := hb.c0
    have n1 := hb.c1
    have nf := hb.free
    have hnum := hb.num
    have heq := fun w => equ_x w y 0#128
    rw [show W64 (hi128 0#128) = 0 from by unfold W64; decide +kernel, show W64 (lo128 0#128) = 0 from by unfold W64; decide +kernel] at heq
    clear hb hnew
    by_cases h0 : y = 0#128
    · subst h0
      rw [BEq.rfl] at heq
      obtain ⟨hf1, hf2, hf3⟩ := fold_sum HM.out HP.out hinv.out hj
      have hP := HP.out
      have hP1 := HPOW.out
      have hP2 := HPOW2.out
      obtain ⟨s2, hs2⟩ : ∃ z, (s &&& p) + s >>> m = z := ⟨_, rfl⟩
      have hn2 : s2.toNat = s.toNat % 2 ^ m + s.toNat / 2 ^ m := by
        rw [← hs2, BitVec.toNat_add, and_p _ _ m hP, BitVec.toNat_ushiftRight, Nat.shiftRight_eq_div_pow]
        exact Nat.mod_eq_of_lt (by omega)
      rw [← hn2] at hf1 hf2
      by_cases hc : decide (W64 p ≤ W64 s2) = true
      · have hle : p.toNat ≤ s2.toNat := by have := of_decide_eq_true hc; unfold W64 at this; omega
        have hr : s2 - p = md X.toNat p := md_eq HPN.out (by
          rw [sub_nat hle, ← hf1, Nat.mod_eq_sub_mod hle, Nat.mod_eq_of_lt (by omega)])
        have HR := Lib.hid hr
        clear hf1 hf2 hf3 hP hP1 hP2 hn2 hle hr
        go_wp2
        go_ret
        exact ⟨ret64 HR.out, HN.out⟩
      · have hc := Bool.not_eq_true _ ▸ hc
        have hle : s2.toNat < p.toNat := by have := of_decide_eq_false hc; unfold W64 at this; omega
        have hr : s2 = md X.toNat p := md_eq HPN.out (by rw [← hf1, Nat.mod_eq_of_lt hle])
        have HR := Lib.hid hr
        clear hf1 hf2 hf3 hP hP1 hP2 hn2 hle hr
        go_wp2
        go_ret
        exact ⟨ret64 HR.out, HN.out⟩
    · have h0b : (y == 0#128) = false := beq_false_of_ne h0
      rw [h0b] at heq
      obtain ⟨hx1, hx2⟩ := fold_next HM.out HP.out hinv.out (fun h => h0 (BitVec.eq_of_toNat_eq h))
      have hsum : (s + (lo128 y &&& p)).toNat = s.toNat + y.toNat % 2 ^ m := by
        rw [BitVec.toNat_add, lo_and_p y p m HM.out.2 HP.out]
        apply Nat.mod_eq_of_lt
        have hP := HP.out
        have hP2 := HPOW2.out
        have := hx1.2.1
        have : (j + 1) * p.toNat ≤ 5 * p.toNat := Nat.mul_le_mul_right _ hx2
        omega
      have HX : Hid (FoldI m p.toNat X.toNat (j + 1) (s + (lo128 y &&& p)).toNat (y >>> m).toNat) := Lib.hid (by
        rw [hsum, BitVec.toNat_ushiftRight, Nat.shiftRight_eq_div_pow]; exact hx1)
      have HL : Hid ((y >>> m).toNat < y.toNat) := Lib.hid (by
        rw [BitVec.toNat_ushiftRight, Nat.shiftRight_eq_div_pow]
        have h1 : y.toNat ≠ 0 := fun h => h0 (BitVec.eq_of_toNat_eq (by rw [h]; rfl))
        have : 2 ≤ 2 ^ m := by have := HPOW.out; omega
        exact Nat.div_lt_self (by omega) (by omega))
      have HJ := Lib.hid hx2
      have HSH := Lib.hid (fun w => wshr_x y m (by have := HM.out; omega) m rfl w)
      have HNUM := Lib.hid hnum
      clear h0 h0b hx1 hx2 hsum hinv hnum
      go_wp2_with fail
      refine (HSH.out _).mono ?_
      rintro e w3 ⟨rfl, hn3⟩
      have hb3 := HB.out.stay hn3
      have n0 := hb3.c0
      have n1 := hb3.c1
      have nf := hb3.free
      have HB3 := Lib.hid hb3
      have HN3 := Lib.hid (HN.out.trans hn3)
      clear hb3 hn3
      go_wp2
      refine ⟨⟨j + 1, _, _, rfl, HJ.out, B2.put _ HB3.out, put2_new _ HN3.out (Nat.le_refl _), HX⟩, ?_⟩
      rw [(B2.put (y >>> m) HB3.out).num, HNUM.out]
      exact HL.out
theorem pM_cases (k : Int) : (∃ m : Nat, k = m ∧ (31 ≤ m ∧ m ≤ 61) ∧ (pM k).toNat = 2 ^ m - 1) ∨ (¬ k = 31 ∧ ¬ k = 61 ∧ pM k = 0#64) := by
  by_cases h1 : k = 31
  · subst h1; exact Or.inl ⟨31, rfl, by omega, by rw [pM31]; decide +kernel⟩
  · by_cases h2 : k = 61
    · subst h2; exact Or.inl ⟨61, rfl, by omega, by rw [pM61]; decide +kernel⟩
    · exact Or.inr ⟨h1, h2, pM_no h1 h2⟩
set_option maxHeartbeats 1000000 in
theorem fold_any (X : BitVec 128) (k : Int) (w : World) :
    Calls Tryz.prog 143 #[.int .i64 k, .agg #[.int .u64 (W64 (hi128 X)), .int .u64 (W64 (lo128 X))]] w fun e w' => e = .returned (.int .u64 (W64 (md X.toNat (pM k)))) ∧ New w w' := by
  rcases pM_cases k with ⟨m, rfl, hm, hp⟩ | ⟨h1, h2, h3⟩
  · exact fold_k X m hm (pM m) hp (Lib.hid fun w => mp_any m w) w
  · have HP : Hid (∀ w, Calls Tryz.prog 149 #[.int .i64 k] w fun e w' => e = .returned (.int .u64 0) ∧ w' = w) := Lib.hid fun w => by
      have h := mp_any k w
      rw [h3, lo_zero] at h
      exact h
    rw [h3, md_zero, lo_zero]
    clear h1 h2 h3
    go_enter Tryz.func143, Tryz.ntmps143
    go_wp2_with fail
    refine (HP.out _).mono ?_
    rintro e w1 ⟨rfl, rfl⟩
    go_wp2
    go_ret
    exact ⟨rfl, (New.refl _).alloc _⟩
theorem fold_N (N : Nat) (hN : N < 2 ^ 128) (k : Int) (w : World) :
    Calls Tryz.prog 143 #[.int .i64 k, .agg #[.int .u64 (W64 (hiN N)), .int .u64 (W64 (loN N))]] w fun e w' => e = .returned (.int .u64 (W64 (md N (pM k)))) ∧ New w w' := by
  have h := fold_any (BitVec.ofNat 128 N) k w
  rw [hi_ofNat, lo_ofNat, BitVec.toNat_ofNat, Nat.mod_eq_of_lt hN] at h
  exact h
theorem fold_lo (a : BitVec 64) (k : Int) (w : World) :
    Calls Tryz.prog 143 #[.int .i64 k, .agg #[.int .u64 0, .int .u64 (W64 a)]] w fun e w' => e = .returned (.int .u64 (W64 (md a.toNat (pM k)))) ∧ New w w' := by
  have ha := a.isLt
  have h := fold_N a.toNat (by omega) k w
  rw [show hiN a.toNat = 0#64 from by unfold hiN; rw [Nat.div_eq_of_lt (by omega)], lo_zero, show loN a.toNat = a from by unfold loN; rw [ofNat_self]] at h
  exact h
set_option maxHeartbeats 1000000 in
theorem meradd_any (k : Int) (a b : BitVec 64) (w : World) :
    Calls Tryz.prog 115 #[.int .i64 k, .int .u64 (W64 a), .int .u64 (W64 b)] w fun e w' => e = .returned (.int .u64 (W64 (md (a.toNat + b.toNat) (pM k)))) ∧ New w w' := by
  have ha := a.isLt
  have hb := b.isLt
  have HF := Lib.hid (fun w => fold_N (a.toNat + b.toNat) (by omega) k w)
  have HA := Lib.hid (fun w => wadd_lo a b w)
  clear ha hb
  generalize hiN (a.toNat + b.toNat) = s1 at *
  generalize loN (a.toNat + b.toNat) = s0 at *
  generalize md (a.toNat + b.toNat) (pM k) = r at *
  go_enter Tryz.func115, Tryz.ntmps115
  go_wp2_with fail
  refine (HA.out _).mono ?_
  rintro e w1 ⟨o, rfl, hn1⟩
  go_wp2_with fail
  refine (HF.out _).mono ?_
  rintro e w2 ⟨rfl, hn2⟩
  go_wp2
  go_ret
  exact ⟨rfl, (hn1.alloc _).trans hn2⟩
set_option maxHeartbeats 1000000 in
theorem mermul_any (k : Int) (a b : BitVec 64) (w : World) :
    Calls Tryz.prog 116 #[.int .i64 k, .int .u64 (W64 a), .int .u64 (W64 b)] w fun e w' => e = .returned (.int .u64 (W64 (md (a.toNat * b.toNat) (pM k)))) ∧ New w w' := by
  have HF := Lib.hid (fun w => fold_N (a.toNat * b.toNat) (by have := mul_lt a b; omega) k w)
  have HA := Lib.hid (fun w => wmul_any a b w)
  generalize hiN (a.toNat * b.toNat) = s1 at *
  generalize loN (a.toNat * b.toNat) = s0 at *
  generalize md (a.toNat * b.toNat) (pM k) = r at *
  go_enter Tryz.func116, Tryz.ntmps116
  go_wp2_with fail
  refine (HA.out _).mono ?_
  rintro e w1 ⟨rfl, hn1⟩
  go_wp2_with fail
  refine (HF.out _).mono ?_
  rintro e w2 ⟨rfl, hn2⟩
  go_wp2
  go_ret
  exact ⟨rfl, hn1.trans hn2⟩
set_option maxHeartbeats 1000000 in
theorem mersub_any (k : Int) (a b : BitVec 64) (w : World) :
    Calls Tryz.prog 121 #[.int .i64 k, .int .u64 (W64 a), .int .u64 (W64 b)] w fun e w' => e = .returned (.int .u64 (W64 (md (a.toNat + (pM k - md b.toNat (pM k)).toNat) (pM k)))) ∧ New w w' := by
  have HF := Lib.hid (fun w => fold_lo b k w)
  have HA := Lib.hid (fun w => meradd_any k a (pM k - md b.toNat (pM k)) w)
  have HP := Lib.hid (fun w => mp_any k w)
  generalize md (a.toNat + (pM k - md b.toNat (pM k)).toNat) (pM k) = r at *
  generalize md b.toNat (pM k) = f at *
  generalize pM k = p at *
  go_enter Tryz.func121, Tryz.ntmps121
  go_wp2_with fail
  refine (HP.out _).mono ?_
  rintro e w1 ⟨rfl, rfl⟩
  go_wp2_with fail
  refine (HF.out _).mono ?_
  rintro e w2 ⟨rfl, hn2⟩
  go_wp2_with fail
  refine (HA.out _).mono ?_
  rintro e w3 ⟨rfl, hn3⟩
  go_wp2
  go_ret
  exact ⟨rfl, hn2.trans hn3⟩
end Go.Proofs.YtebcfbcfipmahaaGreat
end
