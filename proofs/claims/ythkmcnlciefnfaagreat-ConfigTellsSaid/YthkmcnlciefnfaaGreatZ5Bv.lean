import Derived.WalkKit
import Derived.WalkSpells
import Derived.WalkLawsBesides
/- Plain lemmas: machine words as bit vectors, in the spelling of the walk. No program in sight; no conditions but those that each lemma states. -/
namespace Go.Bv
open Go Go.RowKit

/-- a word of 64 bits as the number that a slot holds -/
def W64 (x : BitVec 64) : Int := (x.toNat : Int)
/-- a word of 32 bits -/
def W32 (x : BitVec 32) : Int := (x.toNat : Int)
/-- a byte -/
def W8 (x : BitVec 8) : Int := (x.toNat : Int)

theorem b64 (x : BitVec 64) : 0 ≤ W64 x ∧ W64 x < 18446744073709551616 := by have := x.isLt; unfold W64; omega
theorem b32 (x : BitVec 32) : 0 ≤ W32 x ∧ W32 x < 4294967296 := by have := x.isLt; unfold W32; omega
theorem b8 (x : BitVec 8) : 0 ≤ W8 x ∧ W8 x < 256 := by have := x.isLt; unfold W8; omega
theorem W64_inj {x y : BitVec 64} : W64 x = W64 y ↔ x = y :=
  ⟨fun h => BitVec.eq_of_toNat_eq (by unfold W64 at h; omega), fun h => by rw [h]⟩
theorem W32_inj {x y : BitVec 32} : W32 x = W32 y ↔ x = y :=
  ⟨fun h => BitVec.eq_of_toNat_eq (by unfold W32 at h; omega), fun h => by rw [h]⟩
theorem ex64 (x : Int) (h : 0 ≤ x ∧ x < 18446744073709551616) : ∃ X : BitVec 64, x = W64 X :=
  ⟨BitVec.ofInt 64 x, by unfold W64; rw [BitVec.toNat_ofInt]; omega⟩
theorem ex32 (x : Int) (h : 0 ≤ x ∧ x < 4294967296) : ∃ X : BitVec 32, x = W32 X :=
  ⟨BitVec.ofInt 32 x, by unfold W32; rw [BitVec.toNat_ofInt]; omega⟩
theorem ex8 (x : Int) (h : 0 ≤ x ∧ x < 256) : ∃ X : BitVec 8, x = W8 X :=
  ⟨BitVec.ofInt 8 x, by unfold W8; rw [BitVec.toNat_ofInt]; omega⟩
theorem wrap_u64 (i : Int) : IntKind.u64.wrap i = W64 (BitVec.ofInt 64 i) := by
  simp [W64, IntKind.wrap, IntKind.bits, IntKind.signed, BitVec.toNat_ofInt]
  omega
theorem wrap_u32 (i : Int) : IntKind.u32.wrap i = W32 (BitVec.ofInt 32 i) := by
  simp [W32, IntKind.wrap, IntKind.bits, IntKind.signed, BitVec.toNat_ofInt]
  omega
theorem wrap_u8 (i : Int) : IntKind.u8.wrap i = W8 (BitVec.ofInt 8 i) := by
  simp [W8, IntKind.wrap, IntKind.bits, IntKind.signed, BitVec.toNat_ofInt]
  omega
theorem ofInt_toNat {n m : Nat} (x : BitVec n) : BitVec.ofInt m (x.toNat : Int) = x.setWidth m := by
  apply BitVec.eq_of_toNat_eq; simp
theorem ofInt_W64 (x : BitVec 64) : BitVec.ofInt 64 (W64 x) = x := by unfold W64; rw [ofInt_toNat]; simp
theorem ofInt_W32 (x : BitVec 32) : BitVec.ofInt 32 (W32 x) = x := by unfold W32; rw [ofInt_toNat]; simp
theorem ofInt_W8 (x : BitVec 8) : BitVec.ofInt 8 (W8 x) = x := by unfold W8; rw [ofInt_toNat]; simp
theorem ofInt_64_32 (x : BitVec 64) : BitVec.ofInt 32 (W64 x) = x.setWidth 32 := by unfold W64; rw [ofInt_toNat]
theorem ofInt_64_8 (x : BitVec 64) : BitVec.ofInt 8 (W64 x) = x.setWidth 8 := by unfold W64; rw [ofInt_toNat]
theorem ofInt_32_64 (x : BitVec 32) : BitVec.ofInt 64 (W32 x) = x.setWidth 64 := by unfold W32; rw [ofInt_toNat]
theorem ofInt_32_8 (x : BitVec 32) : BitVec.ofInt 8 (W32 x) = x.setWidth 8 := by unfold W32; rw [ofInt_toNat]
theorem ofInt_8_64 (x : BitVec 8) : BitVec.ofInt 64 (W8 x) = x.setWidth 64 := by unfold W8; rw [ofInt_toNat]
theorem ofInt_8_32 (x : BitVec 8) : BitVec.ofInt 32 (W8 x) = x.setWidth 32 := by unfold W8; rw [ofInt_toNat]
theorem ofInt_sub {n : Nat} (x y : Int) : BitVec.ofInt n (x - y) = BitVec.ofInt n x - BitVec.ofInt n y := by
  rw [Int.sub_eq_add_neg, BitVec.ofInt_add, BitVec.ofInt_neg, BitVec.sub_eq_add_neg]
theorem back_u64 (r : BitVec 64) : IntKind.u64.wrap (r.toNat : Int) = W64 r := by rw [wrap_u64, ofInt_toNat]; simp
theorem back_u32 (r : BitVec 32) : IntKind.u32.wrap (r.toNat : Int) = W32 r := by rw [wrap_u32, ofInt_toNat]; simp
theorem back_u8 (r : BitVec 8) : IntKind.u8.wrap (r.toNat : Int) = W8 r := by rw [wrap_u8, ofInt_toNat]; simp
theorem and_u64 (x y : Int) : bits .and .u64 x y = W64 (BitVec.ofInt 64 x &&& BitVec.ofInt 64 y) := back_u64 _
theorem or_u64 (x y : Int) : bits .or .u64 x y = W64 (BitVec.ofInt 64 x ||| BitVec.ofInt 64 y) := back_u64 _
theorem xor_u64 (x y : Int) : bits .xor .u64 x y = W64 (BitVec.ofInt 64 x ^^^ BitVec.ofInt 64 y) := back_u64 _
theorem andNot_u64 (x y : Int) : bits .andNot .u64 x y = W64 (BitVec.ofInt 64 x &&& ~~~BitVec.ofInt 64 y) := back_u64 _
theorem and_u32 (x y : Int) : bits .and .u32 x y = W32 (BitVec.ofInt 32 x &&& BitVec.ofInt 32 y) := back_u32 _
theorem or_u32 (x y : Int) : bits .or .u32 x y = W32 (BitVec.ofInt 32 x ||| BitVec.ofInt 32 y) := back_u32 _
theorem xor_u32 (x y : Int) : bits .xor .u32 x y = W32 (BitVec.ofInt 32 x ^^^ BitVec.ofInt 32 y) := back_u32 _
theorem andNot_u32 (x y : Int) : bits .andNot .u32 x y = W32 (BitVec.ofInt 32 x &&& ~~~BitVec.ofInt 32 y) := back_u32 _
theorem and_u8 (x y : Int) : bits .and .u8 x y = W8 (BitVec.ofInt 8 x &&& BitVec.ofInt 8 y) := back_u8 _
theorem or_u8 (x y : Int) : bits .or .u8 x y = W8 (BitVec.ofInt 8 x ||| BitVec.ofInt 8 y) := back_u8 _
theorem xor_u8 (x y : Int) : bits .xor .u8 x y = W8 (BitVec.ofInt 8 x ^^^ BitVec.ofInt 8 y) := back_u8 _

theorem ofInt_two_pow (n k : Nat) : BitVec.ofInt n ((2 : Int) ^ k) = 1#n <<< k := by
  apply BitVec.eq_of_toNat_eq
  rw [BitVec.toNat_ofInt, BitVec.toNat_shiftLeft, Nat.shiftLeft_eq]
  have : ((2 : Int) ^ k % ((2 ^ n : Nat) : Int)) = ((2 ^ k % 2 ^ n : Nat) : Int) := by
    rw [Int.natCast_emod]; norm_cast
  rw [this, Int.toNat_natCast, BitVec.toNat_ofNat]
  simp
theorem mul_shl {n : Nat} (x : BitVec n) (k : Nat) : x * (1#n <<< k) = x <<< k := by
  apply BitVec.eq_of_toNat_eq
  simp [BitVec.toNat_mul, BitVec.toNat_shiftLeft, Nat.shiftLeft_eq]
theorem shl_min {n : Nat} (x : BitVec n) (k : Nat) : x <<< min k n = x <<< k := by
  rcases Nat.le_total k n with h | h
  · rw [Nat.min_eq_left h]
  · rw [Nat.min_eq_right h]; apply BitVec.eq_of_getLsbD_eq; intro i hi; simp; omega
theorem ushr_min {n : Nat} (x : BitVec n) (k : Nat) : x >>> min k n = x >>> k := by
  rcases Nat.le_total k n with h | h
  · rw [Nat.min_eq_left h]
  · rw [Nat.min_eq_right h]; apply BitVec.eq_of_getLsbD_eq; intro i hi; simp [BitVec.getLsbD_of_ge]
    rw [BitVec.getLsbD_of_ge _ _ (by omega)]
theorem shl_u64 (x : Int) (yk : IntKind) (y : Int) (h : 0 ≤ y) : Op.shift .shl .u64 x yk y = pure (.int .u64 (W64 (BitVec.ofInt 64 x <<< y.toNat))) := by
  have hy : ¬ y < 0 := by omega
  simp only [Op.shift, hy, if_false]
  rw [wrap_u64, BitVec.ofInt_mul, ofInt_two_pow, mul_shl]
  show (pure (Value.int .u64 (W64 (BitVec.ofInt 64 x <<< min y.toNat 64))) : Sem Value) = _
  rw [shl_min]
theorem shl_u32 (x : Int) (yk : IntKind) (y : Int) (h : 0 ≤ y) : Op.shift .shl .u32 x yk y = pure (.int .u32 (W32 (BitVec.ofInt 32 x <<< y.toNat))) := by
  have hy : ¬ y < 0 := by omega
  simp only [Op.shift, hy, if_false]
  rw [wrap_u32, BitVec.ofInt_mul, ofInt_two_pow, mul_shl]
  show (pure (Value.int .u32 (W32 (BitVec.ofInt 32 x <<< min y.toNat 32))) : Sem Value) = _
  rw [shl_min]
theorem shr_u64 (x : BitVec 64) (yk : IntKind) (y : Int) (h : 0 ≤ y) : Op.shift .shr .u64 (W64 x) yk y = pure (.int .u64 (W64 (x >>> y.toNat))) := by
  have hy : ¬ y < 0 := by omega
  simp only [Op.shift, hy, if_false, W64]
  rw [← ushr_min x y.toNat, BitVec.toNat_ushiftRight, Nat.shiftRight_eq_div_pow, Int.natCast_ediv]
  rw [Int.fdiv_eq_ediv_of_nonneg _ (by exact Int.le_of_lt (Int.pow_pos (by decide)))]
  norm_cast
theorem shr_u32 (x : BitVec 32) (yk : IntKind) (y : Int) (h : 0 ≤ y) : Op.shift .shr .u32 (W32 x) yk y = pure (.int .u32 (W32 (x >>> y.toNat))) := by
  have hy : ¬ y < 0 := by omega
  simp only [Op.shift, hy, if_false, W32]
  rw [← ushr_min x y.toNat, BitVec.toNat_ushiftRight, Nat.shiftRight_eq_div_pow, Int.natCast_ediv]
  rw [Int.fdiv_eq_ediv_of_nonneg _ (by exact Int.le_of_lt (Int.pow_pos (by decide)))]
  norm_cast
theorem nn64 (x : BitVec 64) : 0 ≤ W64 x := (b64 x).1
theorem nn32 (x : BitVec 32) : 0 ≤ W32 x := (b32 x).1
theorem nn8 (x : BitVec 8) : 0 ≤ W8 x := (b8 x).1
/-- a word as a natural number, closed to simp -/
def N64 (x : BitVec 64) : Nat := x.toNat
def N32 (x : BitVec 32) : Nat := x.toNat
def N8 (x : BitVec 8) : Nat := x.toNat
theorem toNat_W64 (x : BitVec 64) : (W64 x).toNat = N64 x := by unfold W64 N64; omega
theorem toNat_W32 (x : BitVec 32) : (W32 x).toNat = N32 x := by unfold W32 N32; omega
theorem toNat_W8 (x : BitVec 8) : (W8 x).toNat = N8 x := by unfold W8 N8; omega
theorem ret64 {x y : BitVec 64} (h : x = y) : Ending.returned (.int .u64 (W64 x)) = Ending.returned (.int .u64 (W64 y)) := by rw [h]
theorem ret32 {x y : BitVec 32} (h : x = y) : Ending.returned (.int .u32 (W32 x)) = Ending.returned (.int .u32 (W32 y)) := by rw [h]
theorem retI {k : IntKind} {x y : Int} (h : x = y) : Ending.returned (.int k x) = Ending.returned (.int k y) := by rw [h]
theorem retB {x y : Bool} (h : x = y) : Ending.returned (.bool x) = Ending.returned (.bool y) := by rw [h]
theorem W64_lit (k : Nat) (h : k < 18446744073709551616) : W64 (BitVec.ofNat 64 k) = (k : Int) := by
  unfold W64; rw [BitVec.toNat_ofNat, Nat.mod_eq_of_lt (by omega)]
theorem W32_lit (k : Nat) (h : k < 4294967296) : W32 (BitVec.ofNat 32 k) = (k : Int) := by
  unfold W32; rw [BitVec.toNat_ofNat, Nat.mod_eq_of_lt (by omega)]
theorem quo_u64 (x : BitVec 64) (k : Nat) (h : k < 18446744073709551616) : (W64 x).tdiv (k : Int) = W64 (x / BitVec.ofNat 64 k) := by
  unfold W64; rw [Int.tdiv_eq_ediv_of_nonneg (by omega), BitVec.toNat_udiv, BitVec.toNat_ofNat, Nat.mod_eq_of_lt (by omega)]; exact (Int.natCast_ediv _ _).symm
theorem rem_u64 (x : BitVec 64) (k : Nat) (h : k < 18446744073709551616) : (W64 x).tmod (k : Int) = W64 (x % BitVec.ofNat 64 k) := by
  unfold W64; rw [Int.tmod_eq_emod_of_nonneg (by omega), BitVec.toNat_umod, BitVec.toNat_ofNat, Nat.mod_eq_of_lt (show k < 2 ^ 64 by omega)]; exact (Int.natCast_emod _ _).symm
theorem quo_lit (x : BitVec 64) (k : Nat) (h : k < 18446744073709551616) : (W64 x).tdiv (no_index (OfNat.ofNat k) : Int) = W64 (x / BitVec.ofNat 64 k) := quo_u64 x k h
theorem rem_lit (x : BitVec 64) (k : Nat) (h : k < 18446744073709551616) : (W64 x).tmod (no_index (OfNat.ofNat k) : Int) = W64 (x % BitVec.ofNat 64 k) := rem_u64 x k h
theorem quo_lit32 (x : BitVec 32) (k : Nat) (h : k < 4294967296) : (W32 x).tdiv (no_index (OfNat.ofNat k) : Int) = W32 (x / BitVec.ofNat 32 k) := by
  show (W32 x).tdiv (k : Int) = _
  unfold W32; rw [Int.tdiv_eq_ediv_of_nonneg (by omega), BitVec.toNat_udiv, BitVec.toNat_ofNat, Nat.mod_eq_of_lt (show k < 2 ^ 32 by omega)]; exact (Int.natCast_ediv _ _).symm
theorem rem_lit32 (x : BitVec 32) (k : Nat) (h : k < 4294967296) : (W32 x).tmod (no_index (OfNat.ofNat k) : Int) = W32 (x % BitVec.ofNat 32 k) := by
  show (W32 x).tmod (k : Int) = _
  unfold W32; rw [Int.tmod_eq_emod_of_nonneg (by omega), BitVec.toNat_umod, BitVec.toNat_ofNat, Nat.mod_eq_of_lt (show k < 2 ^ 32 by omega)]; exact (Int.natCast_emod _ _).symm
theorem wrap64_W32 (x : BitVec 32) : wrap64 (W32 x) = W32 x := by have := b32 x; unfold wrap64; omega
theorem wrap64_W8 (x : BitVec 8) : wrap64 (W8 x) = W8 x := by have := b8 x; unfold wrap64; omega
theorem wrap64_neg32 (x : BitVec 32) : wrap64 (-W32 x) = -W32 x := by have := b32 x; unfold wrap64; omega
theorem eq_u64 (x y : BitVec 64) : (W64 x == W64 y) = (x == y) := by
  rw [Bool.eq_iff_iff, beq_iff_eq, beq_iff_eq, W64_inj]
theorem eq_u32 (x y : BitVec 32) : (W32 x == W32 y) = (x == y) := by
  rw [Bool.eq_iff_iff, beq_iff_eq, beq_iff_eq, W32_inj]
theorem eq_lit64 (x : BitVec 64) (k : Nat) (h : k < 18446744073709551616) : (W64 x == (no_index (OfNat.ofNat k) : Int)) = (x == BitVec.ofNat 64 k) := by
  show (W64 x == (k : Int)) = _
  rw [← W64_lit k h]; exact eq_u64 x _
theorem eq_lit32 (x : BitVec 32) (k : Nat) (h : k < 4294967296) : (W32 x == (no_index (OfNat.ofNat k) : Int)) = (x == BitVec.ofNat 32 k) := by
  show (W32 x == (k : Int)) = _
  rw [← W32_lit k h]; exact eq_u32 x _
theorem ne_u64 (x y : BitVec 64) : (W64 x != W64 y) = (x != y) := by rw [bne, bne, eq_u64]
theorem ne_u32 (x y : BitVec 32) : (W32 x != W32 y) = (x != y) := by rw [bne, bne, eq_u32]
theorem ne_lit64 (x : BitVec 64) (k : Nat) (h : k < 18446744073709551616) : (W64 x != (no_index (OfNat.ofNat k) : Int)) = (x != BitVec.ofNat 64 k) := by
  rw [bne, bne, eq_lit64 x k h]
theorem ne_lit32 (x : BitVec 32) (k : Nat) (h : k < 4294967296) : (W32 x != (no_index (OfNat.ofNat k) : Int)) = (x != BitVec.ofNat 32 k) := by
  rw [bne, bne, eq_lit32 x k h]
attribute [go_sem] eq_u64 eq_u32 eq_lit64 eq_lit32 ne_u64 ne_u32 ne_lit64 ne_lit32
attribute [go_sem] wrap_u64 wrap_u32 wrap_u8 ofInt_W64 ofInt_W32 ofInt_W8 ofInt_64_32 ofInt_64_8 ofInt_32_64 ofInt_32_8 ofInt_8_64 ofInt_8_32
  and_u64 or_u64 xor_u64 andNot_u64 and_u32 or_u32 xor_u32 andNot_u32 and_u8 or_u8 xor_u8
  BitVec.ofInt_add BitVec.ofInt_mul ofInt_sub BitVec.ofInt_neg BitVec.ofInt_ofNat nn64 nn32 nn8 toNat_W64 toNat_W32 toNat_W8 wrap64_W32 wrap64_W8 wrap64_neg32
theorem ediv_pow64 (x : BitVec 64) (n : Nat) : W64 x / 2 ^ n = W64 (x >>> n) := by
  unfold W64; rw [BitVec.toNat_ushiftRight, Nat.shiftRight_eq_div_pow, Int.natCast_ediv]; norm_cast
theorem ediv_pow32 (x : BitVec 32) (n : Nat) : W32 x / 2 ^ n = W32 (x >>> n) := by
  unfold W32; rw [BitVec.toNat_ushiftRight, Nat.shiftRight_eq_div_pow, Int.natCast_ediv]; norm_cast
attribute [go_sem] ediv_pow64 ediv_pow32 ofInt_two_pow mul_shl
attribute [go_sem] quo_lit rem_lit quo_lit32 rem_lit32
attribute [go_sem ↓] shl_u64 shl_u32 shr_u64 shr_u32
end Go.Bv
