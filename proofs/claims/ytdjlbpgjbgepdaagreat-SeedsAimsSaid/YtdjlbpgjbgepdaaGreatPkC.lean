/- Numbers of 128 bits in two words: the contracts of wide once more; odd, add and Times of pcg64. · Contracts of pcg64: oneStep, on, Step, Out, Next. · Contracts of pcg64: Out, Next; the document's own Out. -/
import Derived.Test.YtdjlbpgjbgepdaaGreatWidQ
import Derived.Test.YtdjlbpgjbgepdaaGreatRot64
import Derived.Deep.RegionLaw
import Derived.Deep.RegionWith
import Derived.Handy
namespace Go.Bv
open Go Go.RowKit
def hi128 (x : BitVec 128) : BitVec 64 := x.extractLsb' 64 64
def lo128 (x : BitVec 128) : BitVec 64 := x.setWidth 64
def join128 (a b : BitVec 64) : BitVec 128 := BitVec.ofNat 128 (two a b)
theorem hi_ofNat (N : Nat) : hi128 (BitVec.ofNat 128 N) = BitVec.ofNat 64 (N / 2 ^ 64) := by
  apply BitVec.eq_of_toNat_eq
  unfold hi128
  rw [BitVec.extractLsb'_toNat, BitVec.toNat_ofNat, BitVec.toNat_ofNat, Nat.shiftRight_eq_div_pow]
  rw [show (2 : Nat) ^ 128 = 2 ^ 64 * 2 ^ 64 from by rw [← Nat.pow_add], Nat.mod_mul_right_div_self, Nat.mod_mod]
theorem lo_ofNat (N : Nat) : lo128 (BitVec.ofNat 128 N) = BitVec.ofNat 64 N := by
  apply BitVec.eq_of_toNat_eq
  unfold lo128
  rw [BitVec.toNat_setWidth, BitVec.toNat_ofNat, BitVec.toNat_ofNat]
  rw [show (2 : Nat) ^ 128 = 2 ^ 64 * 2 ^ 64 from by rw [← Nat.pow_add], Nat.mod_mul_right_mod]
theorem two_x (x : BitVec 128) : two (hi128 x) (lo128 x) = x.toNat := by
  unfold two hi128 lo128
  rw [BitVec.extractLsb'_toNat, BitVec.toNat_setWidth, Nat.shiftRight_eq_div_pow]
  have := x.isLt
  omega
theorem hi_join (a b : BitVec 64) : hi128 (join128 a b) = a := by unfold join128; rw [hi_ofNat, two_hi]
theorem lo_join (a b : BitVec 64) : lo128 (join128 a b) = b := by unfold join128; rw [lo_ofNat, two_lo]
theorem ext128 {x y : BitVec 128} (h1 : hi128 x = hi128 y) (h2 : lo128 x = lo128 y) : x = y := by
  apply BitVec.eq_of_toNat_eq; rw [← two_x, ← two_x, h1, h2]
theorem eq_parts (x y : BitVec 128) : (hi128 x == hi128 y && lo128 x == lo128 y) = (x == y) := by
  rw [Bool.eq_iff_iff, Bool.and_eq_true, beq_iff_eq, beq_iff_eq, beq_iff_eq]
  exact ⟨fun h => ext128 h.1 h.2, fun h => by rw [h]; exact ⟨rfl, rfl⟩⟩
theorem one_bit (j : Nat) (h : j ≠ 0) : (1#128).getLsbD j = false := by
  rw [BitVec.getLsbD_one]; simp [h]
theorem hi_or1 (x : BitVec 128) : hi128 x = hi128 (x ||| 1#128) := by
  unfold hi128
  apply BitVec.eq_of_getLsbD_eq
  intro i hi
  rw [BitVec.getLsbD_extractLsb', BitVec.getLsbD_extractLsb', BitVec.getLsbD_or, one_bit _ (by omega), Bool.or_false]
theorem lo_or1 (x : BitVec 128) : lo128 x ||| 1#64 = lo128 (x ||| 1#128) := by
  unfold lo128
  rw [BitVec.setWidth_or]; rfl
/-- the two words of a number in a box -/
def B2 (w : World) (b : Nat) (t : TypeId) (x : BitVec 128) : Prop := w.heap[b]? = some (.cells #[.int .u64 (W64 (hi128 x)), .int .u64 (W64 (lo128 x))] t (0, 0))
theorem B2.stay {w w' : World} {b : Nat} {t : TypeId} {x : BitVec 128} (h : B2 w b t x) (hn : New w w') : B2 w' b t x := (hn.block _ (lt_of_block h)).trans h
theorem B2.c0 {w : World} {b : Nat} {t : TypeId} {x : BitVec 128} (h : B2 w b t x) : w.cell? ⟨b, 0, none⟩ = some (.int .u64 (W64 (hi128 x))) := by rw [cell_of_row _ _ _ _ _ _ h]; rfl
theorem B2.c1 {w : World} {b : Nat} {t : TypeId} {x : BitVec 128} (h : B2 w b t x) : w.cell? ⟨b, 1, none⟩ = some (.int .u64 (W64 (lo128 x))) := by rw [cell_of_row _ _ _ _ _ _ h]; rfl
theorem B2.free {w : World} {b : Nat} {t : TypeId} {x : BitVec 128} (h : B2 w b t x) (i : Nat) : w.frozen? ⟨b, i, none⟩ = false := frozen_of_row _ _ _ _ _ h
/-- a box of zeros -/
def Z2 (w : World) (b : Nat) (t : TypeId) : Prop := w.heap[b]? = some (.cells #[.int .u64 0, .int .u64 0] t (0, 0))
theorem Z2.stay {w w' : World} {b : Nat} {t : TypeId} (h : Z2 w b t) (hn : New w w') : Z2 w' b t := (hn.block _ (lt_of_block h)).trans h
theorem Z2.c0 {w : World} {b : Nat} {t : TypeId} (h : Z2 w b t) : w.cell? ⟨b, 0, none⟩ = some (.int .u64 0) := by rw [cell_of_row _ _ _ _ _ _ h]; rfl
theorem Z2.c1 {w : World} {b : Nat} {t : TypeId} (h : Z2 w b t) : w.cell? ⟨b, 1, none⟩ = some (.int .u64 0) := by rw [cell_of_row _ _ _ _ _ _ h]; rfl
theorem Z2.free {w : World} {b : Nat} {t : TypeId} (h : Z2 w b t) (i : Nat) : w.frozen? ⟨b, i, none⟩ = false := frozen_of_row _ _ _ _ _ h
/-- a number stored whole -/
theorem B2.put {w : World} {b : Nat} {t : TypeId} {u v : Value} (x : BitVec 128) (h : w.heap[b]? = some (.cells #[u, v] t (0, 0))) :
    B2 ((w.setCell ⟨b, 0, none⟩ (.int .u64 (W64 (hi128 x)))).setCell ⟨b, 1, none⟩ (.int .u64 (W64 (lo128 x)))) b t x := by
  have h1 := heap_setCell_same w b 0 _ t (.int .u64 (W64 (hi128 x))) h
  have h2 := heap_setCell_same _ b 1 _ t (.int .u64 (W64 (lo128 x))) h1
  exact h2
theorem put2_other {w : World} {b k : Nat} (x : BitVec 128) (hk : k ≠ b) :
    ((w.setCell ⟨b, 0, none⟩ (.int .u64 (W64 (hi128 x)))).setCell ⟨b, 1, none⟩ (.int .u64 (W64 (lo128 x)))).heap[k]? = w.heap[k]? := by
  rw [heap_setCell_other _ _ _ _ hk, heap_setCell_other _ _ _ _ hk]
theorem put2_new {W w : World} {b : Nat} (x : BitVec 128) (hn : New W w) (hb : W.heap.size ≤ b) :
    New W ((w.setCell ⟨b, 0, none⟩ (.int .u64 (W64 (hi128 x)))).setCell ⟨b, 1, none⟩ (.int .u64 (W64 (lo128 x)))) := (hn.setCell hb _).setCell hb _
theorem two_blocks (w : World) (A B : Obj) : ((w.alloc A).alloc B).heap[w.heap.size]? = some A ∧ ((w.alloc A).alloc B).heap[w.heap.size + 1]? = some B ∧ New w ((w.alloc A).alloc B) := by
  have e1 : (w.alloc A).heap.size = w.heap.size + 1 := by simp
  refine ⟨?_, ?_, ((New.refl w).alloc _).alloc _⟩
  · rw [((New.refl (w.alloc A)).alloc B).block _ (by rw [e1]; omega)]; exact heap_alloc_new _ _
  · rw [← e1]; exact heap_alloc_new _ _
end Go.Bv
namespace Go.Proofs.YtdjlbpgjbgepdaaGreat
open Go.RowKit Go.Bv
set_option linter.unusedVariables false
set_option maxRecDepth 100000
theorem wtimes_x (x y : BitVec 128) (w : World) :
    Calls Tryz.prog 145 #[.agg #[.int .u64 (W64 (hi128 x)), .int .u64 (W64 (lo128 x))], .agg #[.int .u64 (W64 (hi128 y)), .int .u64 (W64 (lo128 y))]] w fun e w' =>
      e = .returned (.agg #[.int .u64 (W64 (hi128 (x * y))), .int .u64 (W64 (lo128 (x * y)))]) ∧ New w w' := by
  have h := wtimes_two (hi128 x) (lo128 x) (hi128 y) (lo128 y) w
  have e : BitVec.ofNat 128 (x.toNat * y.toNat) = x * y := BitVec.eq_of_toNat_eq (by rw [BitVec.toNat_ofNat, BitVec.toNat_mul])
  rw [two_x, two_x, ← hi_ofNat, ← lo_ofNat, e] at h
  exact h
theorem wadd_x (x y : BitVec 128) (w : World) :
    Calls Tryz.prog 167 #[.agg #[.int .u64 (W64 (hi128 x)), .int .u64 (W64 (lo128 x))], .agg #[.int .u64 (W64 (hi128 y)), .int .u64 (W64 (lo128 y))]] w fun e w' =>
      e = .returned (.tuple #[.agg #[.int .u64 (W64 (hi128 (x + y))), .int .u64 (W64 (lo128 (x + y)))], .bool (decide (2 ^ 128 ≤ x.toNat + y.toNat))]) ∧ New w w' := by
  have h := wadd_two (hi128 x) (lo128 x) (hi128 y) (lo128 y) w
  have e : BitVec.ofNat 128 (x.toNat + y.toNat) = x + y := BitVec.eq_of_toNat_eq (by rw [BitVec.toNat_ofNat, BitVec.toNat_add])
  rw [two_x, two_x, ← hi_ofNat, ← lo_ofNat, e] at h
  exact h
theorem wsub_x (x y : BitVec 128) (w : World) :
    Calls Tryz.prog 126 #[.agg #[.int .u64 (W64 (hi128 x)), .int .u64 (W64 (lo128 x))], .agg #[.int .u64 (W64 (hi128 y)), .int .u64 (W64 (lo128 y))]] w fun e w' =>
      e = .returned (.tuple #[.agg #[.int .u64 (W64 (hi128 (x - y))), .int .u64 (W64 (lo128 (x - y)))], .bool (decide (x.toNat < y.toNat))]) ∧ New w w' := by
  have hx := x.isLt
  have hy := y.isLt
  have h := wsub_two (hi128 x) (lo128 x) (hi128 y) (lo128 y) w (2 ^ 128 - y.toNat + x.toNat) (by rw [two_x, two_x]; omega)
  have e : BitVec.ofNat 128 (2 ^ 128 - y.toNat + x.toNat) = x - y := BitVec.eq_of_toNat_eq (by rw [BitVec.toNat_ofNat, BitVec.toNat_sub])
  rw [two_x, two_x, ← hi_ofNat, ← lo_ofNat, e] at h
  exact h
theorem wshl_x (x : BitVec 128) (m : Nat) (hm : m < 128) (n : Int) (hn : n = (m : Int)) (w : World) :
    Calls Tryz.prog 171 #[.agg #[.int .u64 (W64 (hi128 x)), .int .u64 (W64 (lo128 x))], .int .i64 n] w fun e w' =>
      e = .returned (.agg #[.int .u64 (W64 (hi128 (x <<< m))), .int .u64 (W64 (lo128 (x <<< m)))]) ∧ New w w' := by
  have h := wshl_two (hi128 x) (lo128 x) n m m (by omega) (by omega) (by omega) w
  have e : BitVec.ofNat 128 (x.toNat * 2 ^ m) = x <<< m := BitVec.eq_of_toNat_eq (by rw [BitVec.toNat_ofNat, BitVec.toNat_shiftLeft, Nat.shiftLeft_eq])
  rw [two_x, ← hi_ofNat, ← lo_ofNat, e] at h
  exact h
theorem wshr_x (x : BitVec 128) (m : Nat) (hm : m < 128) (n : Int) (hn : n = (m : Int)) (w : World) :
    Calls Tryz.prog 139 #[.agg #[.int .u64 (W64 (hi128 x)), .int .u64 (W64 (lo128 x))], .int .i64 n] w fun e w' =>
      e = .returned (.agg #[.int .u64 (W64 (hi128 (x >>> m))), .int .u64 (W64 (lo128 (x >>> m)))]) ∧ New w w' := by
  have h := wshr_two (hi128 x) (lo128 x) n m m (by omega) (by omega) (by omega) w
  have e : BitVec.ofNat 128 (x.toNat / 2 ^ m) = x >>> m := BitVec.eq_of_toNat_eq (by
    rw [BitVec.toNat_ofNat, BitVec.toNat_ushiftRight, Nat.shiftRight_eq_div_pow]
    exact Nat.mod_eq_of_lt (Nat.lt_of_le_of_lt (Nat.div_le_self _ _) x.isLt))
  rw [two_x, ← hi_ofNat, ← lo_ofNat, e] at h
  exact h
theorem equ_x (w : World) (x y : BitVec 128) :
    (Op.equalIn 10000 119 (.agg #[.int .u64 (W64 (hi128 x)), .int .u64 (W64 (lo128 x))]) (.agg #[.int .u64 (W64 (hi128 y)), .int .u64 (W64 (lo128 y))])).run Tryz.prog w = .ok (x == y) w := by
  rw [equ128, eq_parts]
/-- the factor of pcg64 -/
def T14 : BitVec 128 := 0x2360ed051fc65da44385df649fccf645#128
theorem T14_hi : W64 (hi128 T14) = 2549297995355413924 := by unfold W64; decide +kernel
theorem T14_lo : W64 (lo128 T14) = 4865540595714422341 := by unfold W64; decide +kernel
end Go.Proofs.YtdjlbpgjbgepdaaGreat
namespace Go.Bv
open Go Go.RowKit
/-- the two numbers of an effect, in a box -/
def E4 (w : World) (b : Nat) (t : TypeId) (m p : BitVec 128) : Prop := w.heap[b]? = some (.cells #[.int .u64 (W64 (hi128 m)), .int .u64 (W64 (lo128 m)), .int .u64 (W64 (hi128 p)), .int .u64 (W64 (lo128 p))] t (0, 0))
def E4z (w : World) (b : Nat) (t : TypeId) : Prop := w.heap[b]? = some (.cells #[.int .u64 0, .int .u64 0, .int .u64 0, .int .u64 0] t (0, 0))
theorem E4z.stay {w w' : World} {b : Nat} {t : TypeId} (h : E4z w b t) (hn : New w w') : E4z w' b t := (hn.block _ (lt_of_block h)).trans h
theorem E4z.c {w : World} {b : Nat} {t : TypeId} (h : E4z w b t) (i : Nat) (hi : i < 4) : w.cell? ⟨b, i, none⟩ = some (.int .u64 0) := by
  rw [cell_of_row _ _ _ _ _ _ h]
  have hc : i = 0 ∨ i = 1 ∨ i = 2 ∨ i = 3 := by omega
  rcases hc with rfl | rfl | rfl | rfl <;> rfl
theorem E4z.free {w : World} {b : Nat} {t : TypeId} (h : E4z w b t) (i : Nat) : w.frozen? ⟨b, i, none⟩ = false := frozen_of_row _ _ _ _ _ h
theorem E4.stay {w w' : World} {b : Nat} {t : TypeId} {m p : BitVec 128} (h : E4 w b t m p) (hn : New w w') : E4 w' b t m p := (hn.block _ (lt_of_block h)).trans h
theorem E4.c0 {w : World} {b : Nat} {t : TypeId} {m p : BitVec 128} (h : E4 w b t m p) : w.cell? ⟨b, 0, none⟩ = some (.int .u64 (W64 (hi128 m))) := by rw [cell_of_row _ _ _ _ _ _ h]; rfl
theorem E4.c1 {w : World} {b : Nat} {t : TypeId} {m p : BitVec 128} (h : E4 w b t m p) : w.cell? ⟨b, 1, none⟩ = some (.int .u64 (W64 (lo128 m))) := by rw [cell_of_row _ _ _ _ _ _ h]; rfl
theorem E4.c2 {w : World} {b : Nat} {t : TypeId} {m p : BitVec 128} (h : E4 w b t m p) : w.cell? ⟨b, 2, none⟩ = some (.int .u64 (W64 (hi128 p))) := by rw [cell_of_row _ _ _ _ _ _ h]; rfl
theorem E4.c3 {w : World} {b : Nat} {t : TypeId} {m p : BitVec 128} (h : E4 w b t m p) : w.cell? ⟨b, 3, none⟩ = some (.int .u64 (W64 (lo128 p))) := by rw [cell_of_row _ _ _ _ _ _ h]; rfl
theorem E4.free {w : World} {b : Nat} {t : TypeId} {m p : BitVec 128} (h : E4 w b t m p) (i : Nat) : w.frozen? ⟨b, i, none⟩ = false := frozen_of_row _ _ _ _ _ h
/-- an effect stored whole -/
theorem E4.put {w : World} {b : Nat} {t : TypeId} {x y u v : Value} (m p : BitVec 128) (h : w.heap[b]? = some (.cells #[x, y, u, v] t (0, 0))) :
    E4 ((((w.setCell ⟨b, 0, none⟩ (.int .u64 (W64 (hi128 m)))).setCell ⟨b, 1, none⟩ (.int .u64 (W64 (lo128 m)))).setCell ⟨b, 2, none⟩ (.int .u64 (W64 (hi128 p)))).setCell ⟨b, 3, none⟩ (.int .u64 (W64 (lo128 p)))) b t m p := by
  have h1 := heap_setCell_same w b 0 _ t (.int .u64 (W64 (hi128 m))) h
  have h2 := heap_setCell_same _ b 1 _ t (.int .u64 (W64 (lo128 m))) h1
  have h3 := heap_setCell_same _ b 2 _ t (.int .u64 (W64 (hi128 p))) h2
  have h4 := heap_setCell_same _ b 3 _ t (.int .u64 (W64 (lo128 p))) h3
  exact h4
theorem put4_other {w : World} {b k : Nat} (m p : BitVec 128) (hk : k ≠ b) :
    ((((w.setCell ⟨b, 0, none⟩ (.int .u64 (W64 (hi128 m)))).setCell ⟨b, 1, none⟩ (.int .u64 (W64 (lo128 m)))).setCell ⟨b, 2, none⟩ (.int .u64 (W64 (hi128 p)))).setCell ⟨b, 3, none⟩ (.int .u64 (W64 (lo128 p)))).heap[k]? = w.heap[k]? := by
  rw [heap_setCell_other _ _ _ _ hk, heap_setCell_other _ _ _ _ hk, heap_setCell_other _ _ _ _ hk, heap_setCell_other _ _ _ _ hk]
theorem put4_new {W w : World} {b : Nat} (m p : BitVec 128) (hn : New W w) (hb : W.heap.size ≤ b) :
    New W ((((w.setCell ⟨b, 0, none⟩ (.int .u64 (W64 (hi128 m)))).setCell ⟨b, 1, none⟩ (.int .u64 (W64 (lo128 m)))).setCell ⟨b, 2, none⟩ (.int .u64 (W64 (hi128 p)))).setCell ⟨b, 3, none⟩ (.int .u64 (W64 (lo128 p)))) := (((hn.setCell hb _).setCell hb _).setCell hb _).setCell hb _
end Go.Bv
namespace Go.Proofs.YtdjlbpgjbgepdaaGreat
open Go.RowKit Go.Bv
set_option linter.unusedVariables false
set_option maxRecDepth 100000
end Go.Proofs.YtdjlbpgjbgepdaaGreat
namespace Go.Proofs.YtdjlbpgjbgepdaaGreat
open Go.RowKit Go.Bv
set_option linter.unusedVariables false
set_option maxRecDepth 100000
/-- what pcg64 tells of a state -/
def out14 (s : BitVec 128) : BitVec 64 := (hi128 s ^^^ lo128 s).rotateLeft ((64 - (hi128 s).toNat / 2 ^ 58) % 64)
theorem rot_k (s : BitVec 128) : ∃ k : Nat, (hi128 s).toNat / 2 ^ 58 = k ∧ k < 64 := ⟨_, rfl, by have := (hi128 s).isLt; omega⟩
theorem rot_neg (s : BitVec 128) : (wrap64 (-wrap64 (W64 (hi128 s >>> 58))) % 64).toNat = (64 - (hi128 s).toNat / 2 ^ 58) % 64 := by
  obtain ⟨k, hk, hlt⟩ := rot_k s
  have e : W64 (hi128 s >>> 58) = (k : Int) := by unfold W64; rw [BitVec.toNat_ushiftRight, Nat.shiftRight_eq_div_pow, hk]
  rw [e, hk]
  unfold wrap64
  omega
theorem rot_sub (s : BitVec 128) : (wrap64 (64 - wrap64 (W64 (hi128 s / 288230376151711744#64))) % 64).toNat = (64 - (hi128 s).toNat / 2 ^ 58) % 64 := by
  obtain ⟨k, hk, hlt⟩ := rot_k s
  have e : W64 (hi128 s / 288230376151711744#64) = (k : Int) := by unfold W64; rw [BitVec.toNat_udiv, ← hk]; rfl
  rw [e, hk]
  unfold wrap64
  omega
theorem rot_in (s : BitVec 128) : -9223372036854775808 ≤ wrap64 (64 - wrap64 (W64 (hi128 s / 288230376151711744#64))) ∧ wrap64 (64 - wrap64 (W64 (hi128 s / 288230376151711744#64))) ≤ 9223372036854775807 := by
  unfold wrap64; omega
end Go.Proofs.YtdjlbpgjbgepdaaGreat
