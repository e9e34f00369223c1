/- Contracts of wide.Times and wide.Full: for all numbers of two words. -/
import Derived.Test.YtajjpllhihgkdaaWidA
namespace Go.Bv
open Go Go.RowKit
theorem times_hi (a1 a0 b1 b0 : BitVec 64) : hiN (a0.toNat * b0.toNat) + (a1 * b0 + a0 * b1) = BitVec.ofNat 64 (two a1 a0 * two b1 b0 / 2 ^ 64) := by
  have e : two a1 a0 * two b1 b0 = 2 ^ 64 * (a1.toNat * b0.toNat + a0.toNat * b1.toNat + 2 ^ 64 * (a1.toNat * b1.toNat)) + a0.toNat * b0.toNat := by
    unfold two
    rw [show (18446744073709551616 : Nat) = 2 ^ 64 from rfl]
    generalize (2 : Nat) ^ 64 = k
    grind
  rw [e, Nat.mul_add_div (Nat.two_pow_pos 64)]
  unfold hiN
  rw [show (18446744073709551616 : Nat) = 2 ^ 64 from rfl]
  generalize a0.toNat * b0.toNat / 2 ^ 64 = q
  apply BitVec.eq_of_toNat_eq
  rw [BitVec.toNat_add, BitVec.toNat_add, BitVec.toNat_mul, BitVec.toNat_mul, BitVec.toNat_ofNat, BitVec.toNat_ofNat]
  generalize a1.toNat * b0.toNat = x
  generalize a0.toNat * b1.toNat = y
  generalize a1.toNat * b1.toNat = z
  omega
theorem times_lo (a1 a0 b1 b0 : BitVec 64) : loN (a0.toNat * b0.toNat) = BitVec.ofNat 64 (two a1 a0 * two b1 b0) := by
  have e : two a1 a0 * two b1 b0 = 2 ^ 64 * (a1.toNat * b0.toNat + a0.toNat * b1.toNat + 2 ^ 64 * (a1.toNat * b1.toNat)) + a0.toNat * b0.toNat := by
    unfold two
    rw [show (18446744073709551616 : Nat) = 2 ^ 64 from rfl]
    generalize (2 : Nat) ^ 64 = k
    grind
  unfold loN
  apply BitVec.eq_of_toNat_eq
  rw [BitVec.toNat_ofNat, BitVec.toNat_ofNat, e, Nat.mul_add_mod]
theorem three_blocks (w : World) (A B C : Obj) : ((((w.alloc A).alloc B).alloc C).heap[w.heap.size]? = some A) ∧ ((((w.alloc A).alloc B).alloc C).heap[w.heap.size + 1]? = some B) ∧ ((((w.alloc A).alloc B).alloc C).heap[w.heap.size + 1 + 1]? = some C) ∧ New w (((w.alloc A).alloc B).alloc C) := by
  have e1 : (w.alloc A).heap.size = w.heap.size + 1 := by simp
  have e2 : ((w.alloc A).alloc B).heap.size = w.heap.size + 1 + 1 := by simp
  refine ⟨?_, ?_, ?_, (((New.refl w).alloc _).alloc _).alloc _⟩
  · rw [(((New.refl (w.alloc A)).alloc B).alloc C).block _ (by rw [e1]; omega)]; exact heap_alloc_new _ _
  · rw [((New.refl ((w.alloc A).alloc B)).alloc C).block _ (by rw [e2]; omega), ← e1]; exact heap_alloc_new _ _
  · rw [← e2]; exact heap_alloc_new _ _
end Go.Bv
namespace Go.Proofs.Ytajjpllhihgkdaa
open Go.RowKit Go.Bv
set_option linter.unusedVariables false
end Go.Proofs.Ytajjpllhihgkdaa
