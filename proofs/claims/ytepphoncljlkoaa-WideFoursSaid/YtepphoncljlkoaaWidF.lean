/- Contracts of wide.Times and wide.Full: for all numbers of two words. -/
import Derived.Test.YtepphoncljlkoaaWidA
namespace Go.Bv
open Go Go.RowKit
theorem times_hi (a1 a0 b1 b0 : BitVec 64) : hiN (a0.toNat * b0.toNat) + (a1 * b0 + a0 * b1) = BitVec.ofNat 64 (two a1 a0 * two b1 b0 / 2 ^ 64) := by
  have e : two a1 a0 * two b1 b0 = 2 ^ 64 * (a1.toNat * b0.toNat + a0.toNat * b1.toNat + 2 ^ 64 * (a1.toNat * b1.toNat)) + a0.toNat * b0.toNat := by
    unfold two
    rw [show (18446744073709551616 : Nat) = 2 ^ 64 from rfl]
    generalize (2 : Nat) ^ 64 = k
    grind
  rw [e, Nat.mul_add_div (Nat.two_pow_pos 64)]
  unfold hiN
  rw [show (18446744073709551616 : Nat) = 2 ^ 64 from rfl]
  generalize a0.toNat * b0.toNat / 2 ^ 64 = q
  apply BitVec.eq_of_toNat_eq
  rw [BitVec.toNat_add, BitVec.toNat_add, BitVec.toNat_mul, BitVec.toNat_mul, BitVec.toNat_ofNat, BitVec.toNat_ofNat]
  generalize a1.toNat * b0.toNat = x
  generalize a0.toNat * b1.toNat = y
  generalize a1.toNat * b1.toNat = z
  omega
theorem times_lo (a1 a0 b1 b0 : BitVec 64) : loN (a0.toNat * b0.toNat) = BitVec.ofNat 64 (two a1 a0 * two b1 b0) := by
  have e : two a1 a0 * two b1 b0 = 2 ^ 64 * (a1.toNat * b0.toNat + a0.toNat * b1.toNat + 2 ^ 64 * (a1.toNat * b1.toNat)) + a0.toNat * b0.toNat := by
    unfold two
    rw [show (18446744073709551616 : Nat) = 2 ^ 64 from rfl]
    generalize (2 : Nat) ^ 64 = k
    grind
  unfold loN
  apply BitVec.eq_of_toNat_eq
  rw [BitVec.toNat_ofNat, BitVec.toNat_ofNat, e, Nat.mul_add_mod]
theorem three_blocks (w : World) (A B C : Obj) : ((((w.alloc A).alloc B).alloc C).heap[w.heap.size]? = some A) ∧ ((((w.alloc A).alloc B).alloc C).heap[w.heap.size + 1]? = some B) ∧ ((((w.alloc A).alloc B).alloc C).heap[w.heap.size + 1 + 1]? = some C) ∧ New w (((w.alloc A).alloc B).alloc C) := by
  have e1 : (w.alloc A).heap.size = w.heap.size + 1 := by simp
  have e2 : ((w.alloc A).alloc B).heap.size = w.heap.size + 1 + 1 := by simp
  refine ⟨?_, ?_, ?_, (((New.refl w).alloc _).alloc _).alloc _⟩
  · rw [(((New.refl (w.alloc A)).alloc B).alloc C).block _ (by rw [e1]; omega)]; exact heap_alloc_new _ _
  · rw [((New.refl ((w.alloc A).alloc B)).alloc C).block _ (by rw [e2]; omega), ← e1]; exact heap_alloc_new _ _
  · rw [← e2]; exact heap_alloc_new _ _
end Go.Bv
namespace Go.Proofs.Ytepphoncljlkoaa
open Go.RowKit Go.Bv
set_option linter.unusedVariables false
set_option maxHeartbeats 1000000 in
theorem wtimes_two (a1 a0 b1 b0 : BitVec 64) (w : World) :
    Calls Try.prog 24 #[.agg #[.int .u64 (W64 a1), .int .u64 (W64 a0)], .agg #[.int .u64 (W64 b1), .int .u64 (W64 b0)]] w fun e w' =>
      e = .returned (.agg #[.int .u64 (W64 (BitVec.ofNat 64 (two a1 a0 * two b1 b0 / 2 ^ 64))), .int .u64 (W64 (BitVec.ofNat 64 (two a1 a0 * two b1 b0)))]) ∧ New w w' := by
  have HH := Lib.hid (times_hi a1 a0 b1 b0)
  have hL := times_lo a1 a0 b1 b0
  have hm := fun w => wmul_any a0 b0 w
  rw [hL] at hm
  have HM := Lib.hid hm
  clear hm hL
  generalize BitVec.ofNat 64 (two a1 a0 * two b1 b0) = y0 at *
  generalize BitVec.ofNat 64 (two a1 a0 * two b1 b0 / 2 ^ 64) = y1 at *
  generalize hiN (a0.toNat * b0.toNat) = p1 at *
  go_enter Try.func24, Try.ntmps24
  go_wp2_with fail
  obtain ⟨hA, hB, hC, hN⟩ := three_blocks w (.cells #[.int .u64 (W64 a1), .int .u64 (W64 a0)] 24) (.cells #[.int .u64 (W64 b1), .int .u64 (W64 b0)] 24) (.cells #[.int .u64 0, .int .u64 0] 24)
  generalize ((w.alloc (.cells #[.int .u64 (W64 a1), .int .u64 (W64 a0)] 24)).alloc (.cells #[.int .u64 (W64 b1), .int .u64 (W64 b0)] 24)).alloc (.cells #[.int .u64 0, .int .u64 0] 24) = w0 at hA hB hC hN ⊢
  refine (HM.out _).mono ?_
  rintro e w1 ⟨rfl, hn1⟩
  have hn2 := hn1.alloc (.cells #[.int .u64 (W64 p1), .int .u64 (W64 y0)] 24)
  have hA2 := (hn2.block _ (lt_of_block hA)).trans hA
  have hB2 := (hn2.block _ (lt_of_block hB)).trans hB
  have hn3 := hn1.alloc (.cells #[.int .u64 (W64 (p1 + (a1 * b0 + a0 * b1))), .int .u64 (W64 y0)] 24)
  have hC2 := (hn3.block _ (lt_of_block hC)).trans hC
  have k0 : (w1.alloc (.cells #[.int .u64 (W64 (p1 + (a1 * b0 + a0 * b1))), .int .u64 (W64 y0)] 24)).cell? ⟨w.heap.size + 1 + 1, 0, none⟩ = some (.int .u64 0) := by rw [cell_of_row _ _ _ _ _ _ hC2]; rfl
  have k1 : (w1.alloc (.cells #[.int .u64 (W64 (p1 + (a1 * b0 + a0 * b1))), .int .u64 (W64 y0)] 24)).cell? ⟨w.heap.size + 1 + 1, 1, none⟩ = some (.int .u64 0) := by rw [cell_of_row _ _ _ _ _ _ hC2]; rfl
  have kf := fun i => frozen_of_row _ (w.heap.size + 1 + 1) i _ _ hC2
  have hg : w1.heap.size ≠ w.heap.size + 1 + 1 := by have := lt_of_block hC; have := hn1.le; omega
  have HN := Lib.hid (hN.trans hn3)
  clear hA hB hC hN hn1 hn2 hn3
  have a_0 : (w1.alloc (.cells #[.int .u64 (W64 p1), .int .u64 (W64 y0)] 24)).cell? ⟨w.heap.size, 0, none⟩ = some (.int .u64 (W64 a1)) := by rw [cell_of_row _ _ _ _ _ _ hA2]; rfl
  have a_1 : (w1.alloc (.cells #[.int .u64 (W64 p1), .int .u64 (W64 y0)] 24)).cell? ⟨w.heap.size, 1, none⟩ = some (.int .u64 (W64 a0)) := by rw [cell_of_row _ _ _ _ _ _ hA2]; rfl
  have b_0 : (w1.alloc (.cells #[.int .u64 (W64 p1), .int .u64 (W64 y0)] 24)).cell? ⟨w.heap.size + 1, 0, none⟩ = some (.int .u64 (W64 b1)) := by rw [cell_of_row _ _ _ _ _ _ hB2]; rfl
  have b_1 : (w1.alloc (.cells #[.int .u64 (W64 p1), .int .u64 (W64 y0)] 24)).cell? ⟨w.heap.size + 1, 1, none⟩ = some (.int .u64 (W64 b0)) := by rw [cell_of_row _ _ _ _ _ _ hB2]; rfl
  clear hA2 hB2 hC2
  go_wp2
  refine bodyPost_ret (by simp [results, Try.results24, go_sem, k0, k1]; try rfl) rfl ?_
  rw [HH.out] at HN ⊢
  exact ⟨rfl, ((HN.out.setCell (by show _ ≤ w.heap.size + 1 + 1; omega) _).setCell (by show _ ≤ w.heap.size + 1 + 1; omega) _)⟩
end Go.Proofs.Ytepphoncljlkoaa
