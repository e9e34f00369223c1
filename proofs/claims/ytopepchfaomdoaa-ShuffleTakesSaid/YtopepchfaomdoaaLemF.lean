/- Contracts of layer 38: Each, Word; the document's own Each, Rank. -/
import Derived.Test.YtopepchfaomdoaaLemE
namespace Go.Bv
open Go Go.RowKit
theorem quo_parts (hi lo b : BitVec 64) (h : 0 < b.toNat) : two (divQ 0#64 hi b) (divQ (divR 0#64 hi b) lo b) = two hi lo / b.toNat := by
  have e1 : (divQ 0#64 hi b).toNat = hi.toNat / b.toNat := by
    rw [divQ_nat (by rw [show (0#64).toNat = 0 from rfl]; exact h)]; unfold two; rw [show (0#64).toNat = 0 from rfl, Nat.zero_mul, Nat.zero_add]
  have e2 : (divR 0#64 hi b).toNat = hi.toNat % b.toNat := by
    rw [divR_nat h]; unfold two; rw [show (0#64).toNat = 0 from rfl, Nat.zero_mul, Nat.zero_add]
  have e3 : (divQ (divR 0#64 hi b) lo b).toNat = two (divR 0#64 hi b) lo / b.toNat := divQ_nat (by rw [e2]; exact Nat.mod_lt _ h)
  unfold two at e3 ⊢
  rw [e1, e3, e2]
  have h1 := Nat.div_add_mod hi.toNat b.toNat
  generalize hi.toNat / b.toNat = q at *
  generalize hi.toNat % b.toNat = r at *
  rw [← h1, Nat.add_mul, Nat.mul_assoc, Nat.add_assoc, Nat.mul_add_div h]
end Go.Bv
namespace Go.Proofs.Ytopepchfaomdoaa
open Go.RowKit Go.Bv
set_option linter.unusedVariables false
theorem div_parts (hi lo n : BitVec 64) (h : ¬ n = 0#64) (w : World) : Calls Try.prog 50 #[.agg #[.int .u64 (W64 hi), .int .u64 (W64 lo)], .int .u64 (W64 n)] w fun e w' =>
    e = .returned (.tuple #[.agg #[.int .u64 (W64 (BitVec.ofNat 64 (two hi lo / n.toNat / 2 ^ 64))), .int .u64 (W64 (BitVec.ofNat 64 (two hi lo / n.toNat)))], .int .u64 (W64 (md (two hi lo) n))]) ∧ New w w' := by
  have hd := wdiv_any hi lo n h w
  have hq := quo_parts hi lo n (pos_of_ne h)
  rw [← hq, two_hi, two_lo]
  exact hd
theorem div_unit (n : BitVec 64) (w : World) : Calls Try.prog 50 #[.agg #[.int .u64 1, .int .u64 0], .int .u64 (W64 n)] w fun e w' =>
    e = .returned (.tuple #[.agg #[.int .u64 (W64 (eachNHi n)), .int .u64 (W64 (eachNLo n))], .int .u64 (W64 (lossN n))]) ∧ New w w' := by
  by_cases h : n = 0#64
  · subst h
    have hd := wdiv_zero 1#64 0#64 w
    rw [show W64 1#64 = 1 by decide, show W64 0#64 = 0 by decide] at hd
    rw [eachN_zero.1, eachN_zero.2, show lossN 0#64 = 0#64 from md_zero _, show W64 0#64 = 0 by decide]
    exact hd
  · have hd := div_parts 1#64 0#64 n h w
    rw [show W64 1#64 = 1 by decide, show W64 0#64 = 0 by decide, two_one] at hd
    unfold eachNHi eachNLo eachN T64
    rw [if_neg h]
    exact hd
set_option maxHeartbeats 1000000 in
theorem each_l (n : BitVec 64) (w : World) : Calls Try.prog 49 #[.int .u64 (W64 n)] w fun e w' => e = .returned (.agg #[.int .u64 (W64 (eachNHi n)), .int .u64 (W64 (eachNLo n))]) ∧ New w w' := by
  have hz := heap_alloc_new w (.cells #[.int .u64 0, .int .u64 0] 77)
  have HN0 := Lib.hid ((New.refl w).alloc (.cells #[.int .u64 0, .int .u64 0] 77))
  have HZ := Lib.hid hz
  have HD := Lib.hid (div_unit n)
  generalize eachNHi n = y1 at *
  generalize eachNLo n = y0 at *
  generalize lossN n = y at *
  obtain ⟨w0, hw0⟩ : ∃ w0, w.alloc (.cells #[.int .u64 0, .int .u64 0] 77) = w0 := ⟨_, rfl⟩
  rw [hw0] at HN0 HZ
  have HW0 := Lib.hid hw0
  clear hw0 hz
  go_enter Try.func49, Try.ntmps49
  go_wp2_with fail
  rw [HW0.out]
  refine (HD.out w0).mono ?_
  rintro e w1 ⟨rfl, hn⟩
  have hb := (hn.block _ (lt_of_block HZ.out)).trans HZ.out
  have hx := heap_alloc_new w1 (.cells #[.int .u64 (W64 y1), .int .u64 (W64 y0)] 77)
  have hn2 := (New.refl w1).alloc (.cells #[.int .u64 (W64 y1), .int .u64 (W64 y0)] 77)
  obtain ⟨w2, hw2⟩ : ∃ w2, w1.alloc (.cells #[.int .u64 (W64 y1), .int .u64 (W64 y0)] 77) = w2 := ⟨_, rfl⟩
  rw [hw2] at hx hn2
  have hb2 := (hn2.block _ (lt_of_block hb)).trans hb
  obtain ⟨q, hq⟩ : ∃ q, w1.heap.size = q := ⟨_, rfl⟩
  rw [hq] at hx
  have k0 := cell_of_row _ _ 0 _ _ _ hb2
  have k1 := cell_of_row _ _ 1 _ _ _ hb2
  have x0 := cell_of_row _ _ 0 _ _ _ hx
  have x1 := cell_of_row _ _ 1 _ _ _ hx
  have kf : ∀ i, w2.frozen? ⟨w.heap.size, i, none⟩ = false := fun i => frozen_of_row _ _ _ _ _ hb2
  have HN2 := Lib.hid ((HN0.out.trans hn).trans hn2)
  have HE := Lib.hid (show w1.alloc (.cells #[.int .u64 (W64 y1), .int .u64 (W64 y0)] 77) = w2 ∧ w1.heap.size = q from ⟨hw2, hq⟩)
  clear hb hb2 hx hn hn2 hw2 hq
  go_wp2_with (rw [HE.out.1, HE.out.2])
  refine bodyPost_ret (by simp [results, Try.results49, go_sem, k0, k1]; try rfl) rfl ?_
  exact ⟨rfl, (HN2.out.setCell (Nat.le_refl _) _).setCell (Nat.le_refl _) _⟩
end Go.Proofs.Ytopepchfaomdoaa
