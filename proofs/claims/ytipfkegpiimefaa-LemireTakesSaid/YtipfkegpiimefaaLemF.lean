/- Contracts of layer 38: Each, Word; the document's own Each, Rank. -/
import Derived.Test.YtipfkegpiimefaaLemE
namespace Go.Bv
open Go Go.RowKit
theorem quo_parts (hi lo b : BitVec 64) (h : 0 < b.toNat) : two (divQ 0#64 hi b) (divQ (divR 0#64 hi b) lo b) = two hi lo / b.toNat := by
  have e1 : (divQ 0#64 hi b).toNat = hi.toNat / b.toNat := by
    rw [divQ_nat (by rw [show (0#64).toNat = 0 from rfl]; exact h)]; unfold two; rw [show (0#64).toNat = 0 from rfl, Nat.zero_mul, Nat.zero_add]
  have e2 : (divR 0#64 hi b).toNat = hi.toNat % b.toNat := by
    rw [divR_nat h]; unfold two; rw [show (0#64).toNat = 0 from rfl, Nat.zero_mul, Nat.zero_add]
  have e3 : (divQ (divR 0#64 hi b) lo b).toNat = two (divR 0#64 hi b) lo / b.toNat := divQ_nat (by rw [e2]; exact Nat.mod_lt _ h)
  unfold two at e3 ⊢
  rw [e1, e3, e2]
  have h1 := Nat.div_add_mod hi.toNat b.toNat
  generalize hi.toNat / b.toNat = q at *
  generalize hi.toNat % b.toNat = r at *
  rw [← h1, Nat.add_mul, Nat.mul_assoc, Nat.add_assoc, Nat.mul_add_div h]
end Go.Bv
namespace Go.Proofs.Ytipfkegpiimefaa
open Go.RowKit Go.Bv
set_option linter.unusedVariables false
theorem div_parts (hi lo n : BitVec 64) (h : ¬ n = 0#64) (w : World) : Calls Try.prog 51 #[.agg #[.int .u64 (W64 hi), .int .u64 (W64 lo)], .int .u64 (W64 n)] w fun e w' =>
    e = .returned (.tuple #[.agg #[.int .u64 (W64 (BitVec.ofNat 64 (two hi lo / n.toNat / 2 ^ 64))), .int .u64 (W64 (BitVec.ofNat 64 (two hi lo / n.toNat)))], .int .u64 (W64 (md (two hi lo) n))]) ∧ New w w' := by
  have hd := wdiv_any hi lo n h w
  have hq := quo_parts hi lo n (pos_of_ne h)
  rw [← hq, two_hi, two_lo]
  exact hd
theorem div_unit (n : BitVec 64) (w : World) : Calls Try.prog 51 #[.agg #[.int .u64 1, .int .u64 0], .int .u64 (W64 n)] w fun e w' =>
    e = .returned (.tuple #[.agg #[.int .u64 (W64 (eachNHi n)), .int .u64 (W64 (eachNLo n))], .int .u64 (W64 (lossN n))]) ∧ New w w' := by
  by_cases h : n = 0#64
  · subst h
    have hd := wdiv_zero 1#64 0#64 w
    rw [show W64 1#64 = 1 by decide, show W64 0#64 = 0 by decide] at hd
    rw [eachN_zero.1, eachN_zero.2, show lossN 0#64 = 0#64 from md_zero _, show W64 0#64 = 0 by decide]
    exact hd
  · have hd := div_parts 1#64 0#64 n h w
    rw [show W64 1#64 = 1 by decide, show W64 0#64 = 0 by decide, two_one] at hd
    unfold eachNHi eachNLo eachN T64
    rw [if_neg h]
    exact hd
set_option maxHeartbeats 1000000 in
theorem each_l (n : BitVec 64) (w : World) : Calls Try.prog 20 #[.int .u64 (W64 n)] w fun e w' => e = .returned (.agg #[.int .u64 (W64 (eachNHi n)), .int .u64 (W64 (eachNLo n))]) ∧ New w w' := by
  have hz := heap_alloc_new w (.cells #[.int .u64 0, .int .u64 0] 31)
  have HN0 := Lib.hid ((New.refl w).alloc (.cells #[.int .u64 0, .int .u64 0] 31))
  have HZ := Lib.hid hz
  have HD := Lib.hid (div_unit n)
  generalize eachNHi n = y1 at *
  generalize eachNLo n = y0 at *
  generalize lossN n = y at *
  obtain ⟨w0, hw0⟩ : ∃ w0, w.alloc (.cells #[.int .u64 0, .int .u64 0] 31) = w0 := ⟨_, rfl⟩
  rw [hw0] at HN0 HZ
  have HW0 := Lib.hid hw0
  clear hw0 hz
  go_enter Try.func20, Try.ntmps20
  go_wp2_with fail
  rw [HW0.out]
  refine (HD.out w0).mono ?_
  rintro e w1 ⟨rfl, hn⟩
  have hb := (hn.block _ (lt_of_block HZ.out)).trans HZ.out
  have hx := heap_alloc_new w1 (.cells #[.int .u64 (W64 y1), .int .u64 (W64 y0)] 31)
  have hn2 := (New.refl w1).alloc (.cells #[.int .u64 (W64 y1), .int .u64 (W64 y0)] 31)
  obtain ⟨w2, hw2⟩ : ∃ w2, w1.alloc (.cells #[.int .u64 (W64 y1), .int .u64 (W64 y0)] 31) = w2 := ⟨_, rfl⟩
  rw [hw2] at hx hn2
  have hb2 := (hn2.block _ (lt_of_block hb)).trans hb
  obtain ⟨q, hq⟩ : ∃ q, w1.heap.size = q := ⟨_, rfl⟩
  rw [hq] at hx
  have k0 := cell_of_row _ _ 0 _ _ _ hb2
  have k1 := cell_of_row _ _ 1 _ _ _ hb2
  have x0 := cell_of_row _ _ 0 _ _ _ hx
  have x1 := cell_of_row _ _ 1 _ _ _ hx
  have kf : ∀ i, w2.frozen? ⟨w.heap.size, i, none⟩ = false := fun i => frozen_of_row _ _ _ _ _ hb2
  have HN2 := Lib.hid ((HN0.out.trans hn).trans hn2)
  have HE := Lib.hid (show w1.alloc (.cells #[.int .u64 (W64 y1), .int .u64 (W64 y0)] 31) = w2 ∧ w1.heap.size = q from ⟨hw2, hq⟩)
  clear hb hb2 hx hn hn2 hw2 hq
  go_wp2_with (rw [HE.out.1, HE.out.2])
  refine bodyPost_ret (by simp [results, Try.results20, go_sem, k0, k1]; try rfl) rfl ?_
  exact ⟨rfl, (HN2.out.setCell (Nat.le_refl _) _).setCell (Nat.le_refl _) _⟩
set_option maxHeartbeats 1000000 in
theorem reach_l (n : BitVec 64) (w : World) : Calls Try.prog 21 #[.int .u64 (W64 n)] w fun e w' => e = .returned (.agg #[.int .u64 (W64 (eachNHi n)), .int .u64 (W64 (eachNLo n))]) ∧ New w w' := by
  have hz := heap_alloc_new w (.cells #[.int .u64 0, .int .u64 0] 31)
  have k0 := cell_of_row _ _ 0 _ _ _ hz
  have k1 := cell_of_row _ _ 1 _ _ _ hz
  have kf : ∀ i, (w.alloc (.cells #[.int .u64 0, .int .u64 0] 31)).frozen? ⟨w.heap.size, i, none⟩ = false := fun i => frozen_of_row _ _ _ _ _ hz
  have HN0 := Lib.hid ((New.refl w).alloc (.cells #[.int .u64 0, .int .u64 0] 31))
  by_cases h : n = 0#64
  · subst h
    rw [eachN_zero.1, eachN_zero.2, show W64 0#64 = 0 by decide]
    go_enter Try.func21, Try.ntmps21
    go_wp2
    refine bodyPost_ret (by simp [results, Try.results21, go_sem, k0, k1]; try rfl) rfl ?_
    exact ⟨rfl, HN0.out⟩
  · have hz2 : (W64 n == 0) = false := by
      have := pos_of_ne h
      rw [beq_eq_false_iff_ne]; unfold W64; omega
    have hz3 : (n == 0#64) = false := beq_false_of_ne h
    have hp := pos_of_ne h
    have hle := eachN_le n
    have hT := hle
    have hQ : T64 / n.toNat = eachN n := by unfold eachN; rw [if_neg h]
    have ht2 := fun a c w hz => to2_any (eachN n) 66 c a w hz (by unfold T64 at hle; omega)
    change ∀ a c w, ZRow w a 66 c (bitsOf (eachN n) 66) → Calls Try.prog 57 #[.slice a 66 c] w fun e w' => e = .returned (.agg #[.int .u64 (W64 (eachNHi n)), .int .u64 (W64 (eachNLo n))]) ∧ New w w' at ht2
    have HTO := Lib.hid ht2
    have HQ := Lib.hid hQ
    have HNL := Lib.hid n.isLt
    have HP := Lib.hid hp
    have HTL : Hid (T64 < 2 ^ 66) := Lib.hid (by unfold T64; omega)
    have HO := Lib.hid (fun w => of_own n 64 64 (by omega) rfl w)
    have hsz : (w.alloc (.cells #[.int .u64 0, .int .u64 0] 31)).heap.size = w.heap.size + 1 := by simp
    obtain ⟨w0, hw0⟩ : ∃ w0, w.alloc (.cells #[.int .u64 0, .int .u64 0] 31) = w0 := ⟨_, rfl⟩
    rw [hw0] at HN0 hz hsz
    have hsh := bshl_own 1 1 1 64 (some ⟨w0.heap.size, 0, none⟩) 66 66 rfl (by omega) (by omega) (w0.alloc (.cells #[.int .i64 1] 3)) (one_bit w0) (by decide)
    rw [hsz, T64_pow] at hsh
    have HS := Lib.hid hsh
    have HW0 := Lib.hid hw0
    have HZ := Lib.hid hz
    have HN1 := Lib.hid ((New.refl w0).alloc (.cells #[.int .i64 1] 3))
    clear hsh hw0 hz hsz h hp hle hT hQ ht2 k0 k1 kf
    generalize T64 = T at *
    generalize eachN n = N at *
    generalize eachNHi n = y1 at *
    generalize eachNLo n = y0 at *
    go_enter Try.func21, Try.ntmps21
    go_wp2_with fail
    rw [HW0.out]
    refine HS.out.mono ?_
    rintro e w1 ⟨v1, rfl, hown1, hn1⟩
    obtain ⟨a1, c1, rfl, hz1⟩ := bits_row hown1 (by omega)
    have HN2 := Lib.hid (HN1.out.trans hn1)
    have HZ1 := Lib.hid hz1
    clear hown1 hz1 hn1
    go_wp2_with fail
    refine (HO.out _).mono ?_
    rintro e w2 ⟨v2, rfl, hown2, hn2⟩
    obtain ⟨a2, c2, rfl, hz2⟩ := bits_row hown2 (by omega)
    have HN3 := Lib.hid (HN2.out.trans hn2)
    have HZ2 := Lib.hid hz2
    have HZ1b := Lib.hid (HZ1.out.stay hn2)
    clear hown2 hz2 hn2
    go_wp2_with fail
    refine (bdiv_own T n.toNat 66 64 _ _ _ _ 66 (by omega) (by omega) (by omega) _ HZ1b.out HTL.out HZ2.out HNL.out HP.out).mono ?_
    rintro e w3 ⟨v3, v4, rfl, hown3, hown4, hn3⟩
    rw [HQ.out] at hown3
    obtain ⟨a3, c3, rfl, hz3⟩ := bits_row hown3 (by omega)
    have HN4 := Lib.hid (HN3.out.trans hn3)
    have HZ3 := Lib.hid hz3
    clear hown3 hown4 hz3 hn3
    go_wp2_with fail
    refine (HTO.out _ _ _ HZ3.out).mono ?_
    rintro e w4 ⟨rfl, hn4⟩
    have HN5 := Lib.hid (HN4.out.trans hn4)
    clear hn4
    have hb := (HN5.out.block _ (lt_of_block HZ.out)).trans HZ.out
    have k0 := cell_of_row _ _ 0 _ _ _ hb
    have k1 := cell_of_row _ _ 1 _ _ _ hb
    have kf : ∀ i, w4.frozen? ⟨w.heap.size, i, none⟩ = false := fun i => frozen_of_row _ _ _ _ _ hb
    clear hb
    go_wp2
    refine bodyPost_ret (by simp [results, Try.results21, go_sem, k0, k1]; try rfl) rfl ?_
    exact ⟨rfl, ((HN0.out.trans HN5.out).setCell (Nat.le_refl _) _).setCell (Nat.le_refl _) _⟩
end Go.Proofs.Ytipfkegpiimefaa
