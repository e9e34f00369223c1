/- The law RangesCounts, walked. -/
import Derived.Test.YtobmgigmoppkkaaRanL
namespace Go.Bv
open Go Go.RowKit
theorem frst_top (m : BitVec 64) (k : Nat) (hm : ¬ m = 0#64) : frst m m k = 2 ^ k := by
  have hp := pos_of_ne hm
  apply Nat.le_antisymm
  · rw [frst_le _ _ _ _ hm, Nat.mul_comm]; exact Nat.le_refl _
  · rcases Nat.lt_or_ge (frst m m k) (2 ^ k) with h | h
    · exfalso
      have h1 := (frst_le m m k (frst m m k) hm).1 (Nat.le_refl _)
      rw [Nat.mul_comm] at h1
      have h2 := (Nat.mul_lt_mul_right hp).2 h
      omega
    · exact h
/-- how many are brought to a number -/
theorem cnt_near (v m : BitVec 64) (k : Nat) (hm : ¬ m = 0#64) (hv : v.toNat < m.toNat) : cntR v m k = 2 ^ k / m.toNat ∨ cntR v m k = 2 ^ k / m.toNat + 1 := by
  have hp := pos_of_ne hm
  have hn := next_nat v m hv
  have h1 := Nat.div_mul_le_self (2 ^ k) m.toNat
  have h2 := Nat.lt_div_mul_add (a := 2 ^ k) hp
  have hB := (frst_le v m k (frst v m k) hm).1 (Nat.le_refl _)
  have hmono := frst_mono v (v + 1#64) m k (by omega)
  have hA : frst (v + 1#64) m k ≤ frst v m k + (2 ^ k / m.toNat + 1) := by
    rw [frst_le _ _ _ _ hm, hn, Nat.add_mul, Nat.one_mul, Nat.add_mul, Nat.add_mul, Nat.one_mul]
    omega
  have hA2 : frst v m k + 2 ^ k / m.toNat ≤ frst (v + 1#64) m k := by
    have h3 := (frst_le (v + 1#64) m k (frst (v + 1#64) m k) hm).1 (Nat.le_refl _)
    rw [hn, Nat.add_mul, Nat.one_mul] at h3
    by_cases h0 : frst v m k = 0
    · rw [h0, Nat.zero_add]
      refine Nat.le_of_mul_le_mul_right ?_ hp
      omega
    · have h4 := mt (frst_le v m k (frst v m k - 1) hm).2 (by omega)
      have h5 : (frst v m k - 1 + 2 ^ k / m.toNat) * m.toNat < frst (v + 1#64) m k * m.toNat := by
        rw [Nat.add_mul]; omega
      have h6 := Nat.lt_of_mul_lt_mul_right h5
      omega
  unfold cntR
  omega
end Go.Bv
namespace Go.Proofs.Ytobmgigmoppkkaa
open Go.RowKit Go.Bv
set_option linter.unusedVariables false
set_option maxHeartbeats 4000000 in
theorem counts_bad (W : World) (v m : BitVec 64) (k c : Int) (e : Int) (f : Int) (he : (c == 0) = false ∧ e = c ∧ f = c ∨ (c == 0) = true ∧ decide (W64 m < W64 v) = true ∧ e = 2 ∧ f = 2)
    (H2 : Hid (∀ w : World, Calls Try.prog 22 #[.int .i64 k, .int .u64 (W64 m)] w fun e w' => e = .returned (.int .i64 c) ∧ New w w'))
    (HF : Hid (∀ w : World, Calls Try.prog 26 #[.int .u64 (W64 v), .int .i64 k, .int .u64 (W64 m)] w fun e' w' => e' = .returned (.tuple #[.agg #[.int .u64 0, .int .u64 0], .int .i64 e]) ∧ New w w'))
    (HC : Hid (∀ w : World, Calls Try.prog 27 #[.int .u64 (W64 v), .int .i64 k, .int .u64 (W64 m)] w fun e' w' => e' = .returned (.tuple #[.agg #[.int .u64 0, .int .u64 0], .int .i64 f]) ∧ New w w')) :
    Calls Try.prog 7 #[.int .u64 (W64 v), .int .i64 k, .int .u64 (W64 m)] W fun e w' => e = .returned (.bool true) ∧ Below W.heap.size W w' := by
  have HA := Lib.hid awake_26
  have HN := Lib.hid (New.refl W)
  have heq := fun w => equ128 w 0#64 0#64 0#64 0#64
  rw [show W64 0#64 = 0 by decide] at heq
  rcases he with ⟨z1, rfl, rfl⟩ | ⟨z1, z2, rfl, rfl⟩
  · skip
    go_enter Try.func7, Try.ntmps7
    go_wp2_with fail
    refine (HA.out _).mono ?_
    rintro e w9 ⟨rfl, hn⟩
    replace HN := Lib.hid (HN.out.trans hn)
    clear hn
    go_wp2_with fail
    refine (HF.out _).mono ?_
    rintro e w9 ⟨rfl, hn⟩
    replace HN := Lib.hid (HN.out.trans hn)
    clear hn
    have hx := heap_alloc_new w9 (.cells #[.int .u64 0, .int .u64 0] 24)
    have hn2 := (New.refl w9).alloc (.cells #[.int .u64 0, .int .u64 0] 24)
    obtain ⟨wb1, hw2⟩ : ∃ w2, w9.alloc (.cells #[.int .u64 0, .int .u64 0] 24) = w2 := ⟨_, rfl⟩
    rw [hw2] at hx hn2
    obtain ⟨q1, hq⟩ : ∃ q, w9.heap.size = q := ⟨_, rfl⟩
    rw [hq] at hx
    have HX1 := Lib.hid hx
    replace HN := Lib.hid (HN.out.trans hn2)
    have HM1 := Lib.hid hn2
    have HE1 := Lib.hid (show w9.alloc (.cells #[.int .u64 0, .int .u64 0] 24) = wb1 ∧ w9.heap.size = q1 from ⟨hw2, hq⟩)
    clear hx hn2 hw2 hq
    go_wp2_with fail
    rw [HE1.out.1, HE1.out.2]
    refine (HC.out _).mono ?_
    rintro e w9 ⟨rfl, hn⟩
    replace HN := Lib.hid (HN.out.trans hn)
    replace HX1 := Lib.hid ((hn.block _ (lt_of_block HX1.out)).trans HX1.out)
    clear hn
    have hx := heap_alloc_new w9 (.cells #[.int .u64 0, .int .u64 0] 24)
    have hn2 := (New.refl w9).alloc (.cells #[.int .u64 0, .int .u64 0] 24)
    obtain ⟨wb2, hw2⟩ : ∃ w2, w9.alloc (.cells #[.int .u64 0, .int .u64 0] 24) = w2 := ⟨_, rfl⟩
    rw [hw2] at hx hn2
    obtain ⟨q2, hq⟩ : ∃ q, w9.heap.size = q := ⟨_, rfl⟩
    rw [hq] at hx
    have HX2 := Lib.hid hx
    replace HN := Lib.hid (HN.out.trans hn2)
    have HM2 := Lib.hid hn2
    have HE2 := Lib.hid (show w9.alloc (.cells #[.int .u64 0, .int .u64 0] 24) = wb2 ∧ w9.heap.size = q2 from ⟨hw2, hq⟩)
    clear hx hn2 hw2 hq
    replace HX1 := Lib.hid ((HM2.out.block _ (lt_of_block HX1.out)).trans HX1.out)
    have hx := heap_alloc_new wb2 (.cells #[.int .u64 0, .int .u64 0] 24)
    have hn2 := (New.refl wb2).alloc (.cells #[.int .u64 0, .int .u64 0] 24)
    obtain ⟨wb3, hw2⟩ : ∃ w2, wb2.alloc (.cells #[.int .u64 0, .int .u64 0] 24) = w2 := ⟨_, rfl⟩
    rw [hw2] at hx hn2
    obtain ⟨q3, hq⟩ : ∃ q, wb2.heap.size = q := ⟨_, rfl⟩
    rw [hq] at hx
    have HX3 := Lib.hid hx
    replace HN := Lib.hid (HN.out.trans hn2)
    have HM3 := Lib.hid hn2
    have HE3 := Lib.hid (show wb2.alloc (.cells #[.int .u64 0, .int .u64 0] 24) = wb3 ∧ wb2.heap.size = q3 from ⟨hw2, hq⟩)
    clear hx hn2 hw2 hq
    replace HX1 := Lib.hid ((HM3.out.block _ (lt_of_block HX1.out)).trans HX1.out)
    replace HX2 := Lib.hid ((HM3.out.block _ (lt_of_block HX2.out)).trans HX2.out)
    have hq3 : q2 + 1 = q3 := by rw [← HE3.out.2, ← HE2.out.1, ← HE2.out.2]; simp
    go_wp2_with fail
    rw [HE2.out.1, HE2.out.2, HE3.out.1, hq3]
    refine (H2.out _).mono ?_
    rintro e w9 ⟨rfl, hn⟩
    replace HN := Lib.hid (HN.out.trans hn)
    replace HX1 := Lib.hid ((hn.block _ (lt_of_block HX1.out)).trans HX1.out)
    replace HX2 := Lib.hid ((hn.block _ (lt_of_block HX2.out)).trans HX2.out)
    replace HX3 := Lib.hid ((hn.block _ (lt_of_block HX3.out)).trans HX3.out)
    clear hn
    have x0 := cell_of_row _ _ 0 _ _ _ HX1.out
    have x1 := cell_of_row _ _ 1 _ _ _ HX1.out
    have y0 := cell_of_row _ _ 0 _ _ _ HX2.out
    have y1 := cell_of_row _ _ 1 _ _ _ HX2.out
    have o0 := cell_of_row _ _ 0 _ _ _ HX3.out
    have o1 := cell_of_row _ _ 1 _ _ _ HX3.out
    go_wp2
    go_ret
    exact ⟨rfl, HN.out⟩
  · obtain rfl : c = 0 := by rw [beq_iff_eq] at z1; exact z1
    clear z1
    go_enter Try.func7, Try.ntmps7
    go_wp2_with fail
    refine (HA.out _).mono ?_
    rintro e w9 ⟨rfl, hn⟩
    replace HN := Lib.hid (HN.out.trans hn)
    clear hn
    go_wp2_with fail
    refine (HF.out _).mono ?_
    rintro e w9 ⟨rfl, hn⟩
    replace HN := Lib.hid (HN.out.trans hn)
    clear hn
    have hx := heap_alloc_new w9 (.cells #[.int .u64 0, .int .u64 0] 24)
    have hn2 := (New.refl w9).alloc (.cells #[.int .u64 0, .int .u64 0] 24)
    obtain ⟨wb1, hw2⟩ : ∃ w2, w9.alloc (.cells #[.int .u64 0, .int .u64 0] 24) = w2 := ⟨_, rfl⟩
    rw [hw2] at hx hn2
    obtain ⟨q1, hq⟩ : ∃ q, w9.heap.size = q := ⟨_, rfl⟩
    rw [hq] at hx
    have HX1 := Lib.hid hx
    replace HN := Lib.hid (HN.out.trans hn2)
    have HM1 := Lib.hid hn2
    have HE1 := Lib.hid (show w9.alloc (.cells #[.int .u64 0, .int .u64 0] 24) = wb1 ∧ w9.heap.size = q1 from ⟨hw2, hq⟩)
    clear hx hn2 hw2 hq
    go_wp2_with fail
    rw [HE1.out.1, HE1.out.2]
    refine (HC.out _).mono ?_
    rintro e w9 ⟨rfl, hn⟩
    replace HN := Lib.hid (HN.out.trans hn)
    replace HX1 := Lib.hid ((hn.block _ (lt_of_block HX1.out)).trans HX1.out)
    clear hn
    have hx := heap_alloc_new w9 (.cells #[.int .u64 0, .int .u64 0] 24)
    have hn2 := (New.refl w9).alloc (.cells #[.int .u64 0, .int .u64 0] 24)
    obtain ⟨wb2, hw2⟩ : ∃ w2, w9.alloc (.cells #[.int .u64 0, .int .u64 0] 24) = w2 := ⟨_, rfl⟩
    rw [hw2] at hx hn2
    obtain ⟨q2, hq⟩ : ∃ q, w9.heap.size = q := ⟨_, rfl⟩
    rw [hq] at hx
    have HX2 := Lib.hid hx
    replace HN := Lib.hid (HN.out.trans hn2)
    have HM2 := Lib.hid hn2
    have HE2 := Lib.hid (show w9.alloc (.cells #[.int .u64 0, .int .u64 0] 24) = wb2 ∧ w9.heap.size = q2 from ⟨hw2, hq⟩)
    clear hx hn2 hw2 hq
    replace HX1 := Lib.hid ((HM2.out.block _ (lt_of_block HX1.out)).trans HX1.out)
    have hx := heap_alloc_new wb2 (.cells #[.int .u64 0, .int .u64 0] 24)
    have hn2 := (New.refl wb2).alloc (.cells #[.int .u64 0, .int .u64 0] 24)
    obtain ⟨wb3, hw2⟩ : ∃ w2, wb2.alloc (.cells #[.int .u64 0, .int .u64 0] 24) = w2 := ⟨_, rfl⟩
    rw [hw2] at hx hn2
    obtain ⟨q3, hq⟩ : ∃ q, wb2.heap.size = q := ⟨_, rfl⟩
    rw [hq] at hx
    have HX3 := Lib.hid hx
    replace HN := Lib.hid (HN.out.trans hn2)
    have HM3 := Lib.hid hn2
    have HE3 := Lib.hid (show wb2.alloc (.cells #[.int .u64 0, .int .u64 0] 24) = wb3 ∧ wb2.heap.size = q3 from ⟨hw2, hq⟩)
    clear hx hn2 hw2 hq
    replace HX1 := Lib.hid ((HM3.out.block _ (lt_of_block HX1.out)).trans HX1.out)
    replace HX2 := Lib.hid ((HM3.out.block _ (lt_of_block HX2.out)).trans HX2.out)
    have hq3 : q2 + 1 = q3 := by rw [← HE3.out.2, ← HE2.out.1, ← HE2.out.2]; simp
    go_wp2_with fail
    rw [HE2.out.1, HE2.out.2, HE3.out.1, hq3]
    refine (H2.out _).mono ?_
    rintro e w9 ⟨rfl, hn⟩
    replace HN := Lib.hid (HN.out.trans hn)
    replace HX1 := Lib.hid ((hn.block _ (lt_of_block HX1.out)).trans HX1.out)
    replace HX2 := Lib.hid ((hn.block _ (lt_of_block HX2.out)).trans HX2.out)
    replace HX3 := Lib.hid ((hn.block _ (lt_of_block HX3.out)).trans HX3.out)
    clear hn
    have x0 := cell_of_row _ _ 0 _ _ _ HX1.out
    have x1 := cell_of_row _ _ 1 _ _ _ HX1.out
    have y0 := cell_of_row _ _ 0 _ _ _ HX2.out
    have y1 := cell_of_row _ _ 1 _ _ _ HX2.out
    have o0 := cell_of_row _ _ 0 _ _ _ HX3.out
    have o1 := cell_of_row _ _ 1 _ _ _ HX3.out
    go_wp2
    go_ret
    exact ⟨rfl, HN.out⟩
set_option maxHeartbeats 4000000 in
theorem counts_top (W : World) (m : BitVec 64) (k : Nat) (p1 p0 : BitVec 64)
    (H2 : Hid (∀ w : World, Calls Try.prog 22 #[.int .i64 (k : Int), .int .u64 (W64 m)] w fun e w' => e = .returned (.int .i64 0) ∧ New w w'))
    (HF : Hid (∀ w : World, Calls Try.prog 26 #[.int .u64 (W64 m), .int .i64 (k : Int), .int .u64 (W64 m)] w fun e' w' => e' = .returned (.tuple #[.agg #[.int .u64 (W64 p1), .int .u64 (W64 p0)], .int .i64 0]) ∧ New w w'))
    (HC : Hid (∀ w : World, Calls Try.prog 27 #[.int .u64 (W64 m), .int .i64 (k : Int), .int .u64 (W64 m)] w fun e' w' => e' = .returned (.tuple #[.agg #[.int .u64 0, .int .u64 0], .int .i64 2]) ∧ New w w'))
    (HR : Hid (∀ w : World, Calls Try.prog 28 #[.int .u64 (W64 m), .int .i64 (k : Int), .int .u64 (W64 m)] w fun e' w' => e' = .returned (.agg #[.int .u64 (W64 p1), .int .u64 (W64 p0)]) ∧ New w w'))
    (HS : Hid (∀ w : World, Calls Try.prog 29 #[.agg #[.int .u64 0, .int .u64 1], .int .i64 (k : Int)] w fun e' w' => e' = .returned (.agg #[.int .u64 (W64 p1), .int .u64 (W64 p0)]) ∧ New w w')) :
    Calls Try.prog 7 #[.int .u64 (W64 m), .int .i64 (k : Int), .int .u64 (W64 m)] W fun e w' => e = .returned (.bool true) ∧ Below W.heap.size W w' := by
  have HA := Lib.hid awake_26
  have HN := Lib.hid (New.refl W)
  have heq := equ128
  have heq0 := fun w => equ128 w 0#64 0#64 0#64 0#64
  rw [show W64 0#64 = 0 by decide] at heq0
  have z1 : decide (W64 m < W64 m) = false := by rw [decide_eq_false_iff_not]; omega
  go_enter Try.func7, Try.ntmps7
  go_wp2_with fail
  refine (HA.out _).mono ?_
  rintro e w9 ⟨rfl, hn⟩
  replace HN := Lib.hid (HN.out.trans hn)
  clear hn
  go_wp2_with fail
  refine (HF.out _).mono ?_
  rintro e w9 ⟨rfl, hn⟩
  replace HN := Lib.hid (HN.out.trans hn)
  clear hn
  have hx := heap_alloc_new w9 (.cells #[.int .u64 (W64 p1), .int .u64 (W64 p0)] 24)
  have hn2 := (New.refl w9).alloc (.cells #[.int .u64 (W64 p1), .int .u64 (W64 p0)] 24)
  obtain ⟨wb1, hw2⟩ : ∃ w2, w9.alloc (.cells #[.int .u64 (W64 p1), .int .u64 (W64 p0)] 24) = w2 := ⟨_, rfl⟩
  rw [hw2] at hx hn2
  obtain ⟨q1, hq⟩ : ∃ q, w9.heap.size = q := ⟨_, rfl⟩
  rw [hq] at hx
  have HX1 := Lib.hid hx
  replace HN := Lib.hid (HN.out.trans hn2)
  have HM1 := Lib.hid hn2
  have HE1 := Lib.hid (show w9.alloc (.cells #[.int .u64 (W64 p1), .int .u64 (W64 p0)] 24) = wb1 ∧ w9.heap.size = q1 from ⟨hw2, hq⟩)
  clear hx hn2 hw2 hq
  go_wp2_with fail
  rw [HE1.out.1, HE1.out.2]
  refine (HC.out _).mono ?_
  rintro e w9 ⟨rfl, hn⟩
  replace HN := Lib.hid (HN.out.trans hn)
  replace HX1 := Lib.hid ((hn.block _ (lt_of_block HX1.out)).trans HX1.out)
  clear hn
  have hx := heap_alloc_new w9 (.cells #[.int .u64 0, .int .u64 0] 24)
  have hn2 := (New.refl w9).alloc (.cells #[.int .u64 0, .int .u64 0] 24)
  obtain ⟨wb2, hw2⟩ : ∃ w2, w9.alloc (.cells #[.int .u64 0, .int .u64 0] 24) = w2 := ⟨_, rfl⟩
  rw [hw2] at hx hn2
  obtain ⟨q2, hq⟩ : ∃ q, w9.heap.size = q := ⟨_, rfl⟩
  rw [hq] at hx
  have HX2 := Lib.hid hx
  replace HN := Lib.hid (HN.out.trans hn2)
  have HM2 := Lib.hid hn2
  have HE2 := Lib.hid (show w9.alloc (.cells #[.int .u64 0, .int .u64 0] 24) = wb2 ∧ w9.heap.size = q2 from ⟨hw2, hq⟩)
  clear hx hn2 hw2 hq
  replace HX1 := Lib.hid ((HM2.out.block _ (lt_of_block HX1.out)).trans HX1.out)
  have hx := heap_alloc_new wb2 (.cells #[.int .u64 0, .int .u64 0] 24)
  have hn2 := (New.refl wb2).alloc (.cells #[.int .u64 0, .int .u64 0] 24)
  obtain ⟨wb3, hw2⟩ : ∃ w2, wb2.alloc (.cells #[.int .u64 0, .int .u64 0] 24) = w2 := ⟨_, rfl⟩
  rw [hw2] at hx hn2
  obtain ⟨q3, hq⟩ : ∃ q, wb2.heap.size = q := ⟨_, rfl⟩
  rw [hq] at hx
  have HX3 := Lib.hid hx
  replace HN := Lib.hid (HN.out.trans hn2)
  have HM3 := Lib.hid hn2
  have HE3 := Lib.hid (show wb2.alloc (.cells #[.int .u64 0, .int .u64 0] 24) = wb3 ∧ wb2.heap.size = q3 from ⟨hw2, hq⟩)
  clear hx hn2 hw2 hq
  replace HX1 := Lib.hid ((HM3.out.block _ (lt_of_block HX1.out)).trans HX1.out)
  replace HX2 := Lib.hid ((HM3.out.block _ (lt_of_block HX2.out)).trans HX2.out)
  have hq3 : q2 + 1 = q3 := by rw [← HE3.out.2, ← HE2.out.1, ← HE2.out.2]; simp
  go_wp2_with fail
  rw [HE2.out.1, HE2.out.2, HE3.out.1, hq3]
  refine (H2.out _).mono ?_
  rintro e w9 ⟨rfl, hn⟩
  replace HN := Lib.hid (HN.out.trans hn)
  replace HX1 := Lib.hid ((hn.block _ (lt_of_block HX1.out)).trans HX1.out)
  replace HX2 := Lib.hid ((hn.block _ (lt_of_block HX2.out)).trans HX2.out)
  replace HX3 := Lib.hid ((hn.block _ (lt_of_block HX3.out)).trans HX3.out)
  clear hn
  have x0 := cell_of_row _ _ 0 _ _ _ HX1.out
  have x1 := cell_of_row _ _ 1 _ _ _ HX1.out
  have y0 := cell_of_row _ _ 0 _ _ _ HX2.out
  have y1 := cell_of_row _ _ 1 _ _ _ HX2.out
  have o0 := cell_of_row _ _ 0 _ _ _ HX3.out
  have o1 := cell_of_row _ _ 1 _ _ _ HX3.out
  go_wp2_with fail
  clear x0 x1 y0 y1 o0 o1
  refine wp_region_class (fun w' => (w'.heap[q1]? = some (.cells #[.int .u64 (W64 p1), .int .u64 (W64 p0)] 24) ∧ w'.heap[q2]? = some (.cells #[.int .u64 0, .int .u64 0] 24) ∧ w'.heap[q3]? = some (.cells #[.int .u64 0, .int .u64 0] 24)) ∧ New w9 w') (by kernel_rfl) (by kernel_rfl) ⟨⟨((New.refl w9).drew.block _ (lt_of_block HX1.out)).trans HX1.out, ((New.refl w9).drew.block _ (lt_of_block HX2.out)).trans HX2.out, ((New.refl w9).drew.block _ (lt_of_block HX3.out)).trans HX3.out⟩, (New.refl _).drew⟩ ?_
  intro I _ f hall hback
  have HSTEP : Hid (∀ n w', New (f n) w' → ∃ m, w' = f m) := Lib.hid fun n w' hn => hback w' ⟨⟨(hn.block _ (lt_of_block ((hall n).1.1))).trans ((hall n).1.1), (hn.block _ (lt_of_block ((hall n).1.2.1))).trans ((hall n).1.2.1), (hn.block _ (lt_of_block ((hall n).1.2.2))).trans ((hall n).1.2.2)⟩, (hall n).2.trans hn⟩
  have HALL := Lib.hid fun n => (hall n).2
  have s0 := fun n => cell_of_row _ _ 0 _ _ _ ((hall n).1.1)
  have s1 := fun n => cell_of_row _ _ 1 _ _ _ ((hall n).1.1)
  have s2 := fun n => cell_of_row _ _ 0 _ _ _ ((hall n).1.2.1)
  have s3 := fun n => cell_of_row _ _ 1 _ _ _ ((hall n).1.2.1)
  have s4 := fun n => cell_of_row _ _ 0 _ _ _ ((hall n).1.2.2)
  have s5 := fun n => cell_of_row _ _ 1 _ _ _ ((hall n).1.2.2)
  clear hall hback
  repeat (go_big_quiet_step (first
    | (go_at_call 28; refine class_new HSTEP.out (HR.out _))))
  refine wpQuiet_nil ?_
  rintro w9 ⟨n1, hw1⟩
  have hS := HALL.out n1
  rw [← hw1] at hS
  replace HX1 := Lib.hid ((hS.block _ (lt_of_block HX1.out)).trans HX1.out)
  replace HX2 := Lib.hid ((hS.block _ (lt_of_block HX2.out)).trans HX2.out)
  replace HX3 := Lib.hid ((hS.block _ (lt_of_block HX3.out)).trans HX3.out)
  replace HN := Lib.hid (HN.out.trans hS)
  clear HALL HSTEP hw1 hS s0 s1 s2 s3 s4 s5
  go_wp2_with fail
  refine wp_region_class (fun w' => (w'.heap[q1]? = some (.cells #[.int .u64 (W64 p1), .int .u64 (W64 p0)] 24) ∧ w'.heap[q2]? = some (.cells #[.int .u64 0, .int .u64 0] 24) ∧ w'.heap[q3]? = some (.cells #[.int .u64 0, .int .u64 0] 24)) ∧ New w9 w') (by kernel_rfl) (by kernel_rfl) ⟨⟨((New.refl w9).drew.block _ (lt_of_block HX1.out)).trans HX1.out, ((New.refl w9).drew.block _ (lt_of_block HX2.out)).trans HX2.out, ((New.refl w9).drew.block _ (lt_of_block HX3.out)).trans HX3.out⟩, (New.refl _).drew⟩ ?_
  intro I _ f hall hback
  have HSTEP : Hid (∀ n w', New (f n) w' → ∃ m, w' = f m) := Lib.hid fun n w' hn => hback w' ⟨⟨(hn.block _ (lt_of_block ((hall n).1.1))).trans ((hall n).1.1), (hn.block _ (lt_of_block ((hall n).1.2.1))).trans ((hall n).1.2.1), (hn.block _ (lt_of_block ((hall n).1.2.2))).trans ((hall n).1.2.2)⟩, (hall n).2.trans hn⟩
  have HALL := Lib.hid fun n => (hall n).2
  have s0 := fun n => cell_of_row _ _ 0 _ _ _ ((hall n).1.1)
  have s1 := fun n => cell_of_row _ _ 1 _ _ _ ((hall n).1.1)
  have s2 := fun n => cell_of_row _ _ 0 _ _ _ ((hall n).1.2.1)
  have s3 := fun n => cell_of_row _ _ 1 _ _ _ ((hall n).1.2.1)
  have s4 := fun n => cell_of_row _ _ 0 _ _ _ ((hall n).1.2.2)
  have s5 := fun n => cell_of_row _ _ 1 _ _ _ ((hall n).1.2.2)
  clear hall hback
  repeat (go_big_quiet_step (first
    | (go_at_call 29; refine class_new HSTEP.out (HS.out _))))
  refine wpQuiet_nil ?_
  rintro w9 ⟨n1, hw1⟩
  have hS := HALL.out n1
  rw [← hw1] at hS
  replace HX1 := Lib.hid ((hS.block _ (lt_of_block HX1.out)).trans HX1.out)
  replace HX2 := Lib.hid ((hS.block _ (lt_of_block HX2.out)).trans HX2.out)
  replace HX3 := Lib.hid ((hS.block _ (lt_of_block HX3.out)).trans HX3.out)
  replace HN := Lib.hid (HN.out.trans hS)
  clear HALL HSTEP hw1 hS s0 s1 s2 s3 s4 s5
  go_wp2
  go_ret
  exact ⟨rfl, HN.out⟩
set_option maxHeartbeats 4000000 in
theorem counts_mid (W : World) (v m : BitVec 64) (k : Nat) (p1 p0 d1 d0 s1 s0 q1w q0w u1 u0 : BitVec 64) (o1 : Int) (o2 : Bool)
    (zz : (v == m) = false) (z1 : decide (W64 m < W64 v) = false) (zq : ((d1 == q1w && d0 == q0w) || (d1 == u1 && d0 == u0)) = true)
    (H2 : Hid (∀ w : World, Calls Try.prog 22 #[.int .i64 (k : Int), .int .u64 (W64 m)] w fun e w' => e = .returned (.int .i64 0) ∧ New w w'))
    (HF : Hid (∀ w : World, Calls Try.prog 26 #[.int .u64 (W64 v), .int .i64 (k : Int), .int .u64 (W64 m)] w fun e' w' => e' = .returned (.tuple #[.agg #[.int .u64 (W64 p1), .int .u64 (W64 p0)], .int .i64 0]) ∧ New w w'))
    (HC : Hid (∀ w : World, Calls Try.prog 27 #[.int .u64 (W64 v), .int .i64 (k : Int), .int .u64 (W64 m)] w fun e' w' => e' = .returned (.tuple #[.agg #[.int .u64 (W64 d1), .int .u64 (W64 d0)], .int .i64 0]) ∧ New w w'))
    (HR : Hid (∀ w : World, Calls Try.prog 28 #[.int .u64 (W64 v), .int .i64 (k : Int), .int .u64 (W64 m)] w fun e' w' => e' = .returned (.agg #[.int .u64 (W64 p1), .int .u64 (W64 p0)]) ∧ New w w'))
    (HRC : Hid (∀ w : World, Calls Try.prog 32 #[.int .u64 (W64 v), .int .i64 (k : Int), .int .u64 (W64 m)] w fun e' w' => e' = .returned (.agg #[.int .u64 (W64 d1), .int .u64 (W64 d0)]) ∧ New w w'))
    (HS : Hid (∀ w : World, Calls Try.prog 29 #[.agg #[.int .u64 0, .int .u64 1], .int .i64 (k : Int)] w fun e' w' => e' = .returned (.agg #[.int .u64 (W64 s1), .int .u64 (W64 s0)]) ∧ New w w'))
    (HD : Hid (∀ w : World, Calls Try.prog 30 #[.agg #[.int .u64 (W64 s1), .int .u64 (W64 s0)], .int .u64 (W64 m)] w fun e' w' => e' = .returned (.tuple #[.agg #[.int .u64 (W64 q1w), .int .u64 (W64 q0w)], .int .u64 o1]) ∧ New w w'))
    (HP : Hid (∀ w : World, Calls Try.prog 31 #[.agg #[.int .u64 (W64 q1w), .int .u64 (W64 q0w)], .agg #[.int .u64 0, .int .u64 1]] w fun e' w' => e' = .returned (.tuple #[.agg #[.int .u64 (W64 u1), .int .u64 (W64 u0)], .bool o2]) ∧ New w w')) :
    Calls Try.prog 7 #[.int .u64 (W64 v), .int .i64 (k : Int), .int .u64 (W64 m)] W fun e w' => e = .returned (.bool true) ∧ Below W.heap.size W w' := by
  have HA := Lib.hid awake_26
  have HN := Lib.hid (New.refl W)
  have heq := equ128
  go_enter Try.func7, Try.ntmps7
  go_wp2_with fail
  refine (HA.out _).mono ?_
  rintro e w9 ⟨rfl, hn⟩
  replace HN := Lib.hid (HN.out.trans hn)
  clear hn
  go_wp2_with fail
  refine (HF.out _).mono ?_
  rintro e w9 ⟨rfl, hn⟩
  replace HN := Lib.hid (HN.out.trans hn)
  clear hn
  have hx := heap_alloc_new w9 (.cells #[.int .u64 (W64 p1), .int .u64 (W64 p0)] 24)
  have hn2 := (New.refl w9).alloc (.cells #[.int .u64 (W64 p1), .int .u64 (W64 p0)] 24)
  obtain ⟨wb1, hw2⟩ : ∃ w2, w9.alloc (.cells #[.int .u64 (W64 p1), .int .u64 (W64 p0)] 24) = w2 := ⟨_, rfl⟩
  rw [hw2] at hx hn2
  obtain ⟨q1, hq⟩ : ∃ q, w9.heap.size = q := ⟨_, rfl⟩
  rw [hq] at hx
  have HX1 := Lib.hid hx
  replace HN := Lib.hid (HN.out.trans hn2)
  have HM1 := Lib.hid hn2
  have HE1 := Lib.hid (show w9.alloc (.cells #[.int .u64 (W64 p1), .int .u64 (W64 p0)] 24) = wb1 ∧ w9.heap.size = q1 from ⟨hw2, hq⟩)
  clear hx hn2 hw2 hq
  go_wp2_with fail
  rw [HE1.out.1, HE1.out.2]
  refine (HC.out _).mono ?_
  rintro e w9 ⟨rfl, hn⟩
  replace HN := Lib.hid (HN.out.trans hn)
  replace HX1 := Lib.hid ((hn.block _ (lt_of_block HX1.out)).trans HX1.out)
  clear hn
  have hx := heap_alloc_new w9 (.cells #[.int .u64 (W64 d1), .int .u64 (W64 d0)] 24)
  have hn2 := (New.refl w9).alloc (.cells #[.int .u64 (W64 d1), .int .u64 (W64 d0)] 24)
  obtain ⟨wb2, hw2⟩ : ∃ w2, w9.alloc (.cells #[.int .u64 (W64 d1), .int .u64 (W64 d0)] 24) = w2 := ⟨_, rfl⟩
  rw [hw2] at hx hn2
  obtain ⟨q2, hq⟩ : ∃ q, w9.heap.size = q := ⟨_, rfl⟩
  rw [hq] at hx
  have HX2 := Lib.hid hx
  replace HN := Lib.hid (HN.out.trans hn2)
  have HM2 := Lib.hid hn2
  have HE2 := Lib.hid (show w9.alloc (.cells #[.int .u64 (W64 d1), .int .u64 (W64 d0)] 24) = wb2 ∧ w9.heap.size = q2 from ⟨hw2, hq⟩)
  clear hx hn2 hw2 hq
  replace HX1 := Lib.hid ((HM2.out.block _ (lt_of_block HX1.out)).trans HX1.out)
  have hx := heap_alloc_new wb2 (.cells #[.int .u64 0, .int .u64 0] 24)
  have hn2 := (New.refl wb2).alloc (.cells #[.int .u64 0, .int .u64 0] 24)
  obtain ⟨wb3, hw2⟩ : ∃ w2, wb2.alloc (.cells #[.int .u64 0, .int .u64 0] 24) = w2 := ⟨_, rfl⟩
  rw [hw2] at hx hn2
  obtain ⟨q3, hq⟩ : ∃ q, wb2.heap.size = q := ⟨_, rfl⟩
  rw [hq] at hx
  have HX3 := Lib.hid hx
  replace HN := Lib.hid (HN.out.trans hn2)
  have HM3 := Lib.hid hn2
  have HE3 := Lib.hid (show wb2.alloc (.cells #[.int .u64 0, .int .u64 0] 24) = wb3 ∧ wb2.heap.size = q3 from ⟨hw2, hq⟩)
  clear hx hn2 hw2 hq
  replace HX1 := Lib.hid ((HM3.out.block _ (lt_of_block HX1.out)).trans HX1.out)
  replace HX2 := Lib.hid ((HM3.out.block _ (lt_of_block HX2.out)).trans HX2.out)
  have hq3 : q2 + 1 = q3 := by rw [← HE3.out.2, ← HE2.out.1, ← HE2.out.2]; simp
  go_wp2_with fail
  rw [HE2.out.1, HE2.out.2, HE3.out.1, hq3]
  refine (H2.out _).mono ?_
  rintro e w9 ⟨rfl, hn⟩
  replace HN := Lib.hid (HN.out.trans hn)
  replace HX1 := Lib.hid ((hn.block _ (lt_of_block HX1.out)).trans HX1.out)
  replace HX2 := Lib.hid ((hn.block _ (lt_of_block HX2.out)).trans HX2.out)
  replace HX3 := Lib.hid ((hn.block _ (lt_of_block HX3.out)).trans HX3.out)
  clear hn
  have x0 := cell_of_row _ _ 0 _ _ _ HX1.out
  have x1 := cell_of_row _ _ 1 _ _ _ HX1.out
  have y0 := cell_of_row _ _ 0 _ _ _ HX2.out
  have y1 := cell_of_row _ _ 1 _ _ _ HX2.out
  have o0 := cell_of_row _ _ 0 _ _ _ HX3.out
  have o1 := cell_of_row _ _ 1 _ _ _ HX3.out
  go_wp2_with fail
  clear x0 x1 y0 y1 o0 o1
  refine wp_region_class (fun w' => (w'.heap[q1]? = some (.cells #[.int .u64 (W64 p1), .int .u64 (W64 p0)] 24) ∧ w'.heap[q2]? = some (.cells #[.int .u64 (W64 d1), .int .u64 (W64 d0)] 24) ∧ w'.heap[q3]? = some (.cells #[.int .u64 0, .int .u64 0] 24)) ∧ New w9 w') (by kernel_rfl) (by kernel_rfl) ⟨⟨((New.refl w9).drew.block _ (lt_of_block HX1.out)).trans HX1.out, ((New.refl w9).drew.block _ (lt_of_block HX2.out)).trans HX2.out, ((New.refl w9).drew.block _ (lt_of_block HX3.out)).trans HX3.out⟩, (New.refl _).drew⟩ ?_
  intro I _ f hall hback
  have HSTEP : Hid (∀ n w', New (f n) w' → ∃ m, w' = f m) := Lib.hid fun n w' hn => hback w' ⟨⟨(hn.block _ (lt_of_block ((hall n).1.1))).trans ((hall n).1.1), (hn.block _ (lt_of_block ((hall n).1.2.1))).trans ((hall n).1.2.1), (hn.block _ (lt_of_block ((hall n).1.2.2))).trans ((hall n).1.2.2)⟩, (hall n).2.trans hn⟩
  have HALL := Lib.hid fun n => (hall n).2
  have s0 := fun n => cell_of_row _ _ 0 _ _ _ ((hall n).1.1)
  have s1 := fun n => cell_of_row _ _ 1 _ _ _ ((hall n).1.1)
  have s2 := fun n => cell_of_row _ _ 0 _ _ _ ((hall n).1.2.1)
  have s3 := fun n => cell_of_row _ _ 1 _ _ _ ((hall n).1.2.1)
  have s4 := fun n => cell_of_row _ _ 0 _ _ _ ((hall n).1.2.2)
  have s5 := fun n => cell_of_row _ _ 1 _ _ _ ((hall n).1.2.2)
  clear hall hback
  repeat (go_big_quiet_step (first
    | (go_at_call 28; refine class_new HSTEP.out (HR.out _))))
  refine wpQuiet_nil ?_
  rintro w9 ⟨n1, hw1⟩
  have hS := HALL.out n1
  rw [← hw1] at hS
  replace HX1 := Lib.hid ((hS.block _ (lt_of_block HX1.out)).trans HX1.out)
  replace HX2 := Lib.hid ((hS.block _ (lt_of_block HX2.out)).trans HX2.out)
  replace HX3 := Lib.hid ((hS.block _ (lt_of_block HX3.out)).trans HX3.out)
  replace HN := Lib.hid (HN.out.trans hS)
  clear HALL HSTEP hw1 hS s0 s1 s2 s3 s4 s5
  go_wp2_with fail
  refine (HS.out _).mono ?_
  rintro e w9 ⟨rfl, hn⟩
  replace HN := Lib.hid (HN.out.trans hn)
  replace HX2 := Lib.hid ((hn.block _ (lt_of_block HX2.out)).trans HX2.out)
  clear hn
  go_wp2_with fail
  refine (HD.out _).mono ?_
  rintro e w9 ⟨rfl, hn⟩
  replace HN := Lib.hid (HN.out.trans hn)
  replace HX2 := Lib.hid ((hn.block _ (lt_of_block HX2.out)).trans HX2.out)
  clear hn
  have hx := heap_alloc_new w9 (.cells #[.int .u64 (W64 q1w), .int .u64 (W64 q0w)] 24)
  have hn2 := (New.refl w9).alloc (.cells #[.int .u64 (W64 q1w), .int .u64 (W64 q0w)] 24)
  obtain ⟨wb4, hw2⟩ : ∃ w2, w9.alloc (.cells #[.int .u64 (W64 q1w), .int .u64 (W64 q0w)] 24) = w2 := ⟨_, rfl⟩
  rw [hw2] at hx hn2
  obtain ⟨q4, hq⟩ : ∃ q, w9.heap.size = q := ⟨_, rfl⟩
  rw [hq] at hx
  have HX4 := Lib.hid hx
  replace HN := Lib.hid (HN.out.trans hn2)
  have HM4 := Lib.hid hn2
  have HE4 := Lib.hid (show w9.alloc (.cells #[.int .u64 (W64 q1w), .int .u64 (W64 q0w)] 24) = wb4 ∧ w9.heap.size = q4 from ⟨hw2, hq⟩)
  clear hx hn2 hw2 hq
  replace HX2 := Lib.hid ((HM4.out.block _ (lt_of_block HX2.out)).trans HX2.out)
  have x0 := cell_of_row _ _ 0 _ _ _ HX4.out
  have x1 := cell_of_row _ _ 1 _ _ _ HX4.out
  go_wp2_with (rw [HE4.out.1, HE4.out.2])
  refine (HP.out _).mono ?_
  rintro e w9 ⟨rfl, hn⟩
  replace HN := Lib.hid (HN.out.trans hn)
  replace HX2 := Lib.hid ((hn.block _ (lt_of_block HX2.out)).trans HX2.out)
  replace HX4 := Lib.hid ((hn.block _ (lt_of_block HX4.out)).trans HX4.out)
  clear hn x0 x1
  have hx := heap_alloc_new w9 (.cells #[.int .u64 (W64 u1), .int .u64 (W64 u0)] 24)
  have hn2 := (New.refl w9).alloc (.cells #[.int .u64 (W64 u1), .int .u64 (W64 u0)] 24)
  obtain ⟨wb5, hw2⟩ : ∃ w2, w9.alloc (.cells #[.int .u64 (W64 u1), .int .u64 (W64 u0)] 24) = w2 := ⟨_, rfl⟩
  rw [hw2] at hx hn2
  obtain ⟨q5, hq⟩ : ∃ q, w9.heap.size = q := ⟨_, rfl⟩
  rw [hq] at hx
  have HX5 := Lib.hid hx
  replace HN := Lib.hid (HN.out.trans hn2)
  have HM5 := Lib.hid hn2
  have HE5 := Lib.hid (show w9.alloc (.cells #[.int .u64 (W64 u1), .int .u64 (W64 u0)] 24) = wb5 ∧ w9.heap.size = q5 from ⟨hw2, hq⟩)
  clear hx hn2 hw2 hq
  replace HX2 := Lib.hid ((HM5.out.block _ (lt_of_block HX2.out)).trans HX2.out)
  replace HX4 := Lib.hid ((HM5.out.block _ (lt_of_block HX4.out)).trans HX4.out)
  cases hqq : (d1 == q1w && d0 == q0w)
  · rw [hqq, Bool.false_or] at zq
    go_wp2_with (rw [HE5.out.1, HE5.out.2])
    refine wp_region_class (fun w' => (w'.heap[q2]? = some (.cells #[.int .u64 (W64 d1), .int .u64 (W64 d0)] 24) ∧ w'.heap[q4]? = some (.cells #[.int .u64 (W64 q1w), .int .u64 (W64 q0w)] 24) ∧ w'.heap[q5]? = some (.cells #[.int .u64 (W64 u1), .int .u64 (W64 u0)] 24)) ∧ New wb5 w') (by kernel_rfl) (by kernel_rfl) ⟨⟨((New.refl wb5).drew.block _ (lt_of_block HX2.out)).trans HX2.out, ((New.refl wb5).drew.block _ (lt_of_block HX4.out)).trans HX4.out, ((New.refl wb5).drew.block _ (lt_of_block HX5.out)).trans HX5.out⟩, (New.refl _).drew⟩ ?_
    intro I _ f hall hback
    have HSTEP : Hid (∀ n w', New (f n) w' → ∃ m, w' = f m) := Lib.hid fun n w' hn => hback w' ⟨⟨(hn.block _ (lt_of_block ((hall n).1.1))).trans ((hall n).1.1), (hn.block _ (lt_of_block ((hall n).1.2.1))).trans ((hall n).1.2.1), (hn.block _ (lt_of_block ((hall n).1.2.2))).trans ((hall n).1.2.2)⟩, (hall n).2.trans hn⟩
    have HALL := Lib.hid fun n => (hall n).2
    have s0 := fun n => cell_of_row _ _ 0 _ _ _ ((hall n).1.1)
    have s1 := fun n => cell_of_row _ _ 1 _ _ _ ((hall n).1.1)
    have s2 := fun n => cell_of_row _ _ 0 _ _ _ ((hall n).1.2.1)
    have s3 := fun n => cell_of_row _ _ 1 _ _ _ ((hall n).1.2.1)
    have s4 := fun n => cell_of_row _ _ 0 _ _ _ ((hall n).1.2.2)
    have s5 := fun n => cell_of_row _ _ 1 _ _ _ ((hall n).1.2.2)
    clear hall hback
    repeat (go_big_quiet_step (first
      | (go_at_call 32; refine class_new HSTEP.out (HRC.out _))))
    refine wpQuiet_nil ?_
    rintro w9 ⟨n1, hw1⟩
    have hS := HALL.out n1
    rw [← hw1] at hS
    replace HX2 := Lib.hid ((hS.block _ (lt_of_block HX2.out)).trans HX2.out)
    replace HX4 := Lib.hid ((hS.block _ (lt_of_block HX4.out)).trans HX4.out)
    replace HX5 := Lib.hid ((hS.block _ (lt_of_block HX5.out)).trans HX5.out)
    replace HN := Lib.hid (HN.out.trans hS)
    clear HALL HSTEP hw1 hS s0 s1 s2 s3 s4 s5
    go_wp2
    go_ret
    exact ⟨rfl, HN.out⟩
  · clear zq
    go_wp2_with (rw [HE5.out.1, HE5.out.2])
    refine wp_region_class (fun w' => (w'.heap[q2]? = some (.cells #[.int .u64 (W64 d1), .int .u64 (W64 d0)] 24) ∧ w'.heap[q4]? = some (.cells #[.int .u64 (W64 q1w), .int .u64 (W64 q0w)] 24) ∧ w'.heap[q5]? = some (.cells #[.int .u64 (W64 u1), .int .u64 (W64 u0)] 24)) ∧ New wb5 w') (by kernel_rfl) (by kernel_rfl) ⟨⟨((New.refl wb5).drew.block _ (lt_of_block HX2.out)).trans HX2.out, ((New.refl wb5).drew.block _ (lt_of_block HX4.out)).trans HX4.out, ((New.refl wb5).drew.block _ (lt_of_block HX5.out)).trans HX5.out⟩, (New.refl _).drew⟩ ?_
    intro I _ f hall hback
    have HSTEP : Hid (∀ n w', New (f n) w' → ∃ m, w' = f m) := Lib.hid fun n w' hn => hback w' ⟨⟨(hn.block _ (lt_of_block ((hall n).1.1))).trans ((hall n).1.1), (hn.block _ (lt_of_block ((hall n).1.2.1))).trans ((hall n).1.2.1), (hn.block _ (lt_of_block ((hall n).1.2.2))).trans ((hall n).1.2.2)⟩, (hall n).2.trans hn⟩
    have HALL := Lib.hid fun n => (hall n).2
    have s0 := fun n => cell_of_row _ _ 0 _ _ _ ((hall n).1.1)
    have s1 := fun n => cell_of_row _ _ 1 _ _ _ ((hall n).1.1)
    have s2 := fun n => cell_of_row _ _ 0 _ _ _ ((hall n).1.2.1)
    have s3 := fun n => cell_of_row _ _ 1 _ _ _ ((hall n).1.2.1)
    have s4 := fun n => cell_of_row _ _ 0 _ _ _ ((hall n).1.2.2)
    have s5 := fun n => cell_of_row _ _ 1 _ _ _ ((hall n).1.2.2)
    clear hall hback
    repeat (go_big_quiet_step (first
      | (go_at_call 32; refine class_new HSTEP.out (HRC.out _))))
    refine wpQuiet_nil ?_
    rintro w9 ⟨n1, hw1⟩
    have hS := HALL.out n1
    rw [← hw1] at hS
    replace HX2 := Lib.hid ((hS.block _ (lt_of_block HX2.out)).trans HX2.out)
    replace HX4 := Lib.hid ((hS.block _ (lt_of_block HX4.out)).trans HX4.out)
    replace HX5 := Lib.hid ((hS.block _ (lt_of_block HX5.out)).trans HX5.out)
    replace HN := Lib.hid (HN.out.trans hS)
    clear HALL HSTEP hw1 hS s0 s1 s2 s3 s4 s5
    go_wp2
    go_ret
    exact ⟨rfl, HN.out⟩
theorem RangesCounts_walk (W : World) (a0 : Int) (w0 : (Lit.int .u64 a0).wf = true) (a1 : Int) (w1 : (Lit.int .i64 a1).wf = true) (a2 : Int) (w2 : (Lit.int .u64 a2).wf = true) :
    Calls Try.prog 7 #[.int .u64 a0, .int .i64 a1, .int .u64 a2] W fun e w' => e = .returned (.bool true) ∧ Below W.heap.size W w' := by
  obtain ⟨v, rfl⟩ := ex64 a0 (by simp [Lit.wf, IntKind.min, IntKind.max, IntKind.signed, IntKind.bits] at w0; omega)
  obtain ⟨m, rfl⟩ := ex64 a2 (by simp [Lit.wf, IntKind.min, IntKind.max, IntKind.signed, IntKind.bits] at w2; omega)
  clear w0 w1 w2
  have H2 := Lib.hid (rcheck_r a1 m)
  by_cases hc : chkR a1 m = 0
  · obtain ⟨k, rfl, hk, hm⟩ := chk_good hc
    rw [hc] at H2
    rcases Nat.lt_trichotomy v.toNat m.toNat with hv | hv | hv
    · have h1 := shl_n 1 k (by omega) (by omega)
      rw [hi_one, lo_one, Nat.one_mul] at h1
      have hp2 : 2 ^ k < 2 ^ 128 := (Nat.pow_lt_pow_iff_right (by omega)).2 (by omega)
      have hq : 2 ^ k / m.toNat < 2 ^ 127 := by have := Nat.div_le_self (2 ^ k) m.toNat; have := pow_le hk; omega
      have h2 := div_n (2 ^ k) hp2 m hm
      have h3 := add_n (2 ^ k / m.toNat) 1 (by omega) (by omega)
      rw [hi_one, lo_one] at h3
      refine counts_mid W v m k _ _ _ _ _ _ _ _ _ _ _ _ ?_ ?_ ?_ H2 (Lib.hid (first_ok v m k hk hm hc (by omega))) (Lib.hid (count_ok v m k hk hm hc hv)) (Lib.hid (rfirst_r v m k hk hm)) (Lib.hid (rcount_r v m k hk hm hv)) (Lib.hid h1) (Lib.hid h2) (Lib.hid h3)
      · rw [beq_eq_false_iff_ne]; rintro rfl; omega
      · rw [decide_eq_false_iff_not]; unfold W64; omega
      · rcases cnt_near v m k hm hv with h | h
        · rw [h]; simp
        · rw [h]; simp
    · obtain rfl : v = m := BitVec.eq_of_toNat_eq hv
      have h1 := shl_n 1 k (by omega) (by omega)
      rw [hi_one, lo_one, Nat.one_mul] at h1
      have h2 := first_ok v v k hk hm hc (Nat.le_refl _)
      have h3 := rfirst_r v v k hk hm
      rw [frst_top v k hm] at h2 h3
      exact counts_top W v k _ _ H2 (Lib.hid h2) (Lib.hid (count_no v v k hc (Nat.le_refl _))) (Lib.hid h3) (Lib.hid h1)
    · exact counts_bad W v m k 0 2 2 (Or.inr ⟨rfl, by rw [decide_eq_true_eq]; unfold W64; omega, rfl, rfl⟩) H2 (Lib.hid (first_no v m k hc hv)) (Lib.hid (count_no v m k hc (by omega)))
  · have z1 : (chkR a1 m == 0) = false := beq_false_of_ne hc
    exact counts_bad W v m a1 _ _ _ (Or.inl ⟨z1, rfl, rfl⟩) H2 (Lib.hid (first_bad v m a1 z1)) (Lib.hid (count_bad v m a1 z1))
end Go.Proofs.Ytobmgigmoppkkaa
