/- The document's own layer 21: Width, Few, Check, Key, Line, Eval. -/
import Derived.Test.YtfiihbknkglggaaMadD
namespace Go.Proofs.Ytfiihbknkglggaa
open Go.RowKit Go.Bv
set_option linter.unusedVariables false
theorem rwidth_add (w : World) : Calls Try.prog 11 #[.int .i64 3] w fun e w' => e = .returned (.int .i64 64) ∧ New w w' := by
  go_enter Try.func11, Try.ntmps11
  go_wp2
  go_ret
  exact ⟨rfl, New.refl _⟩
theorem rwidth_wide (w : World) : Calls Try.prog 11 #[.int .i64 4] w fun e w' => e = .returned (.int .i64 128) ∧ New w w' := by
  go_enter Try.func11, Try.ntmps11
  go_wp2
  go_ret
  exact ⟨rfl, New.refl _⟩
theorem rwidth_no (kind : Int) (h3 : (kind == 3) = false) (h4 : (kind == 4) = false) (w : World) : Calls Try.prog 11 #[.int .i64 kind] w fun e w' => e = .returned (.int .i64 0) ∧ New w w' := by
  go_enter Try.func11, Try.ntmps11
  go_wp2
  go_ret
  exact ⟨rfl, New.refl _⟩
set_option maxHeartbeats 1000000 in
theorem few_a (A n : Nat) (hA : A < 2 ^ 128) (w : World) : Calls Try.prog 15 #[.agg #[.int .u64 (W64 (hiN (A))), .int .u64 (W64 (loN (A)))], .int .i64 (n : Int)] w fun e w' => e = .returned (.bool (decide (A < 2 ^ n))) ∧ New w w' := by
  have hl := lenR_le A 128 n hA
  have hd : decide (lenN A 128 ≤ n) = decide (A < 2 ^ n) := by rw [decide_eq_decide]; exact hl
  rw [← hd]
  have ho := of2_own (hiN A) (loN A)
  rw [two_n hA] at ho
  have HO := Lib.hid ho
  have HL := Lib.hid (fun c a w hz => blen_any A 128 c a w hz)
  clear hl hd hA ho
  generalize lenN A 128 = s at *
  have hx := heap_alloc_new w (.cells #[.int .u64 (W64 (hiN (A))), .int .u64 (W64 (loN (A)))] 24)
  have HN := Lib.hid ((New.refl w).alloc (.cells #[.int .u64 (W64 (hiN (A))), .int .u64 (W64 (loN (A)))] 24))
  obtain ⟨w0, hw0⟩ : ∃ w0, w.alloc (.cells #[.int .u64 (W64 (hiN (A))), .int .u64 (W64 (loN (A)))] 24) = w0 := ⟨_, rfl⟩
  rw [hw0] at HN hx
  have HW0 := Lib.hid hw0
  have x0 := cell_of_row _ _ 0 _ _ _ hx
  have x1 := cell_of_row _ _ 1 _ _ _ hx
  clear hw0 hx
  go_enter Try.func15, Try.ntmps15
  go_wp2_with (rw [HW0.out])
  refine (HO.out _).mono ?_
  rintro e w1 ⟨v1, rfl, hown, hn⟩
  obtain ⟨a1, c1, rfl, hz⟩ := bits_row hown (by omega)
  have HN1 := Lib.hid (HN.out.trans hn)
  have HZ1 := Lib.hid hz
  clear hown hz hn x0 x1
  go_wp2_with fail
  refine (HL.out _ _ _ HZ1.out).mono ?_
  rintro e w2 ⟨rfl, rfl⟩
  go_wp2
  go_ret
  exact ⟨rfl, HN1.out⟩
theorem key_a (x : BitVec 64) (wd kd : Nat) (kind : Int) (hq : (wd : Int).tdiv 2 = (kd : Int)) (hk : kd ≤ 64) (HRW : Hid (∀ w : World, Calls Try.prog 11 #[.int .i64 kind] w fun e w' => e = .returned (.int .i64 (wd : Int)) ∧ New w w')) (w : World) : Calls Try.prog 12 #[.int .i64 kind, .int .u64 (W64 x)] w fun e w' => e = .returned (.bool (x >>> kd == 0#64)) ∧ New w w' := by
  have hf := few_a x.toNat kd (by have := x.isLt; omega)
  rw [hi_word, lo_word, ← shr_none] at hf
  have HF := Lib.hid hf
  have HN := Lib.hid (New.refl w)
  have hq2 : wrap64 (kd : Int) = (kd : Int) := by unfold wrap64; omega
  clear hf hk
  go_enter Try.func12, Try.ntmps12
  go_wp2_with fail
  refine (HRW.out _).mono ?_
  rintro e w9 ⟨rfl, hn⟩
  replace HN := Lib.hid (HN.out.trans hn)
  clear hn
  go_wp2_with fail
  refine (HF.out _).mono ?_
  rintro e w9 ⟨rfl, hn⟩
  replace HN := Lib.hid (HN.out.trans hn)
  clear hn
  go_wp2
  go_ret
  exact ⟨rfl, HN.out⟩
set_option maxHeartbeats 1000000 in
theorem rcheck_kind (A B wd kd : Nat) (hA : A < 2 ^ 128) (hB : B < 2 ^ 128) (hwd : 1 ≤ wd) (hk : kd ≤ 64) (kind bits : Int) (hq : (wd : Int).tdiv 2 = (kd : Int))  (HRW : Hid (∀ w : World, Calls Try.prog 11 #[.int .i64 kind] w fun e w' => e = .returned (.int .i64 0) ∧ New w w')) (w : World) : Calls Try.prog 8 #[.int .i64 kind, .int .i64 bits, .agg #[.int .u64 (W64 (hiN (A))), .int .u64 (W64 (loN (A)))], .agg #[.int .u64 (W64 (hiN (B))), .int .u64 (W64 (loN (B)))]] w fun e w' => e = .returned (.int .i64 6) ∧ New w w' := by
  have C1 := Lib.hid (few_a A wd hA)
  have C2 := Lib.hid (few_a B wd hB)
  have z0 : ((wd : Int) == 0) = false := by rw [beq_eq_false_iff_ne]; omega
  have z00 : ¬ wd = 0 := by omega
  have hq2 : wrap64 (kd : Int) = (kd : Int) := by unfold wrap64; omega
  clear hA hB hwd hk
  obtain ⟨hbl, HNN⟩ := boxes2 w (.cells #[.int .u64 (W64 (hiN (A))), .int .u64 (W64 (loN (A)))] 24) (.cells #[.int .u64 (W64 (hiN (B))), .int .u64 (W64 (loN (B)))] 24)
  obtain ⟨hb0, hb1⟩ := hbl
  have HN := Lib.hid HNN
  obtain ⟨w0, hw0⟩ : ∃ w0, (((w.alloc (.cells #[.int .u64 (W64 (hiN (A))), .int .u64 (W64 (loN (A)))] 24))).alloc (.cells #[.int .u64 (W64 (hiN (B))), .int .u64 (W64 (loN (B)))] 24)) = w0 := ⟨_, rfl⟩
  rw [hw0] at HN hb0 hb1
  have HW0 := Lib.hid hw0
  have HB0 := Lib.hid hb0
  have HB1 := Lib.hid hb1
  clear hw0 HNN hb0 hb1
  go_enter Try.func8, Try.ntmps8
  go_wp2_with (rw [HW0.out])
  refine (HRW.out _).mono ?_
  rintro e w9 ⟨rfl, hn⟩
  replace HN := Lib.hid (HN.out.trans hn)
  replace HB0 := Lib.hid ((hn.block _ (lt_of_block HB0.out)).trans HB0.out)
  replace HB1 := Lib.hid ((hn.block _ (lt_of_block HB1.out)).trans HB1.out)
  clear hn
  have x0 := cell_of_row _ _ 0 _ _ _ HB0.out
  have x1 := cell_of_row _ _ 1 _ _ _ HB0.out
  have y0 := cell_of_row _ _ 0 _ _ _ HB1.out
  have y1 := cell_of_row _ _ 1 _ _ _ HB1.out
  go_wp2
  go_ret
  exact ⟨rfl, HN.out⟩
set_option maxHeartbeats 1000000 in
theorem rcheck_low (A B wd kd : Nat) (hA : A < 2 ^ 128) (hB : B < 2 ^ 128) (hwd : 1 ≤ wd) (hk : kd ≤ 64) (kind bits : Int) (hq : (wd : Int).tdiv 2 = (kd : Int)) (hb : bits < 1) (HRW : Hid (∀ w : World, Calls Try.prog 11 #[.int .i64 kind] w fun e w' => e = .returned (.int .i64 (wd : Int)) ∧ New w w')) (w : World) : Calls Try.prog 8 #[.int .i64 kind, .int .i64 bits, .agg #[.int .u64 (W64 (hiN (A))), .int .u64 (W64 (loN (A)))], .agg #[.int .u64 (W64 (hiN (B))), .int .u64 (W64 (loN (B)))]] w fun e w' => e = .returned (.int .i64 1) ∧ New w w' := by
  have C1 := Lib.hid (few_a A wd hA)
  have C2 := Lib.hid (few_a B wd hB)
  have z0 : ((wd : Int) == 0) = false := by rw [beq_eq_false_iff_ne]; omega
  have z00 : ¬ wd = 0 := by omega
  have hq2 : wrap64 (kd : Int) = (kd : Int) := by unfold wrap64; omega
  clear hA hB hwd hk
  obtain ⟨hbl, HNN⟩ := boxes2 w (.cells #[.int .u64 (W64 (hiN (A))), .int .u64 (W64 (loN (A)))] 24) (.cells #[.int .u64 (W64 (hiN (B))), .int .u64 (W64 (loN (B)))] 24)
  obtain ⟨hb0, hb1⟩ := hbl
  have HN := Lib.hid HNN
  obtain ⟨w0, hw0⟩ : ∃ w0, (((w.alloc (.cells #[.int .u64 (W64 (hiN (A))), .int .u64 (W64 (loN (A)))] 24))).alloc (.cells #[.int .u64 (W64 (hiN (B))), .int .u64 (W64 (loN (B)))] 24)) = w0 := ⟨_, rfl⟩
  rw [hw0] at HN hb0 hb1
  have HW0 := Lib.hid hw0
  have HB0 := Lib.hid hb0
  have HB1 := Lib.hid hb1
  clear hw0 HNN hb0 hb1
  go_enter Try.func8, Try.ntmps8
  go_wp2_with (rw [HW0.out])
  refine (HRW.out _).mono ?_
  rintro e w9 ⟨rfl, hn⟩
  replace HN := Lib.hid (HN.out.trans hn)
  replace HB0 := Lib.hid ((hn.block _ (lt_of_block HB0.out)).trans HB0.out)
  replace HB1 := Lib.hid ((hn.block _ (lt_of_block HB1.out)).trans HB1.out)
  clear hn
  have x0 := cell_of_row _ _ 0 _ _ _ HB0.out
  have x1 := cell_of_row _ _ 1 _ _ _ HB0.out
  have y0 := cell_of_row _ _ 0 _ _ _ HB1.out
  have y1 := cell_of_row _ _ 1 _ _ _ HB1.out
  go_wp2
  go_ret
  exact ⟨rfl, HN.out⟩
set_option maxHeartbeats 1000000 in
theorem rcheck_high (A B wd kd : Nat) (hA : A < 2 ^ 128) (hB : B < 2 ^ 128) (hwd : 1 ≤ wd) (hk : kd ≤ 64) (kind bits : Int) (hq : (wd : Int).tdiv 2 = (kd : Int)) (hb0 : ¬ bits < 1) (hb : (kd : Int) < bits) (HRW : Hid (∀ w : World, Calls Try.prog 11 #[.int .i64 kind] w fun e w' => e = .returned (.int .i64 (wd : Int)) ∧ New w w')) (w : World) : Calls Try.prog 8 #[.int .i64 kind, .int .i64 bits, .agg #[.int .u64 (W64 (hiN (A))), .int .u64 (W64 (loN (A)))], .agg #[.int .u64 (W64 (hiN (B))), .int .u64 (W64 (loN (B)))]] w fun e w' => e = .returned (.int .i64 1) ∧ New w w' := by
  have C1 := Lib.hid (few_a A wd hA)
  have C2 := Lib.hid (few_a B wd hB)
  have z0 : ((wd : Int) == 0) = false := by rw [beq_eq_false_iff_ne]; omega
  have z00 : ¬ wd = 0 := by omega
  have hq2 : wrap64 (kd : Int) = (kd : Int) := by unfold wrap64; omega
  clear hA hB hwd hk
  obtain ⟨hbl, HNN⟩ := boxes2 w (.cells #[.int .u64 (W64 (hiN (A))), .int .u64 (W64 (loN (A)))] 24) (.cells #[.int .u64 (W64 (hiN (B))), .int .u64 (W64 (loN (B)))] 24)
  obtain ⟨hb0, hb1⟩ := hbl
  have HN := Lib.hid HNN
  obtain ⟨w0, hw0⟩ : ∃ w0, (((w.alloc (.cells #[.int .u64 (W64 (hiN (A))), .int .u64 (W64 (loN (A)))] 24))).alloc (.cells #[.int .u64 (W64 (hiN (B))), .int .u64 (W64 (loN (B)))] 24)) = w0 := ⟨_, rfl⟩
  rw [hw0] at HN hb0 hb1
  have HW0 := Lib.hid hw0
  have HB0 := Lib.hid hb0
  have HB1 := Lib.hid hb1
  clear hw0 HNN hb0 hb1
  go_enter Try.func8, Try.ntmps8
  go_wp2_with (rw [HW0.out])
  refine (HRW.out _).mono ?_
  rintro e w9 ⟨rfl, hn⟩
  replace HN := Lib.hid (HN.out.trans hn)
  replace HB0 := Lib.hid ((hn.block _ (lt_of_block HB0.out)).trans HB0.out)
  replace HB1 := Lib.hid ((hn.block _ (lt_of_block HB1.out)).trans HB1.out)
  clear hn
  have x0 := cell_of_row _ _ 0 _ _ _ HB0.out
  have x1 := cell_of_row _ _ 1 _ _ _ HB0.out
  have y0 := cell_of_row _ _ 0 _ _ _ HB1.out
  have y1 := cell_of_row _ _ 1 _ _ _ HB1.out
  go_wp2
  go_ret
  exact ⟨rfl, HN.out⟩
set_option maxHeartbeats 1000000 in
theorem rcheck_a (A B wd kd : Nat) (hA : A < 2 ^ 128) (hB : B < 2 ^ 128) (hwd : 1 ≤ wd) (hk : kd ≤ 64) (kind bits : Int) (hq : (wd : Int).tdiv 2 = (kd : Int)) (hb0 : 1 ≤ bits) (hb : bits ≤ (kd : Int)) (hlt : ¬ A < 2 ^ wd) (HRW : Hid (∀ w : World, Calls Try.prog 11 #[.int .i64 kind] w fun e w' => e = .returned (.int .i64 (wd : Int)) ∧ New w w')) (w : World) : Calls Try.prog 8 #[.int .i64 kind, .int .i64 bits, .agg #[.int .u64 (W64 (hiN (A))), .int .u64 (W64 (loN (A)))], .agg #[.int .u64 (W64 (hiN (B))), .int .u64 (W64 (loN (B)))]] w fun e w' => e = .returned (.int .i64 13) ∧ New w w' := by
  have C1 := Lib.hid (few_a A wd hA)
  have C2 := Lib.hid (few_a B wd hB)
  have z0 : ((wd : Int) == 0) = false := by rw [beq_eq_false_iff_ne]; omega
  have z00 : ¬ wd = 0 := by omega
  have hq2 : wrap64 (kd : Int) = (kd : Int) := by unfold wrap64; omega
  rw [decide_eq_false hlt] at C1
  have b1 : ¬ bits < 1 := by omega
  have b2 : ¬ (kd : Int) < bits := by omega
  clear hA hB hwd hk hlt
  obtain ⟨hbl, HNN⟩ := boxes2 w (.cells #[.int .u64 (W64 (hiN (A))), .int .u64 (W64 (loN (A)))] 24) (.cells #[.int .u64 (W64 (hiN (B))), .int .u64 (W64 (loN (B)))] 24)
  obtain ⟨hb0, hb1⟩ := hbl
  have HN := Lib.hid HNN
  obtain ⟨w0, hw0⟩ : ∃ w0, (((w.alloc (.cells #[.int .u64 (W64 (hiN (A))), .int .u64 (W64 (loN (A)))] 24))).alloc (.cells #[.int .u64 (W64 (hiN (B))), .int .u64 (W64 (loN (B)))] 24)) = w0 := ⟨_, rfl⟩
  rw [hw0] at HN hb0 hb1
  have HW0 := Lib.hid hw0
  have HB0 := Lib.hid hb0
  have HB1 := Lib.hid hb1
  clear hw0 HNN hb0 hb1
  go_enter Try.func8, Try.ntmps8
  go_wp2_with (rw [HW0.out])
  refine (HRW.out _).mono ?_
  rintro e w9 ⟨rfl, hn⟩
  replace HN := Lib.hid (HN.out.trans hn)
  replace HB0 := Lib.hid ((hn.block _ (lt_of_block HB0.out)).trans HB0.out)
  replace HB1 := Lib.hid ((hn.block _ (lt_of_block HB1.out)).trans HB1.out)
  clear hn
  have x0 := cell_of_row _ _ 0 _ _ _ HB0.out
  have x1 := cell_of_row _ _ 1 _ _ _ HB0.out
  have y0 := cell_of_row _ _ 0 _ _ _ HB1.out
  have y1 := cell_of_row _ _ 1 _ _ _ HB1.out
  go_wp2_with fail
  refine (C1.out _).mono ?_
  rintro e w9 ⟨rfl, hn⟩
  replace HN := Lib.hid (HN.out.trans hn)
  replace HB0 := Lib.hid ((hn.block _ (lt_of_block HB0.out)).trans HB0.out)
  replace HB1 := Lib.hid ((hn.block _ (lt_of_block HB1.out)).trans HB1.out)
  clear hn x0 x1 y0 y1
  have x0 := cell_of_row _ _ 0 _ _ _ HB0.out
  have x1 := cell_of_row _ _ 1 _ _ _ HB0.out
  have y0 := cell_of_row _ _ 0 _ _ _ HB1.out
  have y1 := cell_of_row _ _ 1 _ _ _ HB1.out
  go_wp2
  go_ret
  exact ⟨rfl, HN.out⟩
set_option maxHeartbeats 1000000 in
theorem rcheck_b (A B wd kd : Nat) (hA : A < 2 ^ 128) (hB : B < 2 ^ 128) (hwd : 1 ≤ wd) (hk : kd ≤ 64) (kind bits : Int) (hq : (wd : Int).tdiv 2 = (kd : Int)) (hb0 : 1 ≤ bits) (hb : bits ≤ (kd : Int)) (hlt : A < 2 ^ wd) (hlt2 : ¬ B < 2 ^ wd) (HRW : Hid (∀ w : World, Calls Try.prog 11 #[.int .i64 kind] w fun e w' => e = .returned (.int .i64 (wd : Int)) ∧ New w w')) (w : World) : Calls Try.prog 8 #[.int .i64 kind, .int .i64 bits, .agg #[.int .u64 (W64 (hiN (A))), .int .u64 (W64 (loN (A)))], .agg #[.int .u64 (W64 (hiN (B))), .int .u64 (W64 (loN (B)))]] w fun e w' => e = .returned (.int .i64 13) ∧ New w w' := by
  have C1 := Lib.hid (few_a A wd hA)
  have C2 := Lib.hid (few_a B wd hB)
  have z0 : ((wd : Int) == 0) = false := by rw [beq_eq_false_iff_ne]; omega
  have z00 : ¬ wd = 0 := by omega
  have hq2 : wrap64 (kd : Int) = (kd : Int) := by unfold wrap64; omega
  rw [decide_eq_true hlt] at C1
  rw [decide_eq_false hlt2] at C2
  have b1 : ¬ bits < 1 := by omega
  have b2 : ¬ (kd : Int) < bits := by omega
  clear hA hB hwd hk hlt hlt2
  obtain ⟨hbl, HNN⟩ := boxes2 w (.cells #[.int .u64 (W64 (hiN (A))), .int .u64 (W64 (loN (A)))] 24) (.cells #[.int .u64 (W64 (hiN (B))), .int .u64 (W64 (loN (B)))] 24)
  obtain ⟨hb0, hb1⟩ := hbl
  have HN := Lib.hid HNN
  obtain ⟨w0, hw0⟩ : ∃ w0, (((w.alloc (.cells #[.int .u64 (W64 (hiN (A))), .int .u64 (W64 (loN (A)))] 24))).alloc (.cells #[.int .u64 (W64 (hiN (B))), .int .u64 (W64 (loN (B)))] 24)) = w0 := ⟨_, rfl⟩
  rw [hw0] at HN hb0 hb1
  have HW0 := Lib.hid hw0
  have HB0 := Lib.hid hb0
  have HB1 := Lib.hid hb1
  clear hw0 HNN hb0 hb1
  go_enter Try.func8, Try.ntmps8
  go_wp2_with (rw [HW0.out])
  refine (HRW.out _).mono ?_
  rintro e w9 ⟨rfl, hn⟩
  replace HN := Lib.hid (HN.out.trans hn)
  replace HB0 := Lib.hid ((hn.block _ (lt_of_block HB0.out)).trans HB0.out)
  replace HB1 := Lib.hid ((hn.block _ (lt_of_block HB1.out)).trans HB1.out)
  clear hn
  have x0 := cell_of_row _ _ 0 _ _ _ HB0.out
  have x1 := cell_of_row _ _ 1 _ _ _ HB0.out
  have y0 := cell_of_row _ _ 0 _ _ _ HB1.out
  have y1 := cell_of_row _ _ 1 _ _ _ HB1.out
  go_wp2_with fail
  refine (C1.out _).mono ?_
  rintro e w9 ⟨rfl, hn⟩
  replace HN := Lib.hid (HN.out.trans hn)
  replace HB0 := Lib.hid ((hn.block _ (lt_of_block HB0.out)).trans HB0.out)
  replace HB1 := Lib.hid ((hn.block _ (lt_of_block HB1.out)).trans HB1.out)
  clear hn x0 x1 y0 y1
  have x0 := cell_of_row _ _ 0 _ _ _ HB0.out
  have x1 := cell_of_row _ _ 1 _ _ _ HB0.out
  have y0 := cell_of_row _ _ 0 _ _ _ HB1.out
  have y1 := cell_of_row _ _ 1 _ _ _ HB1.out
  go_wp2_with fail
  refine (C2.out _).mono ?_
  rintro e w9 ⟨rfl, hn⟩
  replace HN := Lib.hid (HN.out.trans hn)
  replace HB0 := Lib.hid ((hn.block _ (lt_of_block HB0.out)).trans HB0.out)
  replace HB1 := Lib.hid ((hn.block _ (lt_of_block HB1.out)).trans HB1.out)
  clear hn x0 x1 y0 y1
  have x0 := cell_of_row _ _ 0 _ _ _ HB0.out
  have x1 := cell_of_row _ _ 1 _ _ _ HB0.out
  have y0 := cell_of_row _ _ 0 _ _ _ HB1.out
  have y1 := cell_of_row _ _ 1 _ _ _ HB1.out
  go_wp2
  go_ret
  exact ⟨rfl, HN.out⟩
set_option maxHeartbeats 1000000 in
theorem rcheck_ok (A B wd kd : Nat) (hA : A < 2 ^ 128) (hB : B < 2 ^ 128) (hwd : 1 ≤ wd) (hk : kd ≤ 64) (kind bits : Int) (hq : (wd : Int).tdiv 2 = (kd : Int)) (hb0 : 1 ≤ bits) (hb : bits ≤ (kd : Int)) (hlt : A < 2 ^ wd) (hlt2 : B < 2 ^ wd) (HRW : Hid (∀ w : World, Calls Try.prog 11 #[.int .i64 kind] w fun e w' => e = .returned (.int .i64 (wd : Int)) ∧ New w w')) (w : World) : Calls Try.prog 8 #[.int .i64 kind, .int .i64 bits, .agg #[.int .u64 (W64 (hiN (A))), .int .u64 (W64 (loN (A)))], .agg #[.int .u64 (W64 (hiN (B))), .int .u64 (W64 (loN (B)))]] w fun e w' => e = .returned (.int .i64 0) ∧ New w w' := by
  have C1 := Lib.hid (few_a A wd hA)
  have C2 := Lib.hid (few_a B wd hB)
  have z0 : ((wd : Int) == 0) = false := by rw [beq_eq_false_iff_ne]; omega
  have z00 : ¬ wd = 0 := by omega
  have hq2 : wrap64 (kd : Int) = (kd : Int) := by unfold wrap64; omega
  rw [decide_eq_true hlt] at C1
  rw [decide_eq_true hlt2] at C2
  have b1 : ¬ bits < 1 := by omega
  have b2 : ¬ (kd : Int) < bits := by omega
  clear hA hB hwd hk hlt hlt2
  obtain ⟨hbl, HNN⟩ := boxes2 w (.cells #[.int .u64 (W64 (hiN (A))), .int .u64 (W64 (loN (A)))] 24) (.cells #[.int .u64 (W64 (hiN (B))), .int .u64 (W64 (loN (B)))] 24)
  obtain ⟨hb0, hb1⟩ := hbl
  have HN := Lib.hid HNN
  obtain ⟨w0, hw0⟩ : ∃ w0, (((w.alloc (.cells #[.int .u64 (W64 (hiN (A))), .int .u64 (W64 (loN (A)))] 24))).alloc (.cells #[.int .u64 (W64 (hiN (B))), .int .u64 (W64 (loN (B)))] 24)) = w0 := ⟨_, rfl⟩
  rw [hw0] at HN hb0 hb1
  have HW0 := Lib.hid hw0
  have HB0 := Lib.hid hb0
  have HB1 := Lib.hid hb1
  clear hw0 HNN hb0 hb1
  go_enter Try.func8, Try.ntmps8
  go_wp2_with (rw [HW0.out])
  refine (HRW.out _).mono ?_
  rintro e w9 ⟨rfl, hn⟩
  replace HN := Lib.hid (HN.out.trans hn)
  replace HB0 := Lib.hid ((hn.block _ (lt_of_block HB0.out)).trans HB0.out)
  replace HB1 := Lib.hid ((hn.block _ (lt_of_block HB1.out)).trans HB1.out)
  clear hn
  have x0 := cell_of_row _ _ 0 _ _ _ HB0.out
  have x1 := cell_of_row _ _ 1 _ _ _ HB0.out
  have y0 := cell_of_row _ _ 0 _ _ _ HB1.out
  have y1 := cell_of_row _ _ 1 _ _ _ HB1.out
  go_wp2_with fail
  refine (C1.out _).mono ?_
  rintro e w9 ⟨rfl, hn⟩
  replace HN := Lib.hid (HN.out.trans hn)
  replace HB0 := Lib.hid ((hn.block _ (lt_of_block HB0.out)).trans HB0.out)
  replace HB1 := Lib.hid ((hn.block _ (lt_of_block HB1.out)).trans HB1.out)
  clear hn x0 x1 y0 y1
  have x0 := cell_of_row _ _ 0 _ _ _ HB0.out
  have x1 := cell_of_row _ _ 1 _ _ _ HB0.out
  have y0 := cell_of_row _ _ 0 _ _ _ HB1.out
  have y1 := cell_of_row _ _ 1 _ _ _ HB1.out
  go_wp2_with fail
  refine (C2.out _).mono ?_
  rintro e w9 ⟨rfl, hn⟩
  replace HN := Lib.hid (HN.out.trans hn)
  replace HB0 := Lib.hid ((hn.block _ (lt_of_block HB0.out)).trans HB0.out)
  replace HB1 := Lib.hid ((hn.block _ (lt_of_block HB1.out)).trans HB1.out)
  clear hn x0 x1 y0 y1
  have x0 := cell_of_row _ _ 0 _ _ _ HB0.out
  have x1 := cell_of_row _ _ 1 _ _ _ HB0.out
  have y0 := cell_of_row _ _ 0 _ _ _ HB1.out
  have y1 := cell_of_row _ _ 1 _ _ _ HB1.out
  go_wp2
  go_ret
  exact ⟨rfl, HN.out⟩
set_option maxHeartbeats 1000000 in
theorem line_a (A B wd : Nat) (x : BitVec 64) (hA : A < 2 ^ 128) (hB : B < 2 ^ 128) (hwd : wd ≤ 128) (w : World) : Calls Try.prog 24 #[.int .i64 (wd : Int), .agg #[.int .u64 (W64 (hiN (A))), .int .u64 (W64 (loN (A)))], .agg #[.int .u64 (W64 (hiN (B))), .int .u64 (W64 (loN (B)))], .int .u64 (W64 x)] w fun e w' => ∃ v, e = .returned v ∧ w'.ownsRow w.heap.size 3 1 v wd ((bitsOf ((A * x.toNat + B) % 2 ^ wd) wd).map fun y => .int .i64 y) ∧ New w w' := by
  have ho1 := of2_own (hiN A) (loN A)
  rw [two_n hA] at ho1
  have ho2 := of2_own (hiN B) (loN B)
  rw [two_n hB] at ho2
  have HO1 := Lib.hid ho1
  have HO2 := Lib.hid ho2
  have HO3 := Lib.hid (fun w => of_own x 64 64 (by omega) rfl w)
  have hm := fun a1 c1 a2 c2 w h1 h2 => bmul_own A x.toNat 128 64 c1 c2 a1 a2 (wd : Int) wd rfl (by omega) (by omega) w h1 hA h2 x.isLt
  have hmod : bitsOf (A * x.toNat) wd = bitsOf (A * x.toNat % 2 ^ wd) wd := (bitsOf_mod _ _).symm
  rw [hmod] at hm
  have HM := Lib.hid hm
  have hlt : A * x.toNat % 2 ^ wd < 2 ^ wd := Nat.mod_lt _ (Nat.two_pow_pos _)
  have ha := fun a1 c1 a2 c2 w h1 h2 => badd_own (A * x.toNat % 2 ^ wd) B wd 128 c1 c2 a1 a2 (wd : Int) wd rfl (by omega) w h1 hlt h2 hB
  have hmod2 : bitsOf (A * x.toNat % 2 ^ wd + B) wd = bitsOf ((A * x.toNat + B) % 2 ^ wd) wd := by rw [← bitsOf_mod, Nat.mod_add_mod]
  rw [hmod2] at ha
  have HAD := Lib.hid ha
  have HWD : Hid (wd ≤ 128) := Lib.hid hwd
  generalize (A * x.toNat + B) % 2 ^ wd = R at *
  generalize A * x.toNat % 2 ^ wd = M at *
  generalize x.toNat = xn at *
  clear ho1 ho2 hm hmod hmod2 hlt ha hA hB hwd
  obtain ⟨hbl, HNN⟩ := boxes2 w (.cells #[.int .u64 (W64 (hiN (A))), .int .u64 (W64 (loN (A)))] 24) (.cells #[.int .u64 (W64 (hiN (B))), .int .u64 (W64 (loN (B)))] 24)
  obtain ⟨hb0, hb1⟩ := hbl
  have HN := Lib.hid HNN
  obtain ⟨w0, hw0⟩ : ∃ w0, (((w.alloc (.cells #[.int .u64 (W64 (hiN (A))), .int .u64 (W64 (loN (A)))] 24))).alloc (.cells #[.int .u64 (W64 (hiN (B))), .int .u64 (W64 (loN (B)))] 24)) = w0 := ⟨_, rfl⟩
  rw [hw0] at HN hb0 hb1
  have HW0 := Lib.hid hw0
  have HB0 := Lib.hid hb0
  have HB1 := Lib.hid hb1
  clear hw0 HNN hb0 hb1
  have x0 := cell_of_row _ _ 0 _ _ _ HB0.out
  have x1 := cell_of_row _ _ 1 _ _ _ HB0.out
  go_enter Try.func24, Try.ntmps24
  go_wp2_with (rw [HW0.out])
  refine (HO1.out _).mono ?_
  rintro e w1 ⟨v1, rfl, hown, hn⟩
  obtain ⟨a1, c1, rfl, hz⟩ := bits_row hown (by omega)
  replace HN := Lib.hid (HN.out.trans hn)
  have HZ1 := Lib.hid hz
  replace HB1 := Lib.hid ((hn.block _ (lt_of_block HB1.out)).trans HB1.out)
  clear hown hz hn x0 x1
  go_wp2_with fail
  refine (HO3.out _).mono ?_
  rintro e w2 ⟨v2, rfl, hown, hn⟩
  obtain ⟨a2, c2, rfl, hz⟩ := bits_row hown (by omega)
  replace HN := Lib.hid (HN.out.trans hn)
  have HZ2 := Lib.hid hz
  replace HZ1 := Lib.hid (HZ1.out.stay hn)
  replace HB1 := Lib.hid ((hn.block _ (lt_of_block HB1.out)).trans HB1.out)
  clear hown hz hn
  go_wp2_with fail
  refine (HM.out _ _ _ _ _ HZ1.out HZ2.out).mono ?_
  rintro e w3 ⟨v3, rfl, hown, hn⟩
  obtain ⟨a3, c3, rfl, hz⟩ := bits_row hown (by have := HWD.out; omega)
  replace HN := Lib.hid (HN.out.trans hn)
  have HZ3 := Lib.hid hz
  replace HB1 := Lib.hid ((hn.block _ (lt_of_block HB1.out)).trans HB1.out)
  clear hown hz hn
  have y0 := cell_of_row _ _ 0 _ _ _ HB1.out
  have y1 := cell_of_row _ _ 1 _ _ _ HB1.out
  go_wp2_with fail
  refine (HO2.out _).mono ?_
  rintro e w4 ⟨v4, rfl, hown, hn⟩
  obtain ⟨a4, c4, rfl, hz⟩ := bits_row hown (by omega)
  replace HN := Lib.hid (HN.out.trans hn)
  have HZ4 := Lib.hid hz
  replace HZ3 := Lib.hid (HZ3.out.stay hn)
  clear hown hz hn y0 y1
  go_wp2_with fail
  refine (HAD.out _ _ _ _ _ HZ3.out HZ4.out).mono ?_
  rintro e w5 ⟨v5, rfl, hown, hn⟩
  have hown2 := own_low hown HN.out.le
  replace HN := Lib.hid (HN.out.trans hn)
  have HOW := Lib.hid hown2
  clear hown hown2 hn
  go_wp2
  go_ret
  exact ⟨_, rfl, HOW.out, HN.out⟩
set_option maxHeartbeats 1000000 in
theorem reval_a (A B wd j : Nat) (x : BitVec 64) (kind : Int) (hA : A < 2 ^ 128) (hB : B < 2 ^ 128) (hwd : wd ≤ 128) (hj : j ≤ wd) (HRW : Hid (∀ w : World, Calls Try.prog 11 #[.int .i64 kind] w fun e w' => e = .returned (.int .i64 (wd : Int)) ∧ New w w')) (w : World) : Calls Try.prog 13 #[.int .i64 kind, .int .i64 (j : Int), .agg #[.int .u64 (W64 (hiN (A))), .int .u64 (W64 (loN (A)))], .agg #[.int .u64 (W64 (hiN (B))), .int .u64 (W64 (loN (B)))], .int .u64 (W64 x)] w fun e w' => e = .returned (.int .u64 (W64 (loN ((A * x.toNat + B) % 2 ^ wd / 2 ^ (wd - j))))) ∧ New w w' := by
  have HLI := Lib.hid (line_a A B wd x hA hB hwd)
  have hlt : (A * x.toNat + B) % 2 ^ wd < 2 ^ wd := Nat.mod_lt _ (Nat.two_pow_pos _)
  have hs := fun a c w hz => bshr_own ((A * x.toNat + B) % 2 ^ wd) wd c (wd - j) a (wd : Int) wd rfl (by omega) (by omega) w hz hlt
  rw [show ((wd - j : Nat) : Int) = (wd : Int) - (j : Int) by omega] at hs
  have HS := Lib.hid hs
  have hw := fun a c w hz => word_any ((A * x.toNat + B) % 2 ^ wd / 2 ^ (wd - j)) wd c 0 a w hz (Nat.lt_of_le_of_lt (Nat.div_le_self _ _) hlt) (by omega)
  rw [Nat.pow_zero, Nat.div_one] at hw
  have HWO := Lib.hid hw
  have HR := Lib.hid (show BitVec.ofNat 64 ((A * x.toNat + B) % 2 ^ wd / 2 ^ (wd - j)) = loN ((A * x.toNat + B) % 2 ^ wd / 2 ^ (wd - j)) from rfl)
  have hwr : wrap64 ((wd : Int) - (j : Int)) = (wd : Int) - (j : Int) := by unfold wrap64; omega
  have HWD : Hid (wd ≤ 128) := Lib.hid hwd
  generalize loN ((A * x.toNat + B) % 2 ^ wd / 2 ^ (wd - j)) = y at *
  generalize (A * x.toNat + B) % 2 ^ wd / 2 ^ (wd - j) = Q at *
  generalize (A * x.toNat + B) % 2 ^ wd = R at *
  clear hs hw hlt hA hB hwd hj
  obtain ⟨hbl, HNN⟩ := boxes2 w (.cells #[.int .u64 (W64 (hiN (A))), .int .u64 (W64 (loN (A)))] 24) (.cells #[.int .u64 (W64 (hiN (B))), .int .u64 (W64 (loN (B)))] 24)
  obtain ⟨hb0, hb1⟩ := hbl
  have HN := Lib.hid HNN
  obtain ⟨w0, hw0⟩ : ∃ w0, (((w.alloc (.cells #[.int .u64 (W64 (hiN (A))), .int .u64 (W64 (loN (A)))] 24))).alloc (.cells #[.int .u64 (W64 (hiN (B))), .int .u64 (W64 (loN (B)))] 24)) = w0 := ⟨_, rfl⟩
  rw [hw0] at HN hb0 hb1
  have HW0 := Lib.hid hw0
  have HB0 := Lib.hid hb0
  have HB1 := Lib.hid hb1
  clear hw0 HNN hb0 hb1
  go_enter Try.func13, Try.ntmps13
  go_wp2_with (rw [HW0.out])
  refine (HRW.out _).mono ?_
  rintro e w9 ⟨rfl, hn⟩
  replace HN := Lib.hid (HN.out.trans hn)
  replace HB0 := Lib.hid ((hn.block _ (lt_of_block HB0.out)).trans HB0.out)
  replace HB1 := Lib.hid ((hn.block _ (lt_of_block HB1.out)).trans HB1.out)
  clear hn
  have x0 := cell_of_row _ _ 0 _ _ _ HB0.out
  have x1 := cell_of_row _ _ 1 _ _ _ HB0.out
  have y0 := cell_of_row _ _ 0 _ _ _ HB1.out
  have y1 := cell_of_row _ _ 1 _ _ _ HB1.out
  go_wp2_with fail
  refine (HLI.out _).mono ?_
  rintro e w1 ⟨v1, rfl, hown, hn⟩
  obtain ⟨a1, c1, rfl, hz⟩ := bits_row hown (by have := HWD.out; omega)
  replace HN := Lib.hid (HN.out.trans hn)
  have HZ1 := Lib.hid hz
  clear hown hz hn x0 x1 y0 y1
  go_wp2_with fail
  refine (HS.out _ _ _ HZ1.out).mono ?_
  rintro e w2 ⟨v2, rfl, hown, hn⟩
  obtain ⟨a2, c2, rfl, hz⟩ := bits_row hown (by have := HWD.out; omega)
  replace HN := Lib.hid (HN.out.trans hn)
  have HZ2 := Lib.hid hz
  clear hown hz hn
  go_wp2_with fail
  refine (HWO.out _ _ _ HZ2.out).mono ?_
  rintro e w3 ⟨rfl, rfl⟩
  go_wp2
  go_ret
  rw [HR.out]
  exact ⟨rfl, HN.out⟩
end Go.Proofs.Ytfiihbknkglggaa
