/- The law MaddEvals, walked. -/
import Derived.Test.YtfiihbknkglggaaMadE
namespace Go.Proofs.Ytfiihbknkglggaa
open Go.RowKit Go.Bv
set_option linter.unusedVariables false
set_option maxHeartbeats 1000000 in
theorem awake_21 (w : World) : Calls Try.prog 6 #[] w fun e w' => e = .returned (.bool true) ∧ New w w' := by
  have hs := Lib.hid (fun w => shape_add w)
  have h1 := eval_ok 72057594037927936 0 64 32 8 3#64 (by decide) (by decide) (by omega) (by omega) 3 (by decide +kernel) hs (Lib.hid (check_ok 72057594037927936 0 64 32 (by decide) (by decide) (by omega) 3 8 (by omega) (by omega) (by decide) (by decide) hs))
  rw [show W64 (loN ((72057594037927936 * (3#64).toNat + 0) % 2 ^ 64 / 2 ^ (64 - 8))) = 3 by decide +kernel, show W64 (hiN 72057594037927936) = 0 by decide +kernel, show W64 (loN 72057594037927936) = 72057594037927936 by decide +kernel, show W64 (hiN 0) = 0 by decide +kernel, show W64 (loN 0) = 0 by decide +kernel, show W64 3#64 = 3 by decide] at h1
  have h2 := width_a 128 64 4 true (Lib.hid fun w => shape_wide w)
  have H1 := Lib.hid h1
  have H2 := Lib.hid h2
  have HN := Lib.hid (New.refl w)
  clear h1 h2 hs
  go_enter Try.func6, Try.ntmps6
  go_wp2_with fail
  refine (H1.out _).mono ?_
  rintro e w9 ⟨rfl, hn⟩
  replace HN := Lib.hid (HN.out.trans hn)
  clear hn
  go_wp2_with fail
  refine (H2.out _).mono ?_
  rintro e w9 ⟨rfl, hn⟩
  replace HN := Lib.hid (HN.out.trans hn)
  clear hn
  go_wp2
  go_ret
  exact ⟨rfl, HN.out⟩
set_option maxHeartbeats 2000000 in
theorem evals_bad (W : World) (A B wd : Nat) (x : BitVec 64) (kind bits c : Int) (hc : (c == 0) = false) (HW1 : Hid (∀ w : World, Calls Try.prog 10 #[.int .i64 kind] w fun e w' => e = .returned (.int .i64 (wd : Int)) ∧ New w w')) (HW2 : Hid (∀ w : World, Calls Try.prog 11 #[.int .i64 kind] w fun e w' => e = .returned (.int .i64 (wd : Int)) ∧ New w w')) (HE : Hid (∀ w : World, Calls Try.prog 7 #[.int .i64 kind, .int .i64 bits, .agg #[.int .u64 (W64 (hiN (A))), .int .u64 (W64 (loN (A)))], .agg #[.int .u64 (W64 (hiN (B))), .int .u64 (W64 (loN (B)))], .int .u64 (W64 x)] w fun e w' => e = .returned (.tuple #[.int .u64 0, .int .i64 c]) ∧ New w w')) (HC : Hid (∀ w : World, Calls Try.prog 9 #[.int .i64 kind, .int .i64 bits, .agg #[.int .u64 (W64 (hiN (A))), .int .u64 (W64 (loN (A)))], .agg #[.int .u64 (W64 (hiN (B))), .int .u64 (W64 (loN (B)))]] w fun e w' => e = .returned (.int .i64 c) ∧ New w w')) (HR : Hid (∀ w : World, Calls Try.prog 8 #[.int .i64 kind, .int .i64 bits, .agg #[.int .u64 (W64 (hiN (A))), .int .u64 (W64 (loN (A)))], .agg #[.int .u64 (W64 (hiN (B))), .int .u64 (W64 (loN (B)))]] w fun e w' => e = .returned (.int .i64 c) ∧ New w w')) :
    Calls Try.prog 3 #[.int .i64 kind, .int .i64 bits, .agg #[.int .u64 (W64 (hiN (A))), .int .u64 (W64 (loN (A)))], .agg #[.int .u64 (W64 (hiN (B))), .int .u64 (W64 (loN (B)))], .int .u64 (W64 x)] W fun e w' => e = .returned (.bool true) ∧ Below W.heap.size W w' := by
  have HA := Lib.hid awake_21
  obtain ⟨hbl, HNN⟩ := boxes2 W (.cells #[.int .u64 (W64 (hiN (A))), .int .u64 (W64 (loN (A)))] 24) (.cells #[.int .u64 (W64 (hiN (B))), .int .u64 (W64 (loN (B)))] 24)
  obtain ⟨hb0, hb1⟩ := hbl
  have HN := Lib.hid HNN
  obtain ⟨w0, hw0⟩ : ∃ w0, (((W.alloc (.cells #[.int .u64 (W64 (hiN (A))), .int .u64 (W64 (loN (A)))] 24))).alloc (.cells #[.int .u64 (W64 (hiN (B))), .int .u64 (W64 (loN (B)))] 24)) = w0 := ⟨_, rfl⟩
  rw [hw0] at HN hb0 hb1
  have HW0 := Lib.hid hw0
  have HB0 := Lib.hid hb0
  have HB1 := Lib.hid hb1
  clear hw0 HNN hb0 hb1
  have x0 := cell_of_row _ _ 0 _ _ _ HB0.out
  have x1 := cell_of_row _ _ 1 _ _ _ HB0.out
  have y0 := cell_of_row _ _ 0 _ _ _ HB1.out
  have y1 := cell_of_row _ _ 1 _ _ _ HB1.out
  go_enter Try.func3, Try.ntmps3
  go_wp2_with (rw [HW0.out])
  refine (HA.out _).mono ?_
  rintro e w9 ⟨rfl, hn⟩
  replace HN := Lib.hid (HN.out.trans hn)
  replace HB0 := Lib.hid ((hn.block _ (lt_of_block HB0.out)).trans HB0.out)
  replace HB1 := Lib.hid ((hn.block _ (lt_of_block HB1.out)).trans HB1.out)
  clear hn x0 x1 y0 y1
  have x0 := cell_of_row _ _ 0 _ _ _ HB0.out
  have x1 := cell_of_row _ _ 1 _ _ _ HB0.out
  have y0 := cell_of_row _ _ 0 _ _ _ HB1.out
  have y1 := cell_of_row _ _ 1 _ _ _ HB1.out
  go_wp2_with fail
  refine (HE.out _).mono ?_
  rintro e w9 ⟨rfl, hn⟩
  replace HN := Lib.hid (HN.out.trans hn)
  replace HB0 := Lib.hid ((hn.block _ (lt_of_block HB0.out)).trans HB0.out)
  replace HB1 := Lib.hid ((hn.block _ (lt_of_block HB1.out)).trans HB1.out)
  clear hn x0 x1 y0 y1
  have x0 := cell_of_row _ _ 0 _ _ _ HB0.out
  have x1 := cell_of_row _ _ 1 _ _ _ HB0.out
  have y0 := cell_of_row _ _ 0 _ _ _ HB1.out
  have y1 := cell_of_row _ _ 1 _ _ _ HB1.out
  go_wp2_with fail
  refine (HR.out _).mono ?_
  rintro e w9 ⟨rfl, hn⟩
  replace HN := Lib.hid (HN.out.trans hn)
  replace HB0 := Lib.hid ((hn.block _ (lt_of_block HB0.out)).trans HB0.out)
  replace HB1 := Lib.hid ((hn.block _ (lt_of_block HB1.out)).trans HB1.out)
  clear hn x0 x1 y0 y1
  have x0 := cell_of_row _ _ 0 _ _ _ HB0.out
  have x1 := cell_of_row _ _ 1 _ _ _ HB0.out
  have y0 := cell_of_row _ _ 0 _ _ _ HB1.out
  have y1 := cell_of_row _ _ 1 _ _ _ HB1.out
  go_wp2_with fail
  refine (HC.out _).mono ?_
  rintro e w9 ⟨rfl, hn⟩
  replace HN := Lib.hid (HN.out.trans hn)
  replace HB0 := Lib.hid ((hn.block _ (lt_of_block HB0.out)).trans HB0.out)
  replace HB1 := Lib.hid ((hn.block _ (lt_of_block HB1.out)).trans HB1.out)
  clear hn x0 x1 y0 y1
  have x0 := cell_of_row _ _ 0 _ _ _ HB0.out
  have x1 := cell_of_row _ _ 1 _ _ _ HB0.out
  have y0 := cell_of_row _ _ 0 _ _ _ HB1.out
  have y1 := cell_of_row _ _ 1 _ _ _ HB1.out
  go_wp2_with fail
  refine (HW1.out _).mono ?_
  rintro e w9 ⟨rfl, hn⟩
  replace HN := Lib.hid (HN.out.trans hn)
  replace HB0 := Lib.hid ((hn.block _ (lt_of_block HB0.out)).trans HB0.out)
  replace HB1 := Lib.hid ((hn.block _ (lt_of_block HB1.out)).trans HB1.out)
  clear hn x0 x1 y0 y1
  have x0 := cell_of_row _ _ 0 _ _ _ HB0.out
  have x1 := cell_of_row _ _ 1 _ _ _ HB0.out
  have y0 := cell_of_row _ _ 0 _ _ _ HB1.out
  have y1 := cell_of_row _ _ 1 _ _ _ HB1.out
  go_wp2_with fail
  refine (HW2.out _).mono ?_
  rintro e w9 ⟨rfl, hn⟩
  replace HN := Lib.hid (HN.out.trans hn)
  replace HB0 := Lib.hid ((hn.block _ (lt_of_block HB0.out)).trans HB0.out)
  replace HB1 := Lib.hid ((hn.block _ (lt_of_block HB1.out)).trans HB1.out)
  clear hn x0 x1 y0 y1
  have x0 := cell_of_row _ _ 0 _ _ _ HB0.out
  have x1 := cell_of_row _ _ 1 _ _ _ HB0.out
  have y0 := cell_of_row _ _ 0 _ _ _ HB1.out
  have y1 := cell_of_row _ _ 1 _ _ _ HB1.out
  go_wp2
  go_ret
  exact ⟨rfl, HN.out⟩
set_option maxHeartbeats 2000000 in
theorem evals_no (W : World) (A B wd : Nat) (x : BitVec 64) (kind bits : Int) (HW1 : Hid (∀ w : World, Calls Try.prog 10 #[.int .i64 kind] w fun e w' => e = .returned (.int .i64 (wd : Int)) ∧ New w w')) (HW2 : Hid (∀ w : World, Calls Try.prog 11 #[.int .i64 kind] w fun e w' => e = .returned (.int .i64 (wd : Int)) ∧ New w w')) (HE : Hid (∀ w : World, Calls Try.prog 7 #[.int .i64 kind, .int .i64 bits, .agg #[.int .u64 (W64 (hiN (A))), .int .u64 (W64 (loN (A)))], .agg #[.int .u64 (W64 (hiN (B))), .int .u64 (W64 (loN (B)))], .int .u64 (W64 x)] w fun e w' => e = .returned (.tuple #[.int .u64 0, .int .i64 2]) ∧ New w w')) (HC : Hid (∀ w : World, Calls Try.prog 9 #[.int .i64 kind, .int .i64 bits, .agg #[.int .u64 (W64 (hiN (A))), .int .u64 (W64 (loN (A)))], .agg #[.int .u64 (W64 (hiN (B))), .int .u64 (W64 (loN (B)))]] w fun e w' => e = .returned (.int .i64 0) ∧ New w w')) (HR : Hid (∀ w : World, Calls Try.prog 8 #[.int .i64 kind, .int .i64 bits, .agg #[.int .u64 (W64 (hiN (A))), .int .u64 (W64 (loN (A)))], .agg #[.int .u64 (W64 (hiN (B))), .int .u64 (W64 (loN (B)))]] w fun e w' => e = .returned (.int .i64 0) ∧ New w w')) (HK : Hid (∀ w : World, Calls Try.prog 12 #[.int .i64 kind, .int .u64 (W64 x)] w fun e w' => e = .returned (.bool false) ∧ New w w')) :
    Calls Try.prog 3 #[.int .i64 kind, .int .i64 bits, .agg #[.int .u64 (W64 (hiN (A))), .int .u64 (W64 (loN (A)))], .agg #[.int .u64 (W64 (hiN (B))), .int .u64 (W64 (loN (B)))], .int .u64 (W64 x)] W fun e w' => e = .returned (.bool true) ∧ Below W.heap.size W w' := by
  have HA := Lib.hid awake_21
  obtain ⟨hbl, HNN⟩ := boxes2 W (.cells #[.int .u64 (W64 (hiN (A))), .int .u64 (W64 (loN (A)))] 24) (.cells #[.int .u64 (W64 (hiN (B))), .int .u64 (W64 (loN (B)))] 24)
  obtain ⟨hb0, hb1⟩ := hbl
  have HN := Lib.hid HNN
  obtain ⟨w0, hw0⟩ : ∃ w0, (((W.alloc (.cells #[.int .u64 (W64 (hiN (A))), .int .u64 (W64 (loN (A)))] 24))).alloc (.cells #[.int .u64 (W64 (hiN (B))), .int .u64 (W64 (loN (B)))] 24)) = w0 := ⟨_, rfl⟩
  rw [hw0] at HN hb0 hb1
  have HW0 := Lib.hid hw0
  have HB0 := Lib.hid hb0
  have HB1 := Lib.hid hb1
  clear hw0 HNN hb0 hb1
  have x0 := cell_of_row _ _ 0 _ _ _ HB0.out
  have x1 := cell_of_row _ _ 1 _ _ _ HB0.out
  have y0 := cell_of_row _ _ 0 _ _ _ HB1.out
  have y1 := cell_of_row _ _ 1 _ _ _ HB1.out
  go_enter Try.func3, Try.ntmps3
  go_wp2_with (rw [HW0.out])
  refine (HA.out _).mono ?_
  rintro e w9 ⟨rfl, hn⟩
  replace HN := Lib.hid (HN.out.trans hn)
  replace HB0 := Lib.hid ((hn.block _ (lt_of_block HB0.out)).trans HB0.out)
  replace HB1 := Lib.hid ((hn.block _ (lt_of_block HB1.out)).trans HB1.out)
  clear hn x0 x1 y0 y1
  have x0 := cell_of_row _ _ 0 _ _ _ HB0.out
  have x1 := cell_of_row _ _ 1 _ _ _ HB0.out
  have y0 := cell_of_row _ _ 0 _ _ _ HB1.out
  have y1 := cell_of_row _ _ 1 _ _ _ HB1.out
  go_wp2_with fail
  refine (HE.out _).mono ?_
  rintro e w9 ⟨rfl, hn⟩
  replace HN := Lib.hid (HN.out.trans hn)
  replace HB0 := Lib.hid ((hn.block _ (lt_of_block HB0.out)).trans HB0.out)
  replace HB1 := Lib.hid ((hn.block _ (lt_of_block HB1.out)).trans HB1.out)
  clear hn x0 x1 y0 y1
  have x0 := cell_of_row _ _ 0 _ _ _ HB0.out
  have x1 := cell_of_row _ _ 1 _ _ _ HB0.out
  have y0 := cell_of_row _ _ 0 _ _ _ HB1.out
  have y1 := cell_of_row _ _ 1 _ _ _ HB1.out
  go_wp2_with fail
  refine (HR.out _).mono ?_
  rintro e w9 ⟨rfl, hn⟩
  replace HN := Lib.hid (HN.out.trans hn)
  replace HB0 := Lib.hid ((hn.block _ (lt_of_block HB0.out)).trans HB0.out)
  replace HB1 := Lib.hid ((hn.block _ (lt_of_block HB1.out)).trans HB1.out)
  clear hn x0 x1 y0 y1
  have x0 := cell_of_row _ _ 0 _ _ _ HB0.out
  have x1 := cell_of_row _ _ 1 _ _ _ HB0.out
  have y0 := cell_of_row _ _ 0 _ _ _ HB1.out
  have y1 := cell_of_row _ _ 1 _ _ _ HB1.out
  go_wp2_with fail
  refine (HC.out _).mono ?_
  rintro e w9 ⟨rfl, hn⟩
  replace HN := Lib.hid (HN.out.trans hn)
  replace HB0 := Lib.hid ((hn.block _ (lt_of_block HB0.out)).trans HB0.out)
  replace HB1 := Lib.hid ((hn.block _ (lt_of_block HB1.out)).trans HB1.out)
  clear hn x0 x1 y0 y1
  have x0 := cell_of_row _ _ 0 _ _ _ HB0.out
  have x1 := cell_of_row _ _ 1 _ _ _ HB0.out
  have y0 := cell_of_row _ _ 0 _ _ _ HB1.out
  have y1 := cell_of_row _ _ 1 _ _ _ HB1.out
  go_wp2_with fail
  refine (HW1.out _).mono ?_
  rintro e w9 ⟨rfl, hn⟩
  replace HN := Lib.hid (HN.out.trans hn)
  replace HB0 := Lib.hid ((hn.block _ (lt_of_block HB0.out)).trans HB0.out)
  replace HB1 := Lib.hid ((hn.block _ (lt_of_block HB1.out)).trans HB1.out)
  clear hn x0 x1 y0 y1
  have x0 := cell_of_row _ _ 0 _ _ _ HB0.out
  have x1 := cell_of_row _ _ 1 _ _ _ HB0.out
  have y0 := cell_of_row _ _ 0 _ _ _ HB1.out
  have y1 := cell_of_row _ _ 1 _ _ _ HB1.out
  go_wp2_with fail
  refine (HW2.out _).mono ?_
  rintro e w9 ⟨rfl, hn⟩
  replace HN := Lib.hid (HN.out.trans hn)
  replace HB0 := Lib.hid ((hn.block _ (lt_of_block HB0.out)).trans HB0.out)
  replace HB1 := Lib.hid ((hn.block _ (lt_of_block HB1.out)).trans HB1.out)
  clear hn x0 x1 y0 y1
  have x0 := cell_of_row _ _ 0 _ _ _ HB0.out
  have x1 := cell_of_row _ _ 1 _ _ _ HB0.out
  have y0 := cell_of_row _ _ 0 _ _ _ HB1.out
  have y1 := cell_of_row _ _ 1 _ _ _ HB1.out
  go_wp2_with fail
  refine (HK.out _).mono ?_
  rintro e w9 ⟨rfl, hn⟩
  replace HN := Lib.hid (HN.out.trans hn)
  replace HB0 := Lib.hid ((hn.block _ (lt_of_block HB0.out)).trans HB0.out)
  replace HB1 := Lib.hid ((hn.block _ (lt_of_block HB1.out)).trans HB1.out)
  clear hn x0 x1 y0 y1
  have x0 := cell_of_row _ _ 0 _ _ _ HB0.out
  have x1 := cell_of_row _ _ 1 _ _ _ HB0.out
  have y0 := cell_of_row _ _ 0 _ _ _ HB1.out
  have y1 := cell_of_row _ _ 1 _ _ _ HB1.out
  go_wp2
  go_ret
  exact ⟨rfl, HN.out⟩
set_option maxHeartbeats 2000000 in
theorem evals_yes (W : World) (A B wd : Nat) (x y : BitVec 64) (kind bits : Int) (HW1 : Hid (∀ w : World, Calls Try.prog 10 #[.int .i64 kind] w fun e w' => e = .returned (.int .i64 (wd : Int)) ∧ New w w')) (HW2 : Hid (∀ w : World, Calls Try.prog 11 #[.int .i64 kind] w fun e w' => e = .returned (.int .i64 (wd : Int)) ∧ New w w')) (HE : Hid (∀ w : World, Calls Try.prog 7 #[.int .i64 kind, .int .i64 bits, .agg #[.int .u64 (W64 (hiN (A))), .int .u64 (W64 (loN (A)))], .agg #[.int .u64 (W64 (hiN (B))), .int .u64 (W64 (loN (B)))], .int .u64 (W64 x)] w fun e w' => e = .returned (.tuple #[.int .u64 (W64 y), .int .i64 0]) ∧ New w w')) (HC : Hid (∀ w : World, Calls Try.prog 9 #[.int .i64 kind, .int .i64 bits, .agg #[.int .u64 (W64 (hiN (A))), .int .u64 (W64 (loN (A)))], .agg #[.int .u64 (W64 (hiN (B))), .int .u64 (W64 (loN (B)))]] w fun e w' => e = .returned (.int .i64 0) ∧ New w w')) (HR : Hid (∀ w : World, Calls Try.prog 8 #[.int .i64 kind, .int .i64 bits, .agg #[.int .u64 (W64 (hiN (A))), .int .u64 (W64 (loN (A)))], .agg #[.int .u64 (W64 (hiN (B))), .int .u64 (W64 (loN (B)))]] w fun e w' => e = .returned (.int .i64 0) ∧ New w w')) (HK : Hid (∀ w : World, Calls Try.prog 12 #[.int .i64 kind, .int .u64 (W64 x)] w fun e w' => e = .returned (.bool true) ∧ New w w')) (HV : Hid (∀ w : World, Calls Try.prog 13 #[.int .i64 kind, .int .i64 bits, .agg #[.int .u64 (W64 (hiN (A))), .int .u64 (W64 (loN (A)))], .agg #[.int .u64 (W64 (hiN (B))), .int .u64 (W64 (loN (B)))], .int .u64 (W64 x)] w fun e w' => e = .returned (.int .u64 (W64 y)) ∧ New w w')) :
    Calls Try.prog 3 #[.int .i64 kind, .int .i64 bits, .agg #[.int .u64 (W64 (hiN (A))), .int .u64 (W64 (loN (A)))], .agg #[.int .u64 (W64 (hiN (B))), .int .u64 (W64 (loN (B)))], .int .u64 (W64 x)] W fun e w' => e = .returned (.bool true) ∧ Below W.heap.size W w' := by
  have HA := Lib.hid awake_21
  obtain ⟨hbl, HNN⟩ := boxes2 W (.cells #[.int .u64 (W64 (hiN (A))), .int .u64 (W64 (loN (A)))] 24) (.cells #[.int .u64 (W64 (hiN (B))), .int .u64 (W64 (loN (B)))] 24)
  obtain ⟨hb0, hb1⟩ := hbl
  have HN := Lib.hid HNN
  obtain ⟨w0, hw0⟩ : ∃ w0, (((W.alloc (.cells #[.int .u64 (W64 (hiN (A))), .int .u64 (W64 (loN (A)))] 24))).alloc (.cells #[.int .u64 (W64 (hiN (B))), .int .u64 (W64 (loN (B)))] 24)) = w0 := ⟨_, rfl⟩
  rw [hw0] at HN hb0 hb1
  have HW0 := Lib.hid hw0
  have HB0 := Lib.hid hb0
  have HB1 := Lib.hid hb1
  clear hw0 HNN hb0 hb1
  have x0 := cell_of_row _ _ 0 _ _ _ HB0.out
  have x1 := cell_of_row _ _ 1 _ _ _ HB0.out
  have y0 := cell_of_row _ _ 0 _ _ _ HB1.out
  have y1 := cell_of_row _ _ 1 _ _ _ HB1.out
  go_enter Try.func3, Try.ntmps3
  go_wp2_with (rw [HW0.out])
  refine (HA.out _).mono ?_
  rintro e w9 ⟨rfl, hn⟩
  replace HN := Lib.hid (HN.out.trans hn)
  replace HB0 := Lib.hid ((hn.block _ (lt_of_block HB0.out)).trans HB0.out)
  replace HB1 := Lib.hid ((hn.block _ (lt_of_block HB1.out)).trans HB1.out)
  clear hn x0 x1 y0 y1
  have x0 := cell_of_row _ _ 0 _ _ _ HB0.out
  have x1 := cell_of_row _ _ 1 _ _ _ HB0.out
  have y0 := cell_of_row _ _ 0 _ _ _ HB1.out
  have y1 := cell_of_row _ _ 1 _ _ _ HB1.out
  go_wp2_with fail
  refine (HE.out _).mono ?_
  rintro e w9 ⟨rfl, hn⟩
  replace HN := Lib.hid (HN.out.trans hn)
  replace HB0 := Lib.hid ((hn.block _ (lt_of_block HB0.out)).trans HB0.out)
  replace HB1 := Lib.hid ((hn.block _ (lt_of_block HB1.out)).trans HB1.out)
  clear hn x0 x1 y0 y1
  have x0 := cell_of_row _ _ 0 _ _ _ HB0.out
  have x1 := cell_of_row _ _ 1 _ _ _ HB0.out
  have y0 := cell_of_row _ _ 0 _ _ _ HB1.out
  have y1 := cell_of_row _ _ 1 _ _ _ HB1.out
  go_wp2_with fail
  refine (HR.out _).mono ?_
  rintro e w9 ⟨rfl, hn⟩
  replace HN := Lib.hid (HN.out.trans hn)
  replace HB0 := Lib.hid ((hn.block _ (lt_of_block HB0.out)).trans HB0.out)
  replace HB1 := Lib.hid ((hn.block _ (lt_of_block HB1.out)).trans HB1.out)
  clear hn x0 x1 y0 y1
  have x0 := cell_of_row _ _ 0 _ _ _ HB0.out
  have x1 := cell_of_row _ _ 1 _ _ _ HB0.out
  have y0 := cell_of_row _ _ 0 _ _ _ HB1.out
  have y1 := cell_of_row _ _ 1 _ _ _ HB1.out
  go_wp2_with fail
  refine (HC.out _).mono ?_
  rintro e w9 ⟨rfl, hn⟩
  replace HN := Lib.hid (HN.out.trans hn)
  replace HB0 := Lib.hid ((hn.block _ (lt_of_block HB0.out)).trans HB0.out)
  replace HB1 := Lib.hid ((hn.block _ (lt_of_block HB1.out)).trans HB1.out)
  clear hn x0 x1 y0 y1
  have x0 := cell_of_row _ _ 0 _ _ _ HB0.out
  have x1 := cell_of_row _ _ 1 _ _ _ HB0.out
  have y0 := cell_of_row _ _ 0 _ _ _ HB1.out
  have y1 := cell_of_row _ _ 1 _ _ _ HB1.out
  go_wp2_with fail
  refine (HW1.out _).mono ?_
  rintro e w9 ⟨rfl, hn⟩
  replace HN := Lib.hid (HN.out.trans hn)
  replace HB0 := Lib.hid ((hn.block _ (lt_of_block HB0.out)).trans HB0.out)
  replace HB1 := Lib.hid ((hn.block _ (lt_of_block HB1.out)).trans HB1.out)
  clear hn x0 x1 y0 y1
  have x0 := cell_of_row _ _ 0 _ _ _ HB0.out
  have x1 := cell_of_row _ _ 1 _ _ _ HB0.out
  have y0 := cell_of_row _ _ 0 _ _ _ HB1.out
  have y1 := cell_of_row _ _ 1 _ _ _ HB1.out
  go_wp2_with fail
  refine (HW2.out _).mono ?_
  rintro e w9 ⟨rfl, hn⟩
  replace HN := Lib.hid (HN.out.trans hn)
  replace HB0 := Lib.hid ((hn.block _ (lt_of_block HB0.out)).trans HB0.out)
  replace HB1 := Lib.hid ((hn.block _ (lt_of_block HB1.out)).trans HB1.out)
  clear hn x0 x1 y0 y1
  have x0 := cell_of_row _ _ 0 _ _ _ HB0.out
  have x1 := cell_of_row _ _ 1 _ _ _ HB0.out
  have y0 := cell_of_row _ _ 0 _ _ _ HB1.out
  have y1 := cell_of_row _ _ 1 _ _ _ HB1.out
  go_wp2_with fail
  refine (HK.out _).mono ?_
  rintro e w9 ⟨rfl, hn⟩
  replace HN := Lib.hid (HN.out.trans hn)
  replace HB0 := Lib.hid ((hn.block _ (lt_of_block HB0.out)).trans HB0.out)
  replace HB1 := Lib.hid ((hn.block _ (lt_of_block HB1.out)).trans HB1.out)
  clear hn x0 x1 y0 y1
  have x0 := cell_of_row _ _ 0 _ _ _ HB0.out
  have x1 := cell_of_row _ _ 1 _ _ _ HB0.out
  have y0 := cell_of_row _ _ 0 _ _ _ HB1.out
  have y1 := cell_of_row _ _ 1 _ _ _ HB1.out
  go_wp2_with fail
  refine (HV.out _).mono ?_
  rintro e w9 ⟨rfl, hn⟩
  replace HN := Lib.hid (HN.out.trans hn)
  replace HB0 := Lib.hid ((hn.block _ (lt_of_block HB0.out)).trans HB0.out)
  replace HB1 := Lib.hid ((hn.block _ (lt_of_block HB1.out)).trans HB1.out)
  clear hn x0 x1 y0 y1
  have x0 := cell_of_row _ _ 0 _ _ _ HB0.out
  have x1 := cell_of_row _ _ 1 _ _ _ HB0.out
  have y0 := cell_of_row _ _ 0 _ _ _ HB1.out
  have y1 := cell_of_row _ _ 1 _ _ _ HB1.out
  go_wp2
  go_ret
  exact ⟨rfl, HN.out⟩
theorem evals_kind (W : World) (A B wd kd : Nat) (hA : A < 2 ^ 128) (hB : B < 2 ^ 128) (hwd : wd ≤ 128) (hwd1 : 1 ≤ wd) (hk : kd ≤ 64) (hkw : kd ≤ wd) (x : BitVec 64) (kind bits : Int) (hq : (wd : Int).tdiv 2 = (kd : Int))
    (HS : Hid (∀ w : World, Calls Try.prog 17 #[.int .i64 kind] w fun e w' => e = .returned (.tuple #[.agg #[.int .i64 (wd : Int), .int .i64 (kd : Int), .int .i64 (kd : Int)], .bool true]) ∧ New w w')) (HRW : Hid (∀ w : World, Calls Try.prog 11 #[.int .i64 kind] w fun e w' => e = .returned (.int .i64 (wd : Int)) ∧ New w w')) :
    Calls Try.prog 3 #[.int .i64 kind, .int .i64 bits, .agg #[.int .u64 (W64 (hiN (A))), .int .u64 (W64 (loN (A)))], .agg #[.int .u64 (W64 (hiN (B))), .int .u64 (W64 (loN (B)))], .int .u64 (W64 x)] W fun e w' => e = .returned (.bool true) ∧ Below W.heap.size W w' := by
  have HW1 := Lib.hid (width_a wd kd kind true HS)
  have bad : ∀ c : Int, (c == 0) = false → (∀ w : World, Calls Try.prog 9 #[.int .i64 kind, .int .i64 bits, .agg #[.int .u64 (W64 (hiN (A))), .int .u64 (W64 (loN (A)))], .agg #[.int .u64 (W64 (hiN (B))), .int .u64 (W64 (loN (B)))]] w fun e w' => e = .returned (.int .i64 c) ∧ New w w') → (∀ w : World, Calls Try.prog 8 #[.int .i64 kind, .int .i64 bits, .agg #[.int .u64 (W64 (hiN (A))), .int .u64 (W64 (loN (A)))], .agg #[.int .u64 (W64 (hiN (B))), .int .u64 (W64 (loN (B)))]] w fun e w' => e = .returned (.int .i64 c) ∧ New w w') → Calls Try.prog 3 #[.int .i64 kind, .int .i64 bits, .agg #[.int .u64 (W64 (hiN (A))), .int .u64 (W64 (loN (A)))], .agg #[.int .u64 (W64 (hiN (B))), .int .u64 (W64 (loN (B)))], .int .u64 (W64 x)] W fun e w' => e = .returned (.bool true) ∧ Below W.heap.size W w' := fun c h h1 h2 =>
    evals_bad W A B wd x kind bits c h HW1 HRW (Lib.hid (eval_bad A B x kind bits c h (Lib.hid h1))) (Lib.hid h1) (Lib.hid h2)
  by_cases h1 : bits < 1
  · exact bad 1 rfl (check_low A B wd kd hA hB hwd kind bits h1 HS) (rcheck_low A B wd kd hA hB hwd1 hk kind bits hq h1 HRW)
  by_cases h2 : (kd : Int) < bits
  · exact bad 1 rfl (check_high A B wd kd hA hB hwd kind bits h1 h2 HS) (rcheck_high A B wd kd hA hB hwd1 hk kind bits hq h1 h2 HRW)
  by_cases h3 : ¬ A < 2 ^ wd
  · exact bad 13 rfl (check_a A B wd kd hA hB hwd kind bits (by omega) (by omega) h3 HS) (rcheck_a A B wd kd hA hB hwd1 hk kind bits hq (by omega) (by omega) h3 HRW)
  by_cases h4 : ¬ B < 2 ^ wd
  · exact bad 13 rfl (check_b A B wd kd hA hB hwd kind bits (by omega) (by omega) (Classical.not_not.1 h3) h4 HS) (rcheck_b A B wd kd hA hB hwd1 hk kind bits hq (by omega) (by omega) (Classical.not_not.1 h3) h4 HRW)
  rw [Classical.not_not] at h3 h4
  obtain ⟨j, rfl⟩ : ∃ j : Nat, bits = (j : Int) := ⟨bits.toNat, by omega⟩
  have hj : j ≤ wd := by omega
  have HC := Lib.hid (check_ok A B wd kd hA hB hwd kind (j : Int) (by omega) (by omega) h3 h4 HS)
  have HR := Lib.hid (rcheck_ok A B wd kd hA hB hwd1 hk kind (j : Int) hq (by omega) (by omega) h3 h4 HRW)
  have HK := Lib.hid (key_a x wd kd kind hq hk HRW)
  cases hf : (x >>> kd == 0#64)
  · rw [hf] at HK
    exact evals_no W A B wd x kind (j : Int) HW1 HRW (Lib.hid (eval_no A B wd kd j x hA hB hwd hj kind hf HS HC)) HC HR HK
  · rw [hf] at HK
    exact evals_yes W A B wd x _ kind (j : Int) HW1 HRW (Lib.hid (eval_ok A B wd kd j x hA hB hwd hj kind hf HS HC)) HC HR HK (Lib.hid (reval_a A B wd j x kind hA hB hwd hj HRW))
theorem MaddEvals_walk (W : World) (a0 : Int) (w0 : (Lit.int .i64 a0).wf = true) (a1 : Int) (w1 : (Lit.int .i64 a1).wf = true) (x2_0 : BitVec 64) (x2_1 : BitVec 64) (x3_0 : BitVec 64) (x3_1 : BitVec 64) (a4 : Int) (w4 : (Lit.int .u64 a4).wf = true) :
    Calls Try.prog 3 #[.int .i64 a0, .int .i64 a1, .agg #[.int .u64 (W64 x2_0), .int .u64 (W64 x2_1)], .agg #[.int .u64 (W64 x3_0), .int .u64 (W64 x3_1)], .int .u64 a4] W fun e w' => e = .returned (.bool true) ∧ Below W.heap.size W w' := by
  obtain ⟨x, rfl⟩ := ex64 a4 (by simp [Lit.wf, IntKind.min, IntKind.max, IntKind.signed, IntKind.bits] at w4; omega)
  have hA := two_lt128 x2_0 x2_1
  have hB := two_lt128 x3_0 x3_1
  have e1 : hiN (two x2_0 x2_1) = x2_0 := two_hi x2_0 x2_1
  have e2 : loN (two x2_0 x2_1) = x2_1 := two_lo x2_0 x2_1
  have e3 : hiN (two x3_0 x3_1) = x3_0 := two_hi x3_0 x3_1
  have e4 : loN (two x3_0 x3_1) = x3_1 := two_lo x3_0 x3_1
  have key : Calls Try.prog 3 #[.int .i64 a0, .int .i64 a1, .agg #[.int .u64 (W64 (hiN (two x2_0 x2_1))), .int .u64 (W64 (loN (two x2_0 x2_1)))], .agg #[.int .u64 (W64 (hiN (two x3_0 x3_1))), .int .u64 (W64 (loN (two x3_0 x3_1)))], .int .u64 (W64 x)] W fun e w' => e = .returned (.bool true) ∧ Below W.heap.size W w' := by
    generalize two x2_0 x2_1 = A at *
    generalize two x3_0 x3_1 = B at *
    by_cases k3 : a0 = 3
    · subst k3
      exact evals_kind W A B 64 32 hA hB (by omega) (by omega) (by omega) (by omega) x 3 a1 rfl (Lib.hid fun w => shape_add w) (Lib.hid fun w => rwidth_add w)
    by_cases k4 : a0 = 4
    · subst k4
      exact evals_kind W A B 128 64 hA hB (by omega) (by omega) (by omega) (by omega) x 4 a1 rfl (Lib.hid fun w => shape_wide w) (Lib.hid fun w => rwidth_wide w)
    have b3 : (a0 == 3) = false := beq_false_of_ne k3
    have b4 : (a0 == 4) = false := beq_false_of_ne k4
    have HS := Lib.hid (shape_no a0 b3 b4)
    have HRW := Lib.hid (rwidth_no a0 b3 b4)
    have hc := check_kind A B 0 0 hA hB (by omega) a0 a1 HS
    exact evals_bad W A B 0 x a0 a1 6 rfl (Lib.hid (width_a 0 0 a0 false HS)) HRW (Lib.hid (eval_bad A B x a0 a1 6 rfl (Lib.hid hc))) (Lib.hid hc) (Lib.hid (rcheck_kind A B 2 1 hA hB (by omega) (by omega) a0 a1 rfl HRW))
  rw [e1, e2, e3, e4] at key
  exact key
end Go.Proofs.Ytfiihbknkglggaa
