/- The law MaddStays. -/
import Derived.Test.YtfiihbknkglggaaMadP
namespace Go.Proofs.Ytfiihbknkglggaa
open Go Go.RowKit Go.Bv
set_option linter.unusedVariables false
theorem stays_kind (W : World) (A B wd kd : Nat) (hA : A < 2 ^ 128) (hB : B < 2 ^ 128) (hwk : wd = 2 * kd) (hkd : kd ≤ 64) (hk1 : 1 ≤ kd) (x y u v : BitVec 64) (kind bits : Int) (hq : (wd : Int).tdiv 2 = (kd : Int)) (HS : Hid (∀ w : World, Calls Try.prog 17 #[.int .i64 kind] w fun e w' => e = .returned (.tuple #[.agg #[.int .i64 (wd : Int), .int .i64 (kd : Int), .int .i64 (kd : Int)], .bool true]) ∧ New w w')) (HRW : Hid (∀ w : World, Calls Try.prog 11 #[.int .i64 kind] w fun e w' => e = .returned (.int .i64 (wd : Int)) ∧ New w w')) :
    Calls Try.prog 5 #[.int .i64 kind, .int .i64 bits, .agg #[.int .u64 (W64 (hiN (A))), .int .u64 (W64 (loN (A)))], .agg #[.int .u64 (W64 (hiN (B))), .int .u64 (W64 (loN (B)))], .int .u64 (W64 x), .int .u64 (W64 y), .int .u64 (W64 u), .int .u64 (W64 v)] W fun e w' => e = .returned (.bool true) ∧ Below W.heap.size W w' := by
  have hwd : wd ≤ 128 := by omega
  have fitn : ∀ (z : BitVec 64) (n : Nat), Hid (∀ w : World, Calls Try.prog 18 #[.int .u64 (W64 z), .int .i64 (n : Int)] w fun e w' => e = .returned (.bool (decide (z.toNat < 2 ^ n))) ∧ New w w') := fun z n => Lib.hid fun w => by
    have := fits_a z n w
    rw [shr_none] at this
    exact this
  have err : ∀ c : Int, (c == 0) = false → (∀ w : World, Calls Try.prog 14 #[.int .i64 kind, .int .i64 bits, .agg #[.int .u64 (W64 (hiN (A))), .int .u64 (W64 (loN (A)))], .agg #[.int .u64 (W64 (hiN (B))), .int .u64 (W64 (loN (B)))], .int .u64 (W64 x), .int .u64 (W64 y), .int .u64 (W64 u), .int .u64 (W64 v)] w fun e w' => e = .returned (.tuple #[.agg #[.int .u64 0, .int .u64 0], .agg #[.int .u64 0, .int .u64 0], .int .i64 c]) ∧ New w w') → Calls Try.prog 5 #[.int .i64 kind, .int .i64 bits, .agg #[.int .u64 (W64 (hiN (A))), .int .u64 (W64 (loN (A)))], .agg #[.int .u64 (W64 (hiN (B))), .int .u64 (W64 (loN (B)))], .int .u64 (W64 x), .int .u64 (W64 y), .int .u64 (W64 u), .int .u64 (W64 v)] W fun e w' => e = .returned (.bool true) ∧ Below W.heap.size W w' := fun c h h1 =>
    stays_err W A B x y u v kind bits c h (Lib.hid h1)
  have bad : ∀ c : Int, (c == 0) = false → (∀ w : World, Calls Try.prog 9 #[.int .i64 kind, .int .i64 bits, .agg #[.int .u64 (W64 (hiN (A))), .int .u64 (W64 (loN (A)))], .agg #[.int .u64 (W64 (hiN (B))), .int .u64 (W64 (loN (B)))]] w fun e w' => e = .returned (.int .i64 c) ∧ New w w') → Calls Try.prog 5 #[.int .i64 kind, .int .i64 bits, .agg #[.int .u64 (W64 (hiN (A))), .int .u64 (W64 (loN (A)))], .agg #[.int .u64 (W64 (hiN (B))), .int .u64 (W64 (loN (B)))], .int .u64 (W64 x), .int .u64 (W64 y), .int .u64 (W64 u), .int .u64 (W64 v)] W fun e w' => e = .returned (.bool true) ∧ Below W.heap.size W w' := fun c h h1 =>
    err c h (shift_bad A B x y u v kind bits c h (Lib.hid h1))
  by_cases h1 : bits < 1
  · exact bad 1 rfl (check_low A B wd kd hA hB hwd kind bits h1 HS)
  by_cases h2 : (kd : Int) < bits
  · exact bad 1 rfl (check_high A B wd kd hA hB hwd kind bits h1 h2 HS)
  by_cases h3 : A < 2 ^ wd
  rotate_left
  · exact bad 13 rfl (check_a A B wd kd hA hB hwd kind bits (by omega) (by omega) h3 HS)
  by_cases h4 : B < 2 ^ wd
  rotate_left
  · exact bad 13 rfl (check_b A B wd kd hA hB hwd kind bits (by omega) (by omega) h3 h4 HS)
  clear bad
  obtain ⟨j, rfl⟩ : ∃ j : Nat, bits = (j : Int) := ⟨bits.toNat, by omega⟩
  have HC := Lib.hid (check_ok A B wd kd hA hB hwd kind (j : Int) (by omega) (by omega) h3 h4 HS)
  have f1 := fitn x kd
  have f2 := fitn y kd
  have f3 := fitn u j
  have f4 := fitn v j
  by_cases g1 : x.toNat < 2 ^ kd
  rotate_left
  · rw [decide_eq_false g1] at f1
    exact err 2 rfl (shift_no1 A B wd kd x y u v kind (j : Int) HC HS f1)
  rw [decide_eq_true g1] at f1
  by_cases g2 : y.toNat < 2 ^ kd
  rotate_left
  · rw [decide_eq_false g2] at f2
    exact err 2 rfl (shift_no2 A B wd kd x y u v kind (j : Int) HC HS f1 f2)
  rw [decide_eq_true g2] at f2
  by_cases g3 : u.toNat < 2 ^ j
  rotate_left
  · rw [decide_eq_false g3] at f3
    exact err 2 rfl (shift_no3 A B wd kd x y u v kind (j : Int) HC HS f1 f2 f3)
  rw [decide_eq_true g3] at f3
  by_cases g4 : v.toNat < 2 ^ j
  rotate_left
  · rw [decide_eq_false g4] at f4
    exact err 2 rfl (shift_no4 A B wd kd x y u v kind (j : Int) HC HS f1 f2 f3 f4)
  rw [decide_eq_true g4] at f4
  by_cases g5 : x = y
  · exact err 15 rfl (shift_same A B wd kd x y u v (by rw [g5]; exact beq_self_eq_true _) kind (j : Int) HC HS f1 f2 f3 f4)
  obtain ⟨C, D, hC, hD, t1, t2, s1, _⟩ := shift_right A B wd kd j h3 h4 hwk hkd (by omega) (by omega) x y u v g1 g2 g3 g4 g5 kind HS
  have hP : 2 ^ wd ≤ 2 ^ 128 := Nat.pow_le_pow_right (by decide) hwd
  exact stays_ok W A B C D (fun z => lnN wd A B z.toNat % 2 ^ (wd - j)) (fun z => lnN wd C D z.toNat % 2 ^ (wd - j)) x y u v kind (j : Int) (Lib.hid s1) (Lib.hid (rcheck_ok A B wd kd hA hB (by omega) hkd kind (j : Int) hq (by omega) (by omega) h3 h4 HRW))
    (Lib.hid fun z => low_a A B wd j z kind hA hB hwd (by omega) (by omega) HRW) (Lib.hid fun z => low_a C D wd j z kind (by omega) (by omega) hwd (by omega) (by omega) HRW)
    (by show lnN wd A B x.toNat % 2 ^ (wd - j) = lnN wd C D x.toNat % 2 ^ (wd - j); rw [t1, hd_mod]) (by show lnN wd A B y.toNat % 2 ^ (wd - j) = lnN wd C D y.toNat % 2 ^ (wd - j); rw [t2, hd_mod])
theorem MaddStays_walk (W : World) (a0 : Int) (w0 : (Lit.int .i64 a0).wf = true) (a1 : Int) (w1 : (Lit.int .i64 a1).wf = true) (x2_0 : BitVec 64) (x2_1 : BitVec 64) (x3_0 : BitVec 64) (x3_1 : BitVec 64) (a4 : Int) (w4 : (Lit.int .u64 a4).wf = true) (a5 : Int) (w5 : (Lit.int .u64 a5).wf = true) (a6 : Int) (w6 : (Lit.int .u64 a6).wf = true) (a7 : Int) (w7 : (Lit.int .u64 a7).wf = true) :
    Calls Try.prog 5 #[.int .i64 a0, .int .i64 a1, .agg #[.int .u64 (W64 x2_0), .int .u64 (W64 x2_1)], .agg #[.int .u64 (W64 x3_0), .int .u64 (W64 x3_1)], .int .u64 a4, .int .u64 a5, .int .u64 a6, .int .u64 a7] W fun e w' => e = .returned (.bool true) ∧ Below W.heap.size W w' := by
  obtain ⟨x, rfl⟩ := ex64 a4 (by simp [Lit.wf, IntKind.min, IntKind.max, IntKind.signed, IntKind.bits] at w4; omega)
  obtain ⟨y, rfl⟩ := ex64 a5 (by simp [Lit.wf, IntKind.min, IntKind.max, IntKind.signed, IntKind.bits] at w5; omega)
  obtain ⟨u, rfl⟩ := ex64 a6 (by simp [Lit.wf, IntKind.min, IntKind.max, IntKind.signed, IntKind.bits] at w6; omega)
  obtain ⟨v, rfl⟩ := ex64 a7 (by simp [Lit.wf, IntKind.min, IntKind.max, IntKind.signed, IntKind.bits] at w7; omega)
  have hA := two_lt128 x2_0 x2_1
  have hB := two_lt128 x3_0 x3_1
  have e1 : hiN (two x2_0 x2_1) = x2_0 := two_hi x2_0 x2_1
  have e2 : loN (two x2_0 x2_1) = x2_1 := two_lo x2_0 x2_1
  have e3 : hiN (two x3_0 x3_1) = x3_0 := two_hi x3_0 x3_1
  have e4 : loN (two x3_0 x3_1) = x3_1 := two_lo x3_0 x3_1
  have key : Calls Try.prog 5 #[.int .i64 a0, .int .i64 a1, .agg #[.int .u64 (W64 (hiN (two x2_0 x2_1))), .int .u64 (W64 (loN (two x2_0 x2_1)))], .agg #[.int .u64 (W64 (hiN (two x3_0 x3_1))), .int .u64 (W64 (loN (two x3_0 x3_1)))], .int .u64 (W64 x), .int .u64 (W64 y), .int .u64 (W64 u), .int .u64 (W64 v)] W fun e w' => e = .returned (.bool true) ∧ Below W.heap.size W w' := by
    generalize two x2_0 x2_1 = A at *
    generalize two x3_0 x3_1 = B at *
    by_cases k3 : a0 = 3
    · subst k3
      exact stays_kind W A B 64 32 hA hB (by omega) (by omega) (by omega) x y u v 3 a1 rfl (Lib.hid fun w => shape_add w) (Lib.hid fun w => rwidth_add w)
    by_cases k4 : a0 = 4
    · subst k4
      exact stays_kind W A B 128 64 hA hB (by omega) (by omega) (by omega) x y u v 4 a1 rfl (Lib.hid fun w => shape_wide w) (Lib.hid fun w => rwidth_wide w)
    have b3 : (a0 == 3) = false := beq_false_of_ne k3
    have b4 : (a0 == 4) = false := beq_false_of_ne k4
    have HS := Lib.hid (shape_no a0 b3 b4)
    have HRW := Lib.hid (rwidth_no a0 b3 b4)
    have hc := check_kind A B 0 0 hA hB (by omega) a0 a1 HS
    have hs := shift_bad A B x y u v a0 a1 6 rfl (Lib.hid hc)
    exact stays_err W A B x y u v a0 a1 6 rfl (Lib.hid hs)
  rw [e1, e2, e3, e4] at key
  exact key
end Go.Proofs.Ytfiihbknkglggaa
