/- The law MaddShifts. -/
import Derived.Test.YtfiihbknkglggaaMadS
namespace Go.Proofs.Ytfiihbknkglggaa
open Go Go.RowKit Go.Bv
set_option linter.unusedVariables false
theorem shifts_kind (W : World) (A B wd kd : Nat) (hA : A < 2 ^ 128) (hB : B < 2 ^ 128) (hwk : wd = 2 * kd) (hkd : kd ≤ 64) (hk1 : 1 ≤ kd) (x y u v : BitVec 64) (kind bits : Int) (hq : (wd : Int).tdiv 2 = (kd : Int)) (HS : Hid (∀ w : World, Calls Try.prog 17 #[.int .i64 kind] w fun e w' => e = .returned (.tuple #[.agg #[.int .i64 (wd : Int), .int .i64 (kd : Int), .int .i64 (kd : Int)], .bool true]) ∧ New w w')) (HRW : Hid (∀ w : World, Calls Try.prog 11 #[.int .i64 kind] w fun e w' => e = .returned (.int .i64 (wd : Int)) ∧ New w w')) :
    Calls Try.prog 4 #[.int .i64 kind, .int .i64 bits, .agg #[.int .u64 (W64 (hiN (A))), .int .u64 (W64 (loN (A)))], .agg #[.int .u64 (W64 (hiN (B))), .int .u64 (W64 (loN (B)))], .int .u64 (W64 x), .int .u64 (W64 y), .int .u64 (W64 u), .int .u64 (W64 v)] W fun e w' => e = .returned (.bool true) ∧ Below W.heap.size W w' := by
  have hwd : wd ≤ 128 := by omega
  have fitn : ∀ (z : BitVec 64) (n : Nat), Hid (∀ w : World, Calls Try.prog 18 #[.int .u64 (W64 z), .int .i64 (n : Int)] w fun e w' => e = .returned (.bool (decide (z.toNat < 2 ^ n))) ∧ New w w') := fun z n => Lib.hid fun w => by
    have := fits_a z n w
    rw [shr_none] at this
    exact this
  have keyn : ∀ z : BitVec 64, Hid (∀ w : World, Calls Try.prog 12 #[.int .i64 kind, .int .u64 (W64 z)] w fun e w' => e = .returned (.bool (decide (z.toNat < 2 ^ kd))) ∧ New w w') := fun z => Lib.hid fun w => by
    have := key_a z wd kd kind hq hkd HRW w
    rw [shr_none] at this
    exact this
  have fewn : ∀ (z : BitVec 64) (n : Nat), Hid (∀ w : World, Calls Try.prog 15 #[.agg #[.int .u64 0, .int .u64 (W64 z)], .int .i64 (n : Int)] w fun e w' => e = .returned (.bool (decide (z.toNat < 2 ^ n))) ∧ New w w') := fun z n => Lib.hid fun w => by
    have := few_a z.toNat n (by have := z.isLt; omega) w
    rw [hi_word, lo_word] at this
    exact this
  have bad : ∀ c : Int, (c == 0) = false → (∀ w : World, Calls Try.prog 9 #[.int .i64 kind, .int .i64 bits, .agg #[.int .u64 (W64 (hiN (A))), .int .u64 (W64 (loN (A)))], .agg #[.int .u64 (W64 (hiN (B))), .int .u64 (W64 (loN (B)))]] w fun e w' => e = .returned (.int .i64 c) ∧ New w w') → (∀ w : World, Calls Try.prog 8 #[.int .i64 kind, .int .i64 bits, .agg #[.int .u64 (W64 (hiN (A))), .int .u64 (W64 (loN (A)))], .agg #[.int .u64 (W64 (hiN (B))), .int .u64 (W64 (loN (B)))]] w fun e w' => e = .returned (.int .i64 c) ∧ New w w') → Calls Try.prog 4 #[.int .i64 kind, .int .i64 bits, .agg #[.int .u64 (W64 (hiN (A))), .int .u64 (W64 (loN (A)))], .agg #[.int .u64 (W64 (hiN (B))), .int .u64 (W64 (loN (B)))], .int .u64 (W64 x), .int .u64 (W64 y), .int .u64 (W64 u), .int .u64 (W64 v)] W fun e w' => e = .returned (.bool true) ∧ Below W.heap.size W w' := fun c h h1 h2 =>
    shifts_bad W A B x y u v kind bits c h (Lib.hid (shift_bad A B x y u v kind bits c h (Lib.hid h1))) (Lib.hid h2)
  by_cases h1 : bits < 1
  · exact bad 1 rfl (check_low A B wd kd hA hB hwd kind bits h1 HS) (rcheck_low A B wd kd hA hB (by omega) hkd kind bits hq h1 HRW)
  by_cases h2 : (kd : Int) < bits
  · exact bad 1 rfl (check_high A B wd kd hA hB hwd kind bits h1 h2 HS) (rcheck_high A B wd kd hA hB (by omega) hkd kind bits hq h1 h2 HRW)
  by_cases h3 : A < 2 ^ wd
  rotate_left
  · exact bad 13 rfl (check_a A B wd kd hA hB hwd kind bits (by omega) (by omega) h3 HS) (rcheck_a A B wd kd hA hB (by omega) hkd kind bits hq (by omega) (by omega) h3 HRW)
  by_cases h4 : B < 2 ^ wd
  rotate_left
  · exact bad 13 rfl (check_b A B wd kd hA hB hwd kind bits (by omega) (by omega) h3 h4 HS) (rcheck_b A B wd kd hA hB (by omega) hkd kind bits hq (by omega) (by omega) h3 h4 HRW)
  clear bad
  obtain ⟨j, rfl⟩ : ∃ j : Nat, bits = (j : Int) := ⟨bits.toNat, by omega⟩
  have HC := Lib.hid (check_ok A B wd kd hA hB hwd kind (j : Int) (by omega) (by omega) h3 h4 HS)
  have HR := Lib.hid (rcheck_ok A B wd kd hA hB (by omega) hkd kind (j : Int) hq (by omega) (by omega) h3 h4 HRW)
  have f1 := fitn x kd
  have f2 := fitn y kd
  have f3 := fitn u j
  have f4 := fitn v j
  have e1 := keyn x
  have e2 := keyn y
  have e3 := fewn u j
  have e4 := fewn v j
  by_cases g1 : x.toNat < 2 ^ kd
  rotate_left
  · rw [decide_eq_false g1] at f1 e1
    exact shifts_no1 W A B x y u v kind (j : Int) (Lib.hid (shift_no1 A B wd kd x y u v kind (j : Int) HC HS f1)) HR e1
  rw [decide_eq_true g1] at f1 e1
  by_cases g2 : y.toNat < 2 ^ kd
  rotate_left
  · rw [decide_eq_false g2] at f2 e2
    exact shifts_no2 W A B x y u v kind (j : Int) (Lib.hid (shift_no2 A B wd kd x y u v kind (j : Int) HC HS f1 f2)) HR e1 e2
  rw [decide_eq_true g2] at f2 e2
  by_cases g3 : u.toNat < 2 ^ j
  rotate_left
  · rw [decide_eq_false g3] at f3 e3
    exact shifts_no3 W A B x y u v kind (j : Int) (Lib.hid (shift_no3 A B wd kd x y u v kind (j : Int) HC HS f1 f2 f3)) HR e1 e2 e3
  rw [decide_eq_true g3] at f3 e3
  by_cases g4 : v.toNat < 2 ^ j
  rotate_left
  · rw [decide_eq_false g4] at f4 e4
    exact shifts_no4 W A B x y u v kind (j : Int) (Lib.hid (shift_no4 A B wd kd x y u v kind (j : Int) HC HS f1 f2 f3 f4)) HR e1 e2 e3 e4
  rw [decide_eq_true g4] at f4 e4
  by_cases g5 : x = y
  · have hxy : (x == y) = true := by rw [g5]; exact beq_self_eq_true _
    exact shifts_same W A B x y u v kind (j : Int) hxy (Lib.hid (shift_same A B wd kd x y u v hxy kind (j : Int) HC HS f1 f2 f3 f4)) HR e1 e2 e3 e4
  obtain ⟨C, D, hC, hD, t1, t2, s1, s2⟩ := shift_right A B wd kd j h3 h4 hwk hkd (by omega) (by omega) x y u v g1 g2 g3 g4 g5 kind HS
  have hP : 2 ^ wd ≤ 2 ^ 128 := Nat.pow_le_pow_right (by decide) hwd
  have ev : ∀ (E F : Nat) (z t : BitVec 64), E < 2 ^ 128 → F < 2 ^ 128 → loN (lnN wd E F z.toNat / 2 ^ (wd - j)) = t → Hid (∀ w : World, Calls Try.prog 13 #[.int .i64 kind, .int .i64 (j : Int), .agg #[.int .u64 (W64 (hiN (E))), .int .u64 (W64 (loN (E)))], .agg #[.int .u64 (W64 (hiN (F))), .int .u64 (W64 (loN (F)))], .int .u64 (W64 z)] w fun e w' => e = .returned (.int .u64 (W64 t)) ∧ New w w') := fun E F z t hE hF ht => Lib.hid fun w => by
    have := reval_a E F wd j z kind hE hF hwd (by omega) HRW w
    rw [show (E * z.toNat + F) % 2 ^ wd = lnN wd E F z.toNat from rfl, ht] at this
    exact this
  have wu : loN (lnN wd C D x.toNat / 2 ^ (wd - j)) = u := by rw [t1, hd_div]; exact lo_word u
  have wv : loN (lnN wd C D y.toNat / 2 ^ (wd - j)) = v := by rw [t2, hd_div]; exact lo_word v
  exact shifts_ok W A B C D x y u v _ _ kind (j : Int) (beq_false_of_ne g5) (Lib.hid s1) HR e1 e2 e3 e4 (Lib.hid (rcheck_ok C D wd kd (by omega) (by omega) (by omega) hkd kind (j : Int) hq (by omega) (by omega) hC hD HRW))
    (ev C D x u (by omega) (by omega) wu) (ev C D y v (by omega) (by omega) wv) (ev A B x _ hA hB rfl) (ev A B y _ hA hB rfl) (Lib.hid s2)
theorem MaddShifts_walk (W : World) (a0 : Int) (w0 : (Lit.int .i64 a0).wf = true) (a1 : Int) (w1 : (Lit.int .i64 a1).wf = true) (x2_0 : BitVec 64) (x2_1 : BitVec 64) (x3_0 : BitVec 64) (x3_1 : BitVec 64) (a4 : Int) (w4 : (Lit.int .u64 a4).wf = true) (a5 : Int) (w5 : (Lit.int .u64 a5).wf = true) (a6 : Int) (w6 : (Lit.int .u64 a6).wf = true) (a7 : Int) (w7 : (Lit.int .u64 a7).wf = true) :
    Calls Try.prog 4 #[.int .i64 a0, .int .i64 a1, .agg #[.int .u64 (W64 x2_0), .int .u64 (W64 x2_1)], .agg #[.int .u64 (W64 x3_0), .int .u64 (W64 x3_1)], .int .u64 a4, .int .u64 a5, .int .u64 a6, .int .u64 a7] W fun e w' => e = .returned (.bool true) ∧ Below W.heap.size W w' := by
  obtain ⟨x, rfl⟩ := ex64 a4 (by simp [Lit.wf, IntKind.min, IntKind.max, IntKind.signed, IntKind.bits] at w4; omega)
  obtain ⟨y, rfl⟩ := ex64 a5 (by simp [Lit.wf, IntKind.min, IntKind.max, IntKind.signed, IntKind.bits] at w5; omega)
  obtain ⟨u, rfl⟩ := ex64 a6 (by simp [Lit.wf, IntKind.min, IntKind.max, IntKind.signed, IntKind.bits] at w6; omega)
  obtain ⟨v, rfl⟩ := ex64 a7 (by simp [Lit.wf, IntKind.min, IntKind.max, IntKind.signed, IntKind.bits] at w7; omega)
  have hA := two_lt128 x2_0 x2_1
  have hB := two_lt128 x3_0 x3_1
  have e1 : hiN (two x2_0 x2_1) = x2_0 := two_hi x2_0 x2_1
  have e2 : loN (two x2_0 x2_1) = x2_1 := two_lo x2_0 x2_1
  have e3 : hiN (two x3_0 x3_1) = x3_0 := two_hi x3_0 x3_1
  have e4 : loN (two x3_0 x3_1) = x3_1 := two_lo x3_0 x3_1
  have key : Calls Try.prog 4 #[.int .i64 a0, .int .i64 a1, .agg #[.int .u64 (W64 (hiN (two x2_0 x2_1))), .int .u64 (W64 (loN (two x2_0 x2_1)))], .agg #[.int .u64 (W64 (hiN (two x3_0 x3_1))), .int .u64 (W64 (loN (two x3_0 x3_1)))], .int .u64 (W64 x), .int .u64 (W64 y), .int .u64 (W64 u), .int .u64 (W64 v)] W fun e w' => e = .returned (.bool true) ∧ Below W.heap.size W w' := by
    generalize two x2_0 x2_1 = A at *
    generalize two x3_0 x3_1 = B at *
    by_cases k3 : a0 = 3
    · subst k3
      exact shifts_kind W A B 64 32 hA hB (by omega) (by omega) (by omega) x y u v 3 a1 rfl (Lib.hid fun w => shape_add w) (Lib.hid fun w => rwidth_add w)
    by_cases k4 : a0 = 4
    · subst k4
      exact shifts_kind W A B 128 64 hA hB (by omega) (by omega) (by omega) x y u v 4 a1 rfl (Lib.hid fun w => shape_wide w) (Lib.hid fun w => rwidth_wide w)
    have b3 : (a0 == 3) = false := beq_false_of_ne k3
    have b4 : (a0 == 4) = false := beq_false_of_ne k4
    have HS := Lib.hid (shape_no a0 b3 b4)
    have HRW := Lib.hid (rwidth_no a0 b3 b4)
    have hc := check_kind A B 0 0 hA hB (by omega) a0 a1 HS
    have hs := shift_bad A B x y u v a0 a1 6 rfl (Lib.hid hc)
    exact shifts_bad W A B x y u v a0 a1 6 rfl (Lib.hid hs) (Lib.hid (rcheck_kind A B 2 1 hA hB (by omega) (by omega) a0 a1 rfl HRW))
  rw [e1, e2, e3, e4] at key
  exact key
end Go.Proofs.Ytfiihbknkglggaa
