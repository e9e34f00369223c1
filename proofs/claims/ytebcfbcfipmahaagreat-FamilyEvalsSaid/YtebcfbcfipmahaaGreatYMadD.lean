import Derived.Test.YtebcfbcfipmahaaGreatYMadC
import Derived.Test.YtebcfbcfipmahaaGreatYRanA
section
/- Contracts of layer 21: Eval; the document's own Width, Few, Check, Key, Line, Eval. -/
namespace Go.Proofs.YtebcfbcfipmahaaGreat
open Go.RowKit Go.Bv
set_option linter.unusedVariables false
set_option maxHeartbeats 1000000 in
theorem eval_badA (A B : Nat) (x : BitVec 64) (kind bits c : Int) (h : (c == 0) = false) (HC : Hid (∀ w : World, Calls Tryz.prog 125 #[.int .i64 kind, .int .i64 bits, .agg #[.int .u64 (W64 (hiN (A))), .int .u64 (W64 (loN (A)))], .agg #[.int .u64 (W64 (hiN (B))), .int .u64 (W64 (loN (B)))]] w fun e w' => e = .returned (.int .i64 c) ∧ New w w')) (w : World) : Calls Tryz.prog 85 #[.int .i64 kind, .int .i64 bits, .agg #[.int .u64 (W64 (hiN (A))), .int .u64 (W64 (loN (A)))], .agg #[.int .u64 (W64 (hiN (B))), .int .u64 (W64 (loN (B)))], .int .u64 (W64 x)] w fun e w' => e = .returned (.tuple #[.int .u64 0, .int .i64 c]) ∧ New w w' := by
  obtain ⟨hbl, HNN⟩ := boxes2 w (.cells #[.int .u64 (W64 (hiN (A))), .int .u64 (W64 (loN (A)))] 63) (.cells #[.int .u64 (W64 (hiN (B))), .int .u64 (W64 (loN (B)))] 63)
  obtain ⟨hb0, hb1⟩ := hbl
  have HN := Lib.hid HNN
  obtain ⟨w0, hw0⟩ : ∃ w0, (((w.alloc (.cells #[.int .u64 (W64 (hiN (A))), .int .u64 (W64 (loN (A)))] 63))).alloc (.cells #[.int .u64 (W64 (hiN (B))), .int .u64 (W64 (loN (B)))] 63)) = w0 := ⟨_, rfl⟩
  rw [hw0] at HN hb0 hb1
  have HW0 := Lib.hid hw0
  have HB0 := Lib.hid hb0
  have HB1 := Lib.hid hb1
  clear hw0 HNN hb0 hb1
  have x0 := cell_of_row _ _ 0 _ _ _ HB0.out
  have x1 := cell_of_row _ _ 1 _ _ _ HB0.out
  have y0 := cell_of_row _ _ 0 _ _ _ HB1.out
  have y1 := cell_of_row _ _ 1 _ _ _ HB1.out
  go_enter Tryz.func85, Tryz.ntmps85
  go_wp2_with (rw [HW0.out])
  refine (HC.out _).mono ?_
  rintro e w9 ⟨rfl, hn⟩
  replace HN := Lib.hid (HN.out.trans hn)
  replace HB0 := Lib.hid ((hn.block _ (lt_of_block HB0.out)).trans HB0.out)
  replace HB1 := Lib.hid ((hn.block _ (lt_of_block HB1.out)).trans HB1.out)
  clear hn x0 x1 y0 y1
  go_wp2
  go_returns
  exact ⟨rfl, HN.out⟩
set_option maxHeartbeats 1000000 in
theorem eval_no (A B wd kd j : Nat) (x : BitVec 64) (hA : A < 2 ^ 128) (hB : B < 2 ^ 128) (hwd : wd ≤ 128) (hj : j ≤ wd) (kind : Int) (hfit : (x >>> kd == 0#64) = false) (HS : Hid (∀ w : World, Calls Tryz.prog 126 #[.int .i64 kind] w fun e w' => e = .returned (.tuple #[.agg #[.int .i64 (wd : Int), .int .i64 (kd : Int), .int .i64 (kd : Int)], .bool true]) ∧ New w w')) (HC : Hid (∀ w : World, Calls Tryz.prog 125 #[.int .i64 kind, .int .i64 (j : Int), .agg #[.int .u64 (W64 (hiN (A))), .int .u64 (W64 (loN (A)))], .agg #[.int .u64 (W64 (hiN (B))), .int .u64 (W64 (loN (B)))]] w fun e w' => e = .returned (.int .i64 0) ∧ New w w')) (w : World) : Calls Tryz.prog 85 #[.int .i64 kind, .int .i64 (j : Int), .agg #[.int .u64 (W64 (hiN (A))), .int .u64 (W64 (loN (A)))], .agg #[.int .u64 (W64 (hiN (B))), .int .u64 (W64 (loN (B)))], .int .u64 (W64 x)] w fun e w' => e = .returned (.tuple #[.int .u64 0, .int .i64 2]) ∧ New w w' := by
  have HF := Lib.hid (fits_a x kd)
  rw [hfit] at HF
  clear hA hB hwd hj hfit
  obtain ⟨hbl, HNN⟩ := boxes2 w (.cells #[.int .u64 (W64 (hiN (A))), .int .u64 (W64 (loN (A)))] 63) (.cells #[.int .u64 (W64 (hiN (B))), .int .u64 (W64 (loN (B)))] 63)
  obtain ⟨hb0, hb1⟩ := hbl
  have HN := Lib.hid HNN
  obtain ⟨w0, hw0⟩ : ∃ w0, (((w.alloc (.cells #[.int .u64 (W64 (hiN (A))), .int .u64 (W64 (loN (A)))] 63))).alloc (.cells #[.int .u64 (W64 (hiN (B))), .int .u64 (W64 (loN (B)))] 63)) = w0 := ⟨_, rfl⟩
  rw [hw0] at HN hb0 hb1
  have HW0 := Lib.hid hw0
  have HB0 := Lib.hid hb0
  have HB1 := Lib.hid hb1
  clear hw0 HNN hb0 hb1
  have x0 := cell_of_row _ _ 0 _ _ _ HB0.out
  have x1 := cell_of_row _ _ 1 _ _ _ HB0.out
  have y0 := cell_of_row _ _ 0 _ _ _ HB1.out
  have y1 := cell_of_row _ _ 1 _ _ _ HB1.out
  go_enter Tryz.func85, Tryz.ntmps85
  go_wp2_with (rw [HW0.out])
  refine (HC.out _).mono ?_
  rintro e w9 ⟨rfl, hn⟩
  replace HN := Lib.hid (HN.out.trans hn)
  replace HB0 := Lib.hid ((hn.block _ (lt_of_block HB0.out)).trans HB0.out)
  replace HB1 := Lib.hid ((hn.block _ (lt_of_block HB1.out)).trans HB1.out)
  clear hn x0 x1 y0 y1
  go_wp2_with fail
  refine (HS.out _).mono ?_
  rintro e w9 ⟨rfl, hn⟩
  replace HN := Lib.hid (HN.out.trans hn)
  replace HB0 := Lib.hid ((hn.block _ (lt_of_block HB0.out)).trans HB0.out)
  replace HB1 := Lib.hid ((hn.block _ (lt_of_block HB1.out)).trans HB1.out)
  clear hn
  have hx := heap_alloc_new w9 (.cells #[.int .i64 (wd : Int), .int .i64 (kd : Int), .int .i64 (kd : Int)] 133)
  have hn2 := (New.refl w9).alloc (.cells #[.int .i64 (wd : Int), .int .i64 (kd : Int), .int .i64 (kd : Int)] 133)
  obtain ⟨wb1, hw2⟩ : ∃ w2, w9.alloc (.cells #[.int .i64 (wd : Int), .int .i64 (kd : Int), .int .i64 (kd : Int)] 133) = w2 := ⟨_, rfl⟩
  rw [hw2] at hx hn2
  obtain ⟨q1, hq⟩ : ∃ q, w9.heap.size = q := ⟨_, rfl⟩
  rw [hq] at hx
  have HX1 := Lib.hid hx
  replace HN := Lib.hid (HN.out.trans hn2)
  have HM1 := Lib.hid hn2
  have HE1 := Lib.hid (show w9.alloc (.cells #[.int .i64 (wd : Int), .int .i64 (kd : Int), .int .i64 (kd : Int)] 133) = wb1 ∧ w9.heap.size = q1 from ⟨hw2, hq⟩)
  clear hx hn2 hw2 hq
  replace HB0 := Lib.hid ((HM1.out.block _ (lt_of_block HB0.out)).trans HB0.out)
  replace HB1 := Lib.hid ((HM1.out.block _ (lt_of_block HB1.out)).trans HB1.out)
  have x0 := cell_of_row _ _ 0 _ _ _ HX1.out
  have x1 := cell_of_row _ _ 1 _ _ _ HX1.out
  have x2 := cell_of_row _ _ 2 _ _ _ HX1.out
  go_wp2_with (rw [HE1.out.1, HE1.out.2])
  refine (HF.out _).mono ?_
  rintro e w9 ⟨rfl, hn⟩
  replace HN := Lib.hid (HN.out.trans hn)
  replace HB0 := Lib.hid ((hn.block _ (lt_of_block HB0.out)).trans HB0.out)
  replace HB1 := Lib.hid ((hn.block _ (lt_of_block HB1.out)).trans HB1.out)
  replace HX1 := Lib.hid ((hn.block _ (lt_of_block HX1.out)).trans HX1.out)
  clear hn x0 x1 x2
  go_wp2
  go_returns
  exact ⟨rfl, HN.out⟩
set_option maxHeartbeats 1000000 in
theorem eval_okA (A B wd kd j : Nat) (x : BitVec 64) (hA : A < 2 ^ 128) (hB : B < 2 ^ 128) (hwd : wd ≤ 128) (hj : j ≤ wd) (kind : Int) (hfit : (x >>> kd == 0#64) = true) (HS : Hid (∀ w : World, Calls Tryz.prog 126 #[.int .i64 kind] w fun e w' => e = .returned (.tuple #[.agg #[.int .i64 (wd : Int), .int .i64 (kd : Int), .int .i64 (kd : Int)], .bool true]) ∧ New w w')) (HC : Hid (∀ w : World, Calls Tryz.prog 125 #[.int .i64 kind, .int .i64 (j : Int), .agg #[.int .u64 (W64 (hiN (A))), .int .u64 (W64 (loN (A)))], .agg #[.int .u64 (W64 (hiN (B))), .int .u64 (W64 (loN (B)))]] w fun e w' => e = .returned (.int .i64 0) ∧ New w w')) (w : World) : Calls Tryz.prog 85 #[.int .i64 kind, .int .i64 (j : Int), .agg #[.int .u64 (W64 (hiN (A))), .int .u64 (W64 (loN (A)))], .agg #[.int .u64 (W64 (hiN (B))), .int .u64 (W64 (loN (B)))], .int .u64 (W64 x)] w fun e w' => e = .returned (.tuple #[.int .u64 (W64 (loN ((A * x.toNat + B) % 2 ^ wd / 2 ^ (wd - j)))), .int .i64 0]) ∧ New w w' := by
  have HF := Lib.hid (fits_a x kd)
  rw [hfit] at HF
  have HSM := Lib.hid (sum_a A B wd kd x hA hB hwd)
  have hR : (A * x.toNat + B) % 2 ^ wd < 2 ^ 128 := Nat.lt_of_lt_of_le (Nat.mod_lt _ (Nat.two_pow_pos _)) (Nat.pow_le_pow_right (by decide) hwd)
  have hsh := shr_n ((A * x.toNat + B) % 2 ^ wd) (wd - j) hR (by omega)
  rw [show ((wd - j : Nat) : Int) = (wd : Int) - (j : Int) by omega] at hsh
  have HSH := Lib.hid hsh
  have hw : wrap64 ((wd : Int) - (j : Int)) = (wd : Int) - (j : Int) := by unfold wrap64; omega
  have hw2 : IntKind.i64.wrap ((wd : Int) - (j : Int)) = (wd : Int) - (j : Int) := by first | (rw [IntKind.wrap_i64]; exact hw) | (simp [IntKind.wrap, IntKind.signed, IntKind.bits]; omega)
  generalize hiN ((A * x.toNat + B) % 2 ^ wd / 2 ^ (wd - j)) = e1 at *
  generalize loN ((A * x.toNat + B) % 2 ^ wd / 2 ^ (wd - j)) = e0 at *
  have hfd : ∀ w, (Instr.field 63 (.agg #[.int .u64 (W64 e1), .int .u64 (W64 e0)]) 1).run Tryz.prog w = .ok (.int .u64 (W64 e0)) w := fun w => by kernel_rfl
  generalize (A * x.toNat + B) % 2 ^ wd = R at *
  clear hR hsh
  clear hA hB hwd hj hfit
  obtain ⟨hbl, HNN⟩ := boxes2 w (.cells #[.int .u64 (W64 (hiN (A))), .int .u64 (W64 (loN (A)))] 63) (.cells #[.int .u64 (W64 (hiN (B))), .int .u64 (W64 (loN (B)))] 63)
  obtain ⟨hb0, hb1⟩ := hbl
  have HN := Lib.hid HNN
  obtain ⟨w0, hw0⟩ : ∃ w0, (((w.alloc (.cells #[.int .u64 (W64 (hiN (A))), .int .u64 (W64 (loN (A)))] 63))).alloc (.cells #[.int .u64 (W64 (hiN (B))), .int .u64 (W64 (loN (B)))] 63)) = w0 := ⟨_, rfl⟩
  rw [hw0] at HN hb0 hb1
  have HW0 := Lib.hid hw0
  have HB0 := Lib.hid hb0
  have HB1 := Lib.hid hb1
  clear hw0 HNN hb0 hb1
  have x0 := cell_of_row _ _ 0 _ _ _ HB0.out
  have x1 := cell_of_row _ _ 1 _ _ _ HB0.out
  have y0 := cell_of_row _ _ 0 _ _ _ HB1.out
  have y1 := cell_of_row _ _ 1 _ _ _ HB1.out
  go_enter Tryz.func85, Tryz.ntmps85
  go_wp2_with (rw [HW0.out])
  refine (HC.out _).mono ?_
  rintro e w9 ⟨rfl, hn⟩
  replace HN := Lib.hid (HN.out.trans hn)
  replace HB0 := Lib.hid ((hn.block _ (lt_of_block HB0.out)).trans HB0.out)
  replace HB1 := Lib.hid ((hn.block _ (lt_of_block HB1.out)).trans HB1.out)
  clear hn x0 x1 y0 y1
  go_wp2_with fail
  refine (HS.out _).mono ?_
  rintro e w9 ⟨rfl, hn⟩
  replace HN := Lib.hid (HN.out.trans hn)
  replace HB0 := Lib.hid ((hn.block _ (lt_of_block HB0.out)).trans HB0.out)
  replace HB1 := Lib.hid ((hn.block _ (lt_of_block HB1.out)).trans HB1.out)
  clear hn
  have hx := heap_alloc_new w9 (.cells #[.int .i64 (wd : Int), .int .i64 (kd : Int), .int .i64 (kd : Int)] 133)
  have hn2 := (New.refl w9).alloc (.cells #[.int .i64 (wd : Int), .int .i64 (kd : Int), .int .i64 (kd : Int)] 133)
  obtain ⟨wb1, hw2⟩ : ∃ w2, w9.alloc (.cells #[.int .i64 (wd : Int), .int .i64 (kd : Int), .int .i64 (kd : Int)] 133) = w2 := ⟨_, rfl⟩
  rw [hw2] at hx hn2
  obtain ⟨q1, hq⟩ : ∃ q, w9.heap.size = q := ⟨_, rfl⟩
  rw [hq] at hx
  have HX1 := Lib.hid hx
  replace HN := Lib.hid (HN.out.trans hn2)
  have HM1 := Lib.hid hn2
  have HE1 := Lib.hid (show w9.alloc (.cells #[.int .i64 (wd : Int), .int .i64 (kd : Int), .int .i64 (kd : Int)] 133) = wb1 ∧ w9.heap.size = q1 from ⟨hw2, hq⟩)
  clear hx hn2 hw2 hq
  replace HB0 := Lib.hid ((HM1.out.block _ (lt_of_block HB0.out)).trans HB0.out)
  replace HB1 := Lib.hid ((HM1.out.block _ (lt_of_block HB1.out)).trans HB1.out)
  have x0 := cell_of_row _ _ 0 _ _ _ HX1.out
  have x1 := cell_of_row _ _ 1 _ _ _ HX1.out
  have x2 := cell_of_row _ _ 2 _ _ _ HX1.out
  go_wp2_with (rw [HE1.out.1, HE1.out.2])
  refine (HF.out _).mono ?_
  rintro e w9 ⟨rfl, hn⟩
  replace HN := Lib.hid (HN.out.trans hn)
  replace HB0 := Lib.hid ((hn.block _ (lt_of_block HB0.out)).trans HB0.out)
  replace HB1 := Lib.hid ((hn.block _ (lt_of_block HB1.out)).trans HB1.out)
  replace HX1 := Lib.hid ((hn.block _ (lt_of_block HX1.out)).trans HX1.out)
  clear hn x0 x1 x2
  go_wp2_with fail
  refine wp_region_class (fun w' => (w'.heap[w.heap.size]? = some (.cells #[.int .u64 (W64 (hiN (A))), .int .u64 (W64 (loN (A)))] 63) ∧ w'.heap[(w.heap.size + 1)]? = some (.cells #[.int .u64 (W64 (hiN (B))), .int .u64 (W64 (loN (B)))] 63) ∧ w'.heap[q1]? = some (.cells #[.int .i64 (wd : Int), .int .i64 (kd : Int), .int .i64 (kd : Int)] 133)) ∧ New w9 w') (by kernel_rfl) (by kernel_rfl) ⟨⟨((New.refl w9).drew.block _ (lt_of_block HB0.out)).trans HB0.out, ((New.refl w9).drew.block _ (lt_of_block HB1.out)).trans HB1.out, ((New.refl w9).drew.block _ (lt_of_block HX1.out)).trans HX1.out⟩, (New.refl _).drew⟩ ?_
  intro I _ f hall hback
  have HSTEP : Hid (∀ n w', New (f n) w' → ∃ m, w' = f m) := Lib.hid fun n w' hn => hback w' ⟨⟨(hn.block _ (lt_of_block ((hall n).1.1))).trans ((hall n).1.1), (hn.block _ (lt_of_block ((hall n).1.2.1))).trans ((hall n).1.2.1), (hn.block _ (lt_of_block ((hall n).1.2.2))).trans ((hall n).1.2.2)⟩, (hall n).2.trans hn⟩
  have HALL := Lib.hid fun n => (hall n).2
  have s0 := fun n => cell_of_row _ _ 0 _ _ _ ((hall n).1.1)
  have s1 := fun n => cell_of_row _ _ 1 _ _ _ ((hall n).1.1)
  have s2 := fun n => cell_of_row _ _ 0 _ _ _ ((hall n).1.2.1)
  have s3 := fun n => cell_of_row _ _ 1 _ _ _ ((hall n).1.2.1)
  have s4 := fun n => cell_of_row _ _ 0 _ _ _ ((hall n).1.2.2)
  have s5 := fun n => cell_of_row _ _ 1 _ _ _ ((hall n).1.2.2)
  have s6 := fun n => cell_of_row _ _ 2 _ _ _ ((hall n).1.2.2)
  clear hall hback
  repeat (go_big_quiet_step (first
    | (go_at_call 129; refine class_new HSTEP.out (HSM.out _))
    | (go_at_call 128; refine class_new HSTEP.out (HSH.out _))))
  refine wpQuiet_nil ?_
  rintro w9 ⟨n1, hw1⟩
  have hS := HALL.out n1
  rw [← hw1] at hS
  replace HB0 := Lib.hid ((hS.block _ (lt_of_block HB0.out)).trans HB0.out)
  replace HB1 := Lib.hid ((hS.block _ (lt_of_block HB1.out)).trans HB1.out)
  replace HX1 := Lib.hid ((hS.block _ (lt_of_block HX1.out)).trans HX1.out)
  replace HN := Lib.hid (HN.out.trans hS)
  clear HALL HSTEP hw1 hS s0 s1 s2 s3 s4 s5 s6
  go_wp2
  go_returns
  exact ⟨rfl, HN.out⟩
end Go.Proofs.YtebcfbcfipmahaaGreat
end
section
/- The document's own layer 21: Width, Few, Check, Key, Line, Eval. -/
namespace Go.Proofs.YtebcfbcfipmahaaGreat
open Go.RowKit Go.Bv
set_option linter.unusedVariables false
theorem rwidth_add (w : World) : Calls Tryz.prog 57 #[.int .i64 3] w fun e w' => e = .returned (.int .i64 64) ∧ New w w' := by
  go_enter Tryz.func57, Tryz.ntmps57
  go_wp2
  go_ret
  exact ⟨rfl, New.refl _⟩
theorem rwidth_wide (w : World) : Calls Tryz.prog 57 #[.int .i64 4] w fun e w' => e = .returned (.int .i64 128) ∧ New w w' := by
  go_enter Tryz.func57, Tryz.ntmps57
  go_wp2
  go_ret
  exact ⟨rfl, New.refl _⟩
theorem rwidth_no (kind : Int) (h3 : (kind == 3) = false) (h4 : (kind == 4) = false) (w : World) : Calls Tryz.prog 57 #[.int .i64 kind] w fun e w' => e = .returned (.int .i64 0) ∧ New w w' := by
  go_enter Tryz.func57, Tryz.ntmps57
  go_wp2
  go_ret
  exact ⟨rfl, New.refl _⟩
set_option maxHeartbeats 1000000 in
theorem line_a (A B wd : Nat) (x : BitVec 64) (hA : A < 2 ^ 128) (hB : B < 2 ^ 128) (hwd : wd ≤ 128) (w : World) : Calls Tryz.prog 60 #[.int .i64 (wd : Int), .agg #[.int .u64 (W64 (hiN (A))), .int .u64 (W64 (loN (A)))], .agg #[.int .u64 (W64 (hiN (B))), .int .u64 (W64 (loN (B)))], .int .u64 (W64 x)] w fun e w' => ∃ v, e = .returned v ∧ w'.ownsRow w.heap.size 3 1 v wd ((bitsOf ((A * x.toNat + B) % 2 ^ wd) wd).map fun y => .int .i64 y) ∧ New w w' := by
  have ho1 := of2_own (hiN A) (loN A)
  rw [two_n hA] at ho1
  have ho2 := of2_own (hiN B) (loN B)
  rw [two_n hB] at ho2
  have HO1 := Lib.hid ho1
  have HO2 := Lib.hid ho2
  have HO3 := Lib.hid (fun w => of_own x 64 64 (by omega) rfl w)
  have hm := fun a1 c1 a2 c2 w h1 h2 => bmul_own A x.toNat 128 64 c1 c2 a1 a2 (wd : Int) wd rfl (by omega) (by omega) w h1 hA h2 x.isLt
  have hmod : bitsOf (A * x.toNat) wd = bitsOf (A * x.toNat % 2 ^ wd) wd := (bitsOf_mod _ _).symm
  rw [hmod] at hm
  have HM := Lib.hid hm
  have hlt : A * x.toNat % 2 ^ wd < 2 ^ wd := Nat.mod_lt _ (Nat.two_pow_pos _)
  have ha := fun a1 c1 a2 c2 w h1 h2 => badd_own (A * x.toNat % 2 ^ wd) B wd 128 c1 c2 a1 a2 (wd : Int) wd rfl (by omega) w h1 hlt h2 hB
  have hmod2 : bitsOf (A * x.toNat % 2 ^ wd + B) wd = bitsOf ((A * x.toNat + B) % 2 ^ wd) wd := by rw [← bitsOf_mod, Nat.mod_add_mod]
  rw [hmod2] at ha
  have HAD := Lib.hid ha
  have HWD : Hid (wd ≤ 128) := Lib.hid hwd
  generalize (A * x.toNat + B) % 2 ^ wd = R at *
  generalize A * x.toNat % 2 ^ wd = M at *
  generalize x.toNat = xn at *
  clear ho1 ho2 hm hmod hmod2 hlt ha hA hB hwd
  obtain ⟨hbl, HNN⟩ := boxes2 w (.cells #[.int .u64 (W64 (hiN (A))), .int .u64 (W64 (loN (A)))] 63) (.cells #[.int .u64 (W64 (hiN (B))), .int .u64 (W64 (loN (B)))] 63)
  obtain ⟨hb0, hb1⟩ := hbl
  have HN := Lib.hid HNN
  obtain ⟨w0, hw0⟩ : ∃ w0, (((w.alloc (.cells #[.int .u64 (W64 (hiN (A))), .int .u64 (W64 (loN (A)))] 63))).alloc (.cells #[.int .u64 (W64 (hiN (B))), .int .u64 (W64 (loN (B)))] 63)) = w0 := ⟨_, rfl⟩
  rw [hw0] at HN hb0 hb1
  have HW0 := Lib.hid hw0
  have HB0 := Lib.hid hb0
  have HB1 := Lib.hid hb1
  clear hw0 HNN hb0 hb1
  have x0 := cell_of_row _ _ 0 _ _ _ HB0.out
  have x1 := cell_of_row _ _ 1 _ _ _ HB0.out
  go_enter Tryz.func60, Tryz.ntmps60
  go_wp2_with (rw [HW0.out])
  refine (HO1.out _).mono ?_
  rintro e w1 ⟨v1, rfl, hown, hn⟩
  obtain ⟨a1, c1, rfl, hz⟩ := bits_row hown (by omega)
  replace HN := Lib.hid (HN.out.trans hn)
  have HZ1 := Lib.hid hz
  replace HB1 := Lib.hid ((hn.block _ (lt_of_block HB1.out)).trans HB1.out)
  clear hown hz hn x0 x1
  go_wp2_with fail
  refine (HO3.out _).mono ?_
  rintro e w2 ⟨v2, rfl, hown, hn⟩
  obtain ⟨a2, c2, rfl, hz⟩ := bits_row hown (by omega)
  replace HN := Lib.hid (HN.out.trans hn)
  have HZ2 := Lib.hid hz
  replace HZ1 := Lib.hid (HZ1.out.stay hn)
  replace HB1 := Lib.hid ((hn.block _ (lt_of_block HB1.out)).trans HB1.out)
  clear hown hz hn
  go_wp2_with fail
  refine (HM.out _ _ _ _ _ HZ1.out HZ2.out).mono ?_
  rintro e w3 ⟨v3, rfl, hown, hn⟩
  obtain ⟨a3, c3, rfl, hz⟩ := bits_row hown (by have := HWD.out; omega)
  replace HN := Lib.hid (HN.out.trans hn)
  have HZ3 := Lib.hid hz
  replace HB1 := Lib.hid ((hn.block _ (lt_of_block HB1.out)).trans HB1.out)
  clear hown hz hn
  have y0 := cell_of_row _ _ 0 _ _ _ HB1.out
  have y1 := cell_of_row _ _ 1 _ _ _ HB1.out
  go_wp2_with fail
  refine (HO2.out _).mono ?_
  rintro e w4 ⟨v4, rfl, hown, hn⟩
  obtain ⟨a4, c4, rfl, hz⟩ := bits_row hown (by omega)
  replace HN := Lib.hid (HN.out.trans hn)
  have HZ4 := Lib.hid hz
  replace HZ3 := Lib.hid (HZ3.out.stay hn)
  clear hown hz hn y0 y1
  go_wp2_with fail
  refine (HAD.out _ _ _ _ _ HZ3.out HZ4.out).mono ?_
  rintro e w5 ⟨v5, rfl, hown, hn⟩
  have hown2 := own_low hown HN.out.le
  replace HN := Lib.hid (HN.out.trans hn)
  have HOW := Lib.hid hown2
  clear hown hown2 hn
  go_wp2
  go_ret
  exact ⟨_, rfl, HOW.out, HN.out⟩
set_option maxHeartbeats 1000000 in
theorem reval_a (A B wd j : Nat) (x : BitVec 64) (kind : Int) (hA : A < 2 ^ 128) (hB : B < 2 ^ 128) (hwd : wd ≤ 128) (hj : j ≤ wd) (HRW : Hid (∀ w : World, Calls Tryz.prog 57 #[.int .i64 kind] w fun e w' => e = .returned (.int .i64 (wd : Int)) ∧ New w w')) (w : World) : Calls Tryz.prog 33 #[.int .i64 kind, .int .i64 (j : Int), .agg #[.int .u64 (W64 (hiN (A))), .int .u64 (W64 (loN (A)))], .agg #[.int .u64 (W64 (hiN (B))), .int .u64 (W64 (loN (B)))], .int .u64 (W64 x)] w fun e w' => e = .returned (.int .u64 (W64 (loN ((A * x.toNat + B) % 2 ^ wd / 2 ^ (wd - j))))) ∧ New w w' := by
  have HLI := Lib.hid (line_a A B wd x hA hB hwd)
  have hlt : (A * x.toNat + B) % 2 ^ wd < 2 ^ wd := Nat.mod_lt _ (Nat.two_pow_pos _)
  have hs := fun a c w hz => bshr_own ((A * x.toNat + B) % 2 ^ wd) wd c (wd - j) a (wd : Int) wd rfl (by omega) (by omega) w hz hlt
  rw [show ((wd - j : Nat) : Int) = (wd : Int) - (j : Int) by omega] at hs
  have HS := Lib.hid hs
  have hw := fun a c w hz => word_any ((A * x.toNat + B) % 2 ^ wd / 2 ^ (wd - j)) wd c 0 a w hz (Nat.lt_of_le_of_lt (Nat.div_le_self _ _) hlt) (by omega)
  rw [Nat.pow_zero, Nat.div_one] at hw
  have HWO := Lib.hid hw
  have HR := Lib.hid (show BitVec.ofNat 64 ((A * x.toNat + B) % 2 ^ wd / 2 ^ (wd - j)) = loN ((A * x.toNat + B) % 2 ^ wd / 2 ^ (wd - j)) from rfl)
  have hwr : wrap64 ((wd : Int) - (j : Int)) = (wd : Int) - (j : Int) := by unfold wrap64; omega
  have HWD : Hid (wd ≤ 128) := Lib.hid hwd
  generalize loN ((A * x.toNat + B) % 2 ^ wd / 2 ^ (wd - j)) = y at *
  generalize (A * x.toNat + B) % 2 ^ wd / 2 ^ (wd - j) = Q at *
  generalize (A * x.toNat + B) % 2 ^ wd = R at *
  clear hs hw hlt hA hB hwd hj
  obtain ⟨hbl, HNN⟩ := boxes2 w (.cells #[.int .u64 (W64 (hiN (A))), .int .u64 (W64 (loN (A)))] 63) (.cells #[.int .u64 (W64 (hiN (B))), .int .u64 (W64 (loN (B)))] 63)
  obtain ⟨hb0, hb1⟩ := hbl
  have HN := Lib.hid HNN
  obtain ⟨w0, hw0⟩ : ∃ w0, (((w.alloc (.cells #[.int .u64 (W64 (hiN (A))), .int .u64 (W64 (loN (A)))] 63))).alloc (.cells #[.int .u64 (W64 (hiN (B))), .int .u64 (W64 (loN (B)))] 63)) = w0 := ⟨_, rfl⟩
  rw [hw0] at HN hb0 hb1
  have HW0 := Lib.hid hw0
  have HB0 := Lib.hid hb0
  have HB1 := Lib.hid hb1
  clear hw0 HNN hb0 hb1
  go_enter Tryz.func33, Tryz.ntmps33
  go_wp2_with (rw [HW0.out])
  refine (HRW.out _).mono ?_
  rintro e w9 ⟨rfl, hn⟩
  replace HN := Lib.hid (HN.out.trans hn)
  replace HB0 := Lib.hid ((hn.block _ (lt_of_block HB0.out)).trans HB0.out)
  replace HB1 := Lib.hid ((hn.block _ (lt_of_block HB1.out)).trans HB1.out)
  clear hn
  have x0 := cell_of_row _ _ 0 _ _ _ HB0.out
  have x1 := cell_of_row _ _ 1 _ _ _ HB0.out
  have y0 := cell_of_row _ _ 0 _ _ _ HB1.out
  have y1 := cell_of_row _ _ 1 _ _ _ HB1.out
  go_wp2_with fail
  refine (HLI.out _).mono ?_
  rintro e w1 ⟨v1, rfl, hown, hn⟩
  obtain ⟨a1, c1, rfl, hz⟩ := bits_row hown (by have := HWD.out; omega)
  replace HN := Lib.hid (HN.out.trans hn)
  have HZ1 := Lib.hid hz
  clear hown hz hn x0 x1 y0 y1
  go_wp2_with fail
  refine (HS.out _ _ _ HZ1.out).mono ?_
  rintro e w2 ⟨v2, rfl, hown, hn⟩
  obtain ⟨a2, c2, rfl, hz⟩ := bits_row hown (by have := HWD.out; omega)
  replace HN := Lib.hid (HN.out.trans hn)
  have HZ2 := Lib.hid hz
  clear hown hz hn
  go_wp2_with fail
  refine (HWO.out _ _ _ HZ2.out).mono ?_
  rintro e w3 ⟨rfl, rfl⟩
  go_wp2
  go_ret
  rw [HR.out]
  exact ⟨rfl, HN.out⟩
end Go.Proofs.YtebcfbcfipmahaaGreat
end
