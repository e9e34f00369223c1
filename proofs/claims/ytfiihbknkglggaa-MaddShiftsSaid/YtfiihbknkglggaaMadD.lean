/- Contracts of layer 21: Eval; the document's own Width, Few, Check, Key, Line, Eval. -/
import Derived.Test.YtfiihbknkglggaaMadC
import Derived.Test.YtfiihbknkglggaaRanB
namespace Go.Proofs.Ytfiihbknkglggaa
open Go.RowKit Go.Bv
set_option linter.unusedVariables false
set_option maxHeartbeats 1000000 in
theorem eval_bad (A B : Nat) (x : BitVec 64) (kind bits c : Int) (h : (c == 0) = false) (HC : Hid (∀ w : World, Calls Try.prog 9 #[.int .i64 kind, .int .i64 bits, .agg #[.int .u64 (W64 (hiN (A))), .int .u64 (W64 (loN (A)))], .agg #[.int .u64 (W64 (hiN (B))), .int .u64 (W64 (loN (B)))]] w fun e w' => e = .returned (.int .i64 c) ∧ New w w')) (w : World) : Calls Try.prog 7 #[.int .i64 kind, .int .i64 bits, .agg #[.int .u64 (W64 (hiN (A))), .int .u64 (W64 (loN (A)))], .agg #[.int .u64 (W64 (hiN (B))), .int .u64 (W64 (loN (B)))], .int .u64 (W64 x)] w fun e w' => e = .returned (.tuple #[.int .u64 0, .int .i64 c]) ∧ New w w' := by
  obtain ⟨hbl, HNN⟩ := boxes2 w (.cells #[.int .u64 (W64 (hiN (A))), .int .u64 (W64 (loN (A)))] 24) (.cells #[.int .u64 (W64 (hiN (B))), .int .u64 (W64 (loN (B)))] 24)
  obtain ⟨hb0, hb1⟩ := hbl
  have HN := Lib.hid HNN
  obtain ⟨w0, hw0⟩ : ∃ w0, (((w.alloc (.cells #[.int .u64 (W64 (hiN (A))), .int .u64 (W64 (loN (A)))] 24))).alloc (.cells #[.int .u64 (W64 (hiN (B))), .int .u64 (W64 (loN (B)))] 24)) = w0 := ⟨_, rfl⟩
  rw [hw0] at HN hb0 hb1
  have HW0 := Lib.hid hw0
  have HB0 := Lib.hid hb0
  have HB1 := Lib.hid hb1
  clear hw0 HNN hb0 hb1
  have x0 := cell_of_row _ _ 0 _ _ _ HB0.out
  have x1 := cell_of_row _ _ 1 _ _ _ HB0.out
  have y0 := cell_of_row _ _ 0 _ _ _ HB1.out
  have y1 := cell_of_row _ _ 1 _ _ _ HB1.out
  go_enter Try.func7, Try.ntmps7
  go_wp2_with (rw [HW0.out])
  refine (HC.out _).mono ?_
  rintro e w9 ⟨rfl, hn⟩
  replace HN := Lib.hid (HN.out.trans hn)
  replace HB0 := Lib.hid ((hn.block _ (lt_of_block HB0.out)).trans HB0.out)
  replace HB1 := Lib.hid ((hn.block _ (lt_of_block HB1.out)).trans HB1.out)
  clear hn x0 x1 y0 y1
  go_wp2
  go_returns
  exact ⟨rfl, HN.out⟩
set_option maxHeartbeats 1000000 in
theorem eval_no (A B wd kd j : Nat) (x : BitVec 64) (hA : A < 2 ^ 128) (hB : B < 2 ^ 128) (hwd : wd ≤ 128) (hj : j ≤ wd) (kind : Int) (hfit : (x >>> kd == 0#64) = false) (HS : Hid (∀ w : World, Calls Try.prog 17 #[.int .i64 kind] w fun e w' => e = .returned (.tuple #[.agg #[.int .i64 (wd : Int), .int .i64 (kd : Int), .int .i64 (kd : Int)], .bool true]) ∧ New w w')) (HC : Hid (∀ w : World, Calls Try.prog 9 #[.int .i64 kind, .int .i64 (j : Int), .agg #[.int .u64 (W64 (hiN (A))), .int .u64 (W64 (loN (A)))], .agg #[.int .u64 (W64 (hiN (B))), .int .u64 (W64 (loN (B)))]] w fun e w' => e = .returned (.int .i64 0) ∧ New w w')) (w : World) : Calls Try.prog 7 #[.int .i64 kind, .int .i64 (j : Int), .agg #[.int .u64 (W64 (hiN (A))), .int .u64 (W64 (loN (A)))], .agg #[.int .u64 (W64 (hiN (B))), .int .u64 (W64 (loN (B)))], .int .u64 (W64 x)] w fun e w' => e = .returned (.tuple #[.int .u64 0, .int .i64 2]) ∧ New w w' := by
  have HF := Lib.hid (fits_a x kd)
  rw [hfit] at HF
  clear hA hB hwd hj hfit
  obtain ⟨hbl, HNN⟩ := boxes2 w (.cells #[.int .u64 (W64 (hiN (A))), .int .u64 (W64 (loN (A)))] 24) (.cells #[.int .u64 (W64 (hiN (B))), .int .u64 (W64 (loN (B)))] 24)
  obtain ⟨hb0, hb1⟩ := hbl
  have HN := Lib.hid HNN
  obtain ⟨w0, hw0⟩ : ∃ w0, (((w.alloc (.cells #[.int .u64 (W64 (hiN (A))), .int .u64 (W64 (loN (A)))] 24))).alloc (.cells #[.int .u64 (W64 (hiN (B))), .int .u64 (W64 (loN (B)))] 24)) = w0 := ⟨_, rfl⟩
  rw [hw0] at HN hb0 hb1
  have HW0 := Lib.hid hw0
  have HB0 := Lib.hid hb0
  have HB1 := Lib.hid hb1
  clear hw0 HNN hb0 hb1
  have x0 := cell_of_row _ _ 0 _ _ _ HB0.out
  have x1 := cell_of_row _ _ 1 _ _ _ HB0.out
  have y0 := cell_of_row _ _ 0 _ _ _ HB1.out
  have y1 := cell_of_row _ _ 1 _ _ _ HB1.out
  go_enter Try.func7, Try.ntmps7
  go_wp2_with (rw [HW0.out])
  refine (HC.out _).mono ?_
  rintro e w9 ⟨rfl, hn⟩
  replace HN := Lib.hid (HN.out.trans hn)
  replace HB0 := Lib.hid ((hn.block _ (lt_of_block HB0.out)).trans HB0.out)
  replace HB1 := Lib.hid ((hn.block _ (lt_of_block HB1.out)).trans HB1.out)
  clear hn x0 x1 y0 y1
  go_wp2_with fail
  refine (HS.out _).mono ?_
  rintro e w9 ⟨rfl, hn⟩
  replace HN := Lib.hid (HN.out.trans hn)
  replace HB0 := Lib.hid ((hn.block _ (lt_of_block HB0.out)).trans HB0.out)
  replace HB1 := Lib.hid ((hn.block _ (lt_of_block HB1.out)).trans HB1.out)
  clear hn
  have hx := heap_alloc_new w9 (.cells #[.int .i64 (wd : Int), .int .i64 (kd : Int), .int .i64 (kd : Int)] 41)
  have hn2 := (New.refl w9).alloc (.cells #[.int .i64 (wd : Int), .int .i64 (kd : Int), .int .i64 (kd : Int)] 41)
  obtain ⟨wb1, hw2⟩ : ∃ w2, w9.alloc (.cells #[.int .i64 (wd : Int), .int .i64 (kd : Int), .int .i64 (kd : Int)] 41) = w2 := ⟨_, rfl⟩
  rw [hw2] at hx hn2
  obtain ⟨q1, hq⟩ : ∃ q, w9.heap.size = q := ⟨_, rfl⟩
  rw [hq] at hx
  have HX1 := Lib.hid hx
  replace HN := Lib.hid (HN.out.trans hn2)
  have HM1 := Lib.hid hn2
  have HE1 := Lib.hid (show w9.alloc (.cells #[.int .i64 (wd : Int), .int .i64 (kd : Int), .int .i64 (kd : Int)] 41) = wb1 ∧ w9.heap.size = q1 from ⟨hw2, hq⟩)
  clear hx hn2 hw2 hq
  replace HB0 := Lib.hid ((HM1.out.block _ (lt_of_block HB0.out)).trans HB0.out)
  replace HB1 := Lib.hid ((HM1.out.block _ (lt_of_block HB1.out)).trans HB1.out)
  have x0 := cell_of_row _ _ 0 _ _ _ HX1.out
  have x1 := cell_of_row _ _ 1 _ _ _ HX1.out
  have x2 := cell_of_row _ _ 2 _ _ _ HX1.out
  go_wp2_with (rw [HE1.out.1, HE1.out.2])
  refine (HF.out _).mono ?_
  rintro e w9 ⟨rfl, hn⟩
  replace HN := Lib.hid (HN.out.trans hn)
  replace HB0 := Lib.hid ((hn.block _ (lt_of_block HB0.out)).trans HB0.out)
  replace HB1 := Lib.hid ((hn.block _ (lt_of_block HB1.out)).trans HB1.out)
  replace HX1 := Lib.hid ((hn.block _ (lt_of_block HX1.out)).trans HX1.out)
  clear hn x0 x1 x2
  go_wp2
  go_returns
  exact ⟨rfl, HN.out⟩
set_option maxHeartbeats 1000000 in
theorem eval_ok (A B wd kd j : Nat) (x : BitVec 64) (hA : A < 2 ^ 128) (hB : B < 2 ^ 128) (hwd : wd ≤ 128) (hj : j ≤ wd) (kind : Int) (hfit : (x >>> kd == 0#64) = true) (HS : Hid (∀ w : World, Calls Try.prog 17 #[.int .i64 kind] w fun e w' => e = .returned (.tuple #[.agg #[.int .i64 (wd : Int), .int .i64 (kd : Int), .int .i64 (kd : Int)], .bool true]) ∧ New w w')) (HC : Hid (∀ w : World, Calls Try.prog 9 #[.int .i64 kind, .int .i64 (j : Int), .agg #[.int .u64 (W64 (hiN (A))), .int .u64 (W64 (loN (A)))], .agg #[.int .u64 (W64 (hiN (B))), .int .u64 (W64 (loN (B)))]] w fun e w' => e = .returned (.int .i64 0) ∧ New w w')) (w : World) : Calls Try.prog 7 #[.int .i64 kind, .int .i64 (j : Int), .agg #[.int .u64 (W64 (hiN (A))), .int .u64 (W64 (loN (A)))], .agg #[.int .u64 (W64 (hiN (B))), .int .u64 (W64 (loN (B)))], .int .u64 (W64 x)] w fun e w' => e = .returned (.tuple #[.int .u64 (W64 (loN ((A * x.toNat + B) % 2 ^ wd / 2 ^ (wd - j)))), .int .i64 0]) ∧ New w w' := by
  have HF := Lib.hid (fits_a x kd)
  rw [hfit] at HF
  have HSM := Lib.hid (sum_a A B wd kd x hA hB hwd)
  have hR : (A * x.toNat + B) % 2 ^ wd < 2 ^ 128 := Nat.lt_of_lt_of_le (Nat.mod_lt _ (Nat.two_pow_pos _)) (Nat.pow_le_pow_right (by decide) hwd)
  have hsh := shr_n ((A * x.toNat + B) % 2 ^ wd) (wd - j) hR (by omega)
  rw [show ((wd - j : Nat) : Int) = (wd : Int) - (j : Int) by omega] at hsh
  have HSH := Lib.hid hsh
  have hw : wrap64 ((wd : Int) - (j : Int)) = (wd : Int) - (j : Int) := by unfold wrap64; omega
  have hw2 : IntKind.i64.wrap ((wd : Int) - (j : Int)) = (wd : Int) - (j : Int) := by first | (rw [IntKind.wrap_i64]; exact hw) | (simp [IntKind.wrap, IntKind.signed, IntKind.bits]; omega)
  generalize hiN ((A * x.toNat + B) % 2 ^ wd / 2 ^ (wd - j)) = e1 at *
  generalize loN ((A * x.toNat + B) % 2 ^ wd / 2 ^ (wd - j)) = e0 at *
  have hfd : ∀ w, (Instr.field 24 (.agg #[.int .u64 (W64 e1), .int .u64 (W64 e0)]) 1).run Try.prog w = .ok (.int .u64 (W64 e0)) w := fun w => by kernel_rfl
  generalize (A * x.toNat + B) % 2 ^ wd = R at *
  clear hR hsh
  clear hA hB hwd hj hfit
  obtain ⟨hbl, HNN⟩ := boxes2 w (.cells #[.int .u64 (W64 (hiN (A))), .int .u64 (W64 (loN (A)))] 24) (.cells #[.int .u64 (W64 (hiN (B))), .int .u64 (W64 (loN (B)))] 24)
  obtain ⟨hb0, hb1⟩ := hbl
  have HN := Lib.hid HNN
  obtain ⟨w0, hw0⟩ : ∃ w0, (((w.alloc (.cells #[.int .u64 (W64 (hiN (A))), .int .u64 (W64 (loN (A)))] 24))).alloc (.cells #[.int .u64 (W64 (hiN (B))), .int .u64 (W64 (loN (B)))] 24)) = w0 := ⟨_, rfl⟩
  rw [hw0] at HN hb0 hb1
  have HW0 := Lib.hid hw0
  have HB0 := Lib.hid hb0
  have HB1 := Lib.hid hb1
  clear hw0 HNN hb0 hb1
  have x0 := cell_of_row _ _ 0 _ _ _ HB0.out
  have x1 := cell_of_row _ _ 1 _ _ _ HB0.out
  have y0 := cell_of_row _ _ 0 _ _ _ HB1.out
  have y1 := cell_of_row _ _ 1 _ _ _ HB1.out
  go_enter Try.func7, Try.ntmps7
  go_wp2_with (rw [HW0.out])
  refine (HC.out _).mono ?_
  rintro e w9 ⟨rfl, hn⟩
  replace HN := Lib.hid (HN.out.trans hn)
  replace HB0 := Lib.hid ((hn.block _ (lt_of_block HB0.out)).trans HB0.out)
  replace HB1 := Lib.hid ((hn.block _ (lt_of_block HB1.out)).trans HB1.out)
  clear hn x0 x1 y0 y1
  go_wp2_with fail
  refine (HS.out _).mono ?_
  rintro e w9 ⟨rfl, hn⟩
  replace HN := Lib.hid (HN.out.trans hn)
  replace HB0 := Lib.hid ((hn.block _ (lt_of_block HB0.out)).trans HB0.out)
  replace HB1 := Lib.hid ((hn.block _ (lt_of_block HB1.out)).trans HB1.out)
  clear hn
  have hx := heap_alloc_new w9 (.cells #[.int .i64 (wd : Int), .int .i64 (kd : Int), .int .i64 (kd : Int)] 41)
  have hn2 := (New.refl w9).alloc (.cells #[.int .i64 (wd : Int), .int .i64 (kd : Int), .int .i64 (kd : Int)] 41)
  obtain ⟨wb1, hw2⟩ : ∃ w2, w9.alloc (.cells #[.int .i64 (wd : Int), .int .i64 (kd : Int), .int .i64 (kd : Int)] 41) = w2 := ⟨_, rfl⟩
  rw [hw2] at hx hn2
  obtain ⟨q1, hq⟩ : ∃ q, w9.heap.size = q := ⟨_, rfl⟩
  rw [hq] at hx
  have HX1 := Lib.hid hx
  replace HN := Lib.hid (HN.out.trans hn2)
  have HM1 := Lib.hid hn2
  have HE1 := Lib.hid (show w9.alloc (.cells #[.int .i64 (wd : Int), .int .i64 (kd : Int), .int .i64 (kd : Int)] 41) = wb1 ∧ w9.heap.size = q1 from ⟨hw2, hq⟩)
  clear hx hn2 hw2 hq
  replace HB0 := Lib.hid ((HM1.out.block _ (lt_of_block HB0.out)).trans HB0.out)
  replace HB1 := Lib.hid ((HM1.out.block _ (lt_of_block HB1.out)).trans HB1.out)
  have x0 := cell_of_row _ _ 0 _ _ _ HX1.out
  have x1 := cell_of_row _ _ 1 _ _ _ HX1.out
  have x2 := cell_of_row _ _ 2 _ _ _ HX1.out
  go_wp2_with (rw [HE1.out.1, HE1.out.2])
  refine (HF.out _).mono ?_
  rintro e w9 ⟨rfl, hn⟩
  replace HN := Lib.hid (HN.out.trans hn)
  replace HB0 := Lib.hid ((hn.block _ (lt_of_block HB0.out)).trans HB0.out)
  replace HB1 := Lib.hid ((hn.block _ (lt_of_block HB1.out)).trans HB1.out)
  replace HX1 := Lib.hid ((hn.block _ (lt_of_block HX1.out)).trans HX1.out)
  clear hn x0 x1 x2
  go_wp2_with fail
  refine wp_region_class (fun w' => (w'.heap[w.heap.size]? = some (.cells #[.int .u64 (W64 (hiN (A))), .int .u64 (W64 (loN (A)))] 24) ∧ w'.heap[(w.heap.size + 1)]? = some (.cells #[.int .u64 (W64 (hiN (B))), .int .u64 (W64 (loN (B)))] 24) ∧ w'.heap[q1]? = some (.cells #[.int .i64 (wd : Int), .int .i64 (kd : Int), .int .i64 (kd : Int)] 41)) ∧ New w9 w') (by kernel_rfl) (by kernel_rfl) ⟨⟨((New.refl w9).drew.block _ (lt_of_block HB0.out)).trans HB0.out, ((New.refl w9).drew.block _ (lt_of_block HB1.out)).trans HB1.out, ((New.refl w9).drew.block _ (lt_of_block HX1.out)).trans HX1.out⟩, (New.refl _).drew⟩ ?_
  intro I _ f hall hback
  have HSTEP : Hid (∀ n w', New (f n) w' → ∃ m, w' = f m) := Lib.hid fun n w' hn => hback w' ⟨⟨(hn.block _ (lt_of_block ((hall n).1.1))).trans ((hall n).1.1), (hn.block _ (lt_of_block ((hall n).1.2.1))).trans ((hall n).1.2.1), (hn.block _ (lt_of_block ((hall n).1.2.2))).trans ((hall n).1.2.2)⟩, (hall n).2.trans hn⟩
  have HALL := Lib.hid fun n => (hall n).2
  have s0 := fun n => cell_of_row _ _ 0 _ _ _ ((hall n).1.1)
  have s1 := fun n => cell_of_row _ _ 1 _ _ _ ((hall n).1.1)
  have s2 := fun n => cell_of_row _ _ 0 _ _ _ ((hall n).1.2.1)
  have s3 := fun n => cell_of_row _ _ 1 _ _ _ ((hall n).1.2.1)
  have s4 := fun n => cell_of_row _ _ 0 _ _ _ ((hall n).1.2.2)
  have s5 := fun n => cell_of_row _ _ 1 _ _ _ ((hall n).1.2.2)
  have s6 := fun n => cell_of_row _ _ 2 _ _ _ ((hall n).1.2.2)
  clear hall hback
  repeat (go_big_quiet_step (first
    | (go_at_call 20; refine class_new HSTEP.out (HSM.out _))
    | (go_at_call 19; refine class_new HSTEP.out (HSH.out _))))
  refine wpQuiet_nil ?_
  rintro w9 ⟨n1, hw1⟩
  have hS := HALL.out n1
  rw [← hw1] at hS
  replace HB0 := Lib.hid ((hS.block _ (lt_of_block HB0.out)).trans HB0.out)
  replace HB1 := Lib.hid ((hS.block _ (lt_of_block HB1.out)).trans HB1.out)
  replace HX1 := Lib.hid ((hS.block _ (lt_of_block HX1.out)).trans HX1.out)
  replace HN := Lib.hid (HN.out.trans hS)
  clear HALL HSTEP hw1 hS s0 s1 s2 s3 s4 s5 s6
  go_wp2
  go_returns
  exact ⟨rfl, HN.out⟩
end Go.Proofs.Ytfiihbknkglggaa
