/- The law MaddStays, walked. -/
import Derived.Test.YtfiihbknkglggaaMadN
namespace Go.Proofs.Ytfiihbknkglggaa
open Go Go.RowKit Go.Bv
set_option linter.unusedVariables false
theorem equ_n (N : Nat) : ∀ w : World, (Op.equalIn 10000 24 (.agg #[.int .u64 (W64 (hiN (N))), .int .u64 (W64 (loN (N)))]) (.agg #[.int .u64 (W64 (hiN (N))), .int .u64 (W64 (loN (N)))])).run Try.prog w = .ok true w := fun w => by
  rw [equ128]; simp
set_option maxRecDepth 100000 in
set_option maxHeartbeats 2000000 in
theorem stays_err (W : World) (A B : Nat) (x y u v : BitVec 64) (kind bits c : Int) (h : (c == 0) = false) (HSF : Hid (∀ w : World, Calls Try.prog 14 #[.int .i64 kind, .int .i64 bits, .agg #[.int .u64 (W64 (hiN (A))), .int .u64 (W64 (loN (A)))], .agg #[.int .u64 (W64 (hiN (B))), .int .u64 (W64 (loN (B)))], .int .u64 (W64 x), .int .u64 (W64 y), .int .u64 (W64 u), .int .u64 (W64 v)] w fun e w' => e = .returned (.tuple #[.agg #[.int .u64 0, .int .u64 0], .agg #[.int .u64 0, .int .u64 0], .int .i64 c]) ∧ New w w')) :
    Calls Try.prog 5 #[.int .i64 kind, .int .i64 bits, .agg #[.int .u64 (W64 (hiN (A))), .int .u64 (W64 (loN (A)))], .agg #[.int .u64 (W64 (hiN (B))), .int .u64 (W64 (loN (B)))], .int .u64 (W64 x), .int .u64 (W64 y), .int .u64 (W64 u), .int .u64 (W64 v)] W fun e w' => e = .returned (.bool true) ∧ Below W.heap.size W w' := by
  have h2 : (c != 0) = true := by rw [bne, h]; rfl
  have HA := Lib.hid awake_21
  obtain ⟨hbl, HNN⟩ := boxes2 W (.cells #[.int .u64 (W64 (hiN (A))), .int .u64 (W64 (loN (A)))] 24) (.cells #[.int .u64 (W64 (hiN (B))), .int .u64 (W64 (loN (B)))] 24)
  obtain ⟨hb0, hb1⟩ := hbl
  have HN := Lib.hid HNN
  obtain ⟨w0, hw0⟩ : ∃ w0, (((W.alloc (.cells #[.int .u64 (W64 (hiN (A))), .int .u64 (W64 (loN (A)))] 24))).alloc (.cells #[.int .u64 (W64 (hiN (B))), .int .u64 (W64 (loN (B)))] 24)) = w0 := ⟨_, rfl⟩
  rw [hw0] at HN hb0 hb1
  have HW0 := Lib.hid hw0
  have HB0 := Lib.hid hb0
  have HB1 := Lib.hid hb1
  clear hw0 HNN hb0 hb1
  go_enter Try.func5, Try.ntmps5
  go_wp2_with fail
  rw [HW0.out]
  refine (HA.out _).mono ?_
  rintro e w9 ⟨rfl, hn⟩
  replace HN := Lib.hid (HN.out.trans hn)
  replace HB0 := Lib.hid ((hn.block _ (lt_of_block HB0.out)).trans HB0.out)
  replace HB1 := Lib.hid ((hn.block _ (lt_of_block HB1.out)).trans HB1.out)
  clear hn HW0
  have x0 := cell_of_row _ _ 0 _ _ _ HB0.out
  have x1 := cell_of_row _ _ 1 _ _ _ HB0.out
  have y0 := cell_of_row _ _ 0 _ _ _ HB1.out
  have y1 := cell_of_row _ _ 1 _ _ _ HB1.out
  go_wp2_with fail
  refine (HSF.out _).mono ?_
  rintro e w8 ⟨rfl, hn⟩
  replace HN := Lib.hid (HN.out.trans hn)
  replace HB0 := Lib.hid ((hn.block _ (lt_of_block HB0.out)).trans HB0.out)
  replace HB1 := Lib.hid ((hn.block _ (lt_of_block HB1.out)).trans HB1.out)
  clear hn x0 x1 y0 y1
  go_wp2
  go_ret
  exact ⟨rfl, (HN.out.alloc _).alloc _⟩
set_option maxRecDepth 100000 in
set_option maxHeartbeats 4000000 in
theorem stays_ok (W : World) (A B C D : Nat) (F G : BitVec 64 → Nat) (x y u v : BitVec 64) (kind bits : Int) (HSF : Hid (∀ w : World, Calls Try.prog 14 #[.int .i64 kind, .int .i64 bits, .agg #[.int .u64 (W64 (hiN (A))), .int .u64 (W64 (loN (A)))], .agg #[.int .u64 (W64 (hiN (B))), .int .u64 (W64 (loN (B)))], .int .u64 (W64 x), .int .u64 (W64 y), .int .u64 (W64 u), .int .u64 (W64 v)] w fun e w' => e = .returned (.tuple #[.agg #[.int .u64 (W64 (hiN (C))), .int .u64 (W64 (loN (C)))], .agg #[.int .u64 (W64 (hiN (D))), .int .u64 (W64 (loN (D)))], .int .i64 0]) ∧ New w w')) (HR : Hid (∀ w : World, Calls Try.prog 8 #[.int .i64 kind, .int .i64 bits, .agg #[.int .u64 (W64 (hiN (A))), .int .u64 (W64 (loN (A)))], .agg #[.int .u64 (W64 (hiN (B))), .int .u64 (W64 (loN (B)))]] w fun e w' => e = .returned (.int .i64 0) ∧ New w w'))
    (HF : Hid (∀ (z : BitVec 64) (w : World), Calls Try.prog 16 #[.int .i64 kind, .int .i64 bits, .agg #[.int .u64 (W64 (hiN (A))), .int .u64 (W64 (loN (A)))], .agg #[.int .u64 (W64 (hiN (B))), .int .u64 (W64 (loN (B)))], .int .u64 (W64 z)] w fun e w' => e = .returned (.agg #[.int .u64 (W64 (hiN (F z))), .int .u64 (W64 (loN (F z)))]) ∧ New w w')) (HG : Hid (∀ (z : BitVec 64) (w : World), Calls Try.prog 16 #[.int .i64 kind, .int .i64 bits, .agg #[.int .u64 (W64 (hiN (C))), .int .u64 (W64 (loN (C)))], .agg #[.int .u64 (W64 (hiN (D))), .int .u64 (W64 (loN (D)))], .int .u64 (W64 z)] w fun e w' => e = .returned (.agg #[.int .u64 (W64 (hiN (G z))), .int .u64 (W64 (loN (G z)))]) ∧ New w w')) (ex : F x = G x) (ey : F y = G y) :
    Calls Try.prog 5 #[.int .i64 kind, .int .i64 bits, .agg #[.int .u64 (W64 (hiN (A))), .int .u64 (W64 (loN (A)))], .agg #[.int .u64 (W64 (hiN (B))), .int .u64 (W64 (loN (B)))], .int .u64 (W64 x), .int .u64 (W64 y), .int .u64 (W64 u), .int .u64 (W64 v)] W fun e w' => e = .returned (.bool true) ∧ Below W.heap.size W w' := by
  have HA := Lib.hid awake_21
  have el : ∀ w : World, (Op.equalIn 10000 24 (.agg #[.int .u64 (W64 (hiN (F x))), .int .u64 (W64 (loN (F x)))]) (.agg #[.int .u64 (W64 (hiN (G x))), .int .u64 (W64 (loN (G x)))])).run Try.prog w = .ok true w := fun w => by rw [← ex]; exact equ_n _ w
  have em : ∀ w : World, (Op.equalIn 10000 24 (.agg #[.int .u64 (W64 (hiN (F y))), .int .u64 (W64 (loN (F y)))]) (.agg #[.int .u64 (W64 (hiN (G y))), .int .u64 (W64 (loN (G y)))])).run Try.prog w = .ok true w := fun w => by rw [← ey]; exact equ_n _ w
  clear ex ey
  obtain ⟨hbl, HNN⟩ := boxes2 W (.cells #[.int .u64 (W64 (hiN (A))), .int .u64 (W64 (loN (A)))] 24) (.cells #[.int .u64 (W64 (hiN (B))), .int .u64 (W64 (loN (B)))] 24)
  obtain ⟨hb0, hb1⟩ := hbl
  have HN := Lib.hid HNN
  obtain ⟨w0, hw0⟩ : ∃ w0, (((W.alloc (.cells #[.int .u64 (W64 (hiN (A))), .int .u64 (W64 (loN (A)))] 24))).alloc (.cells #[.int .u64 (W64 (hiN (B))), .int .u64 (W64 (loN (B)))] 24)) = w0 := ⟨_, rfl⟩
  rw [hw0] at HN hb0 hb1
  have HW0 := Lib.hid hw0
  have HB0 := Lib.hid hb0
  have HB1 := Lib.hid hb1
  clear hw0 HNN hb0 hb1
  go_enter Try.func5, Try.ntmps5
  go_wp2_with fail
  rw [HW0.out]
  refine (HA.out _).mono ?_
  rintro e w9 ⟨rfl, hn⟩
  replace HN := Lib.hid (HN.out.trans hn)
  replace HB0 := Lib.hid ((hn.block _ (lt_of_block HB0.out)).trans HB0.out)
  replace HB1 := Lib.hid ((hn.block _ (lt_of_block HB1.out)).trans HB1.out)
  clear hn HW0
  have x0 := cell_of_row _ _ 0 _ _ _ HB0.out
  have x1 := cell_of_row _ _ 1 _ _ _ HB0.out
  have y0 := cell_of_row _ _ 0 _ _ _ HB1.out
  have y1 := cell_of_row _ _ 1 _ _ _ HB1.out
  go_wp2_with fail
  refine (HSF.out _).mono ?_
  rintro e w8 ⟨rfl, hn⟩
  replace HN := Lib.hid (HN.out.trans hn)
  replace HB0 := Lib.hid ((hn.block _ (lt_of_block HB0.out)).trans HB0.out)
  replace HB1 := Lib.hid ((hn.block _ (lt_of_block HB1.out)).trans HB1.out)
  clear hn x0 x1 y0 y1
  obtain ⟨hbl, hn2⟩ := boxes2 w8 (.cells #[.int .u64 (W64 (hiN (C))), .int .u64 (W64 (loN (C)))] 24) (.cells #[.int .u64 (W64 (hiN (D))), .int .u64 (W64 (loN (D)))] 24)
  obtain ⟨hb2, hb3⟩ := hbl
  obtain ⟨wb, hw2⟩ : ∃ z, ((w8.alloc (.cells #[.int .u64 (W64 (hiN (C))), .int .u64 (W64 (loN (C)))] 24)).alloc (.cells #[.int .u64 (W64 (hiN (D))), .int .u64 (W64 (loN (D)))] 24)) = z := ⟨_, rfl⟩
  rw [hw2] at hb2 hb3 hn2
  obtain ⟨q, hq⟩ : ∃ q, w8.heap.size = q := ⟨_, rfl⟩
  rw [hq] at hb2 hb3
  have HB2 := Lib.hid hb2
  have HB3 := Lib.hid hb3
  replace HN := Lib.hid (HN.out.trans hn2)
  have HE := Lib.hid (show ((w8.alloc (.cells #[.int .u64 (W64 (hiN (C))), .int .u64 (W64 (loN (C)))] 24)).alloc (.cells #[.int .u64 (W64 (hiN (D))), .int .u64 (W64 (loN (D)))] 24)) = wb ∧ w8.heap.size = q from ⟨hw2, hq⟩)
  replace HB0 := Lib.hid ((hn2.block _ (lt_of_block HB0.out)).trans HB0.out)
  replace HB1 := Lib.hid ((hn2.block _ (lt_of_block HB1.out)).trans HB1.out)
  clear hb2 hb3 hn2 hw2 hq
  have x0 := cell_of_row _ _ 0 _ _ _ HB0.out
  have x1 := cell_of_row _ _ 1 _ _ _ HB0.out
  have y0 := cell_of_row _ _ 0 _ _ _ HB1.out
  have y1 := cell_of_row _ _ 1 _ _ _ HB1.out
  rw [← HE.out.1] at x0 x1 y0 y1
  go_wp2_with fail
  rw [HE.out.1]
  refine (HR.out _).mono ?_
  rintro e w7 ⟨rfl, hn⟩
  replace HN := Lib.hid (HN.out.trans hn)
  replace HB0 := Lib.hid ((hn.block _ (lt_of_block HB0.out)).trans HB0.out)
  replace HB1 := Lib.hid ((hn.block _ (lt_of_block HB1.out)).trans HB1.out)
  replace HB2 := Lib.hid ((hn.block _ (lt_of_block HB2.out)).trans HB2.out)
  replace HB3 := Lib.hid ((hn.block _ (lt_of_block HB3.out)).trans HB3.out)
  clear hn x0 x1 y0 y1
  go_wp2_with fail
  rw [HE.out.2]
  clear HE
  refine wp_region_class (fun w' => (w'.heap[W.heap.size]? = some (.cells #[.int .u64 (W64 (hiN (A))), .int .u64 (W64 (loN (A)))] 24) ∧ w'.heap[(W.heap.size + 1)]? = some (.cells #[.int .u64 (W64 (hiN (B))), .int .u64 (W64 (loN (B)))] 24) ∧ w'.heap[q]? = some (.cells #[.int .u64 (W64 (hiN (C))), .int .u64 (W64 (loN (C)))] 24) ∧ w'.heap[(q + 1)]? = some (.cells #[.int .u64 (W64 (hiN (D))), .int .u64 (W64 (loN (D)))] 24)) ∧ New w7 w') (by kernel_rfl) (by kernel_rfl) ⟨⟨((New.refl w7).drew.block _ (lt_of_block HB0.out)).trans HB0.out, ((New.refl w7).drew.block _ (lt_of_block HB1.out)).trans HB1.out, ((New.refl w7).drew.block _ (lt_of_block HB2.out)).trans HB2.out, ((New.refl w7).drew.block _ (lt_of_block HB3.out)).trans HB3.out⟩, (New.refl _).drew⟩ ?_
  intro I _ f hall hback
  have HSTEP : Hid (∀ n w', New (f n) w' → ∃ m, w' = f m) := Lib.hid fun n w' hn => hback w' ⟨⟨(hn.block _ (lt_of_block ((hall n).1.1))).trans ((hall n).1.1), (hn.block _ (lt_of_block ((hall n).1.2.1))).trans ((hall n).1.2.1), (hn.block _ (lt_of_block ((hall n).1.2.2.1))).trans ((hall n).1.2.2.1), (hn.block _ (lt_of_block ((hall n).1.2.2.2))).trans ((hall n).1.2.2.2)⟩, (hall n).2.trans hn⟩
  have HALL := Lib.hid fun n => (hall n).2
  have s0 := fun n => cell_of_row _ _ 0 _ _ _ ((hall n).1.1)
  have s1 := fun n => cell_of_row _ _ 1 _ _ _ ((hall n).1.1)
  have s2 := fun n => cell_of_row _ _ 0 _ _ _ ((hall n).1.2.1)
  have s3 := fun n => cell_of_row _ _ 1 _ _ _ ((hall n).1.2.1)
  have s4 := fun n => cell_of_row _ _ 0 _ _ _ ((hall n).1.2.2.1)
  have s5 := fun n => cell_of_row _ _ 1 _ _ _ ((hall n).1.2.2.1)
  have s6 := fun n => cell_of_row _ _ 0 _ _ _ ((hall n).1.2.2.2)
  have s7 := fun n => cell_of_row _ _ 1 _ _ _ ((hall n).1.2.2.2)
  clear hall hback
  repeat (go_big_quiet_step (first
    | (go_at_call_of 16 (Value.agg #[Value.int IntKind.u64 (W64 (hiN A)), Value.int IntKind.u64 (W64 (loN A))]); refine class_new HSTEP.out (HF.out _ _))
    | (go_at_call_of 16 (Value.agg #[Value.int IntKind.u64 (W64 (hiN C)), Value.int IntKind.u64 (W64 (loN C))]); refine class_new HSTEP.out (HG.out _ _))))
  refine wpQuiet_nil ?_
  rintro w9 ⟨n1, hw1⟩
  have hS := HALL.out n1
  rw [← hw1] at hS
  replace HB0 := Lib.hid ((hS.block _ (lt_of_block HB0.out)).trans HB0.out)
  replace HB1 := Lib.hid ((hS.block _ (lt_of_block HB1.out)).trans HB1.out)
  replace HB2 := Lib.hid ((hS.block _ (lt_of_block HB2.out)).trans HB2.out)
  replace HB3 := Lib.hid ((hS.block _ (lt_of_block HB3.out)).trans HB3.out)
  replace HN := Lib.hid (HN.out.trans hS)
  clear HALL HSTEP hw1 hS s0 s1 s2 s3 s4 s5 s6 s7
  go_wp2
  go_ret
  exact ⟨rfl, HN.out⟩
end Go.Proofs.Ytfiihbknkglggaa
