/- The walk of the statement WideShifts: for all numbers of two words, all counts, all divisors. -/
import Derived.Test.YtepphoncljlkoaaWidS
import Derived.Test.YtepphoncljlkoaaWidF
import Derived.Test.YtepphoncljlkoaaWidH
import Derived.Test.YtepphoncljlkoaaBitD
import Derived.ChangeKeysEq
import Derived.Laws.StructEq
namespace Go.Bv
open Go Go.RowKit
theorem quo_two (hi lo b : BitVec 64) (h : 0 < b.toNat) : two (divQ 0#64 hi b) (divQ (divR 0#64 hi b) lo b) = two hi lo / b.toNat := by
  have e1 : (divQ 0#64 hi b).toNat = hi.toNat / b.toNat := by
    rw [divQ_nat (by rw [show (0#64).toNat = 0 from rfl]; exact h)]; unfold two; rw [show (0#64).toNat = 0 from rfl, Nat.zero_mul, Nat.zero_add]
  have e2 : (divR 0#64 hi b).toNat = hi.toNat % b.toNat := by
    rw [divR_nat h]; unfold two; rw [show (0#64).toNat = 0 from rfl, Nat.zero_mul, Nat.zero_add]
  have e3 : (divQ (divR 0#64 hi b) lo b).toNat = two (divR 0#64 hi b) lo / b.toNat := divQ_nat (by rw [e2]; exact Nat.mod_lt _ h)
  have e4 : two hi lo = b.toNat * (hi.toNat / b.toNat * 18446744073709551616) + (hi.toNat % b.toNat * 18446744073709551616 + lo.toNat) := by
    unfold two
    conv => lhs; rw [← Nat.div_add_mod hi.toNat b.toNat]
    rw [Nat.add_mul, Nat.mul_assoc, Nat.add_assoc]
  rw [e4, Nat.mul_add_div h]
  conv => lhs; unfold two
  rw [e1, e3]
  unfold two
  rw [e2]
end Go.Bv
namespace Go.Proofs.Ytepphoncljlkoaa
open Go.RowKit Go.Bv
set_option linter.unusedVariables false
set_option maxHeartbeats 2000000 in
theorem shifts0_try (W : World) (x0_0 x0_1 l1 l0 r1 r0 : BitVec 64) (n : Int) (K mm A L S : Nat) (e1 : max n 0 = (K : Int)) (e2 : min (K : Int) 128 = (mm : Int))
    (COf : Hid (∀ w : World, Calls Try.prog 12 #[.agg #[.int .u64 (W64 x0_0), .int .u64 (W64 x0_1)]] w fun e w' => ∃ v, e = .returned v ∧ w'.ownsRow w.heap.size 3 1 v 128 ((bitsOf A 128).map fun y => .int .i64 y) ∧ New w w'))
    (CShl : Hid (∀ w : World, Calls Try.prog 26 #[.agg #[.int .u64 (W64 x0_0), .int .u64 (W64 x0_1)], .int .i64 n] w fun e w' => e = .returned (.agg #[.int .u64 (W64 l1), .int .u64 (W64 l0)]) ∧ New w w'))
    (CShr : Hid (∀ w : World, Calls Try.prog 28 #[.agg #[.int .u64 (W64 x0_0), .int .u64 (W64 x0_1)], .int .i64 n] w fun e w' => e = .returned (.agg #[.int .u64 (W64 r1), .int .u64 (W64 r0)]) ∧ New w w'))
    (Cshl : Hid (∀ (ca : Nat) (p : Option Addr) (w : World), ZRow w p 128 ca (bitsOf A 128) → Calls Try.prog 27 #[.slice p 128 ca, .int .i64 (mm : Int), .int .i64 128] w fun e w' => ∃ v, e = .returned v ∧ w'.ownsRow w.heap.size 3 1 v 128 ((bitsOf L 128).map fun y => .int .i64 y) ∧ New w w'))
    (Cshr : Hid (∀ (ca : Nat) (p : Option Addr) (w : World), ZRow w p 128 ca (bitsOf A 128) → Calls Try.prog 29 #[.slice p 128 ca, .int .i64 (mm : Int), .int .i64 128] w fun e w' => ∃ v, e = .returned v ∧ w'.ownsRow w.heap.size 3 1 v 128 ((bitsOf S 128).map fun y => .int .i64 y) ∧ New w w'))
    (CtoL : Hid (∀ (c : Nat) (p : Option Addr) (w : World), ZRow w p 128 c (bitsOf L 128) → Calls Try.prog 17 #[.slice p 128 c] w fun e w' => e = .returned (.agg #[.int .u64 (W64 l1), .int .u64 (W64 l0)]) ∧ New w w'))
    (CtoS : Hid (∀ (c : Nat) (p : Option Addr) (w : World), ZRow w p 128 c (bitsOf S 128) → Calls Try.prog 17 #[.slice p 128 c] w fun e w' => e = .returned (.agg #[.int .u64 (W64 r1), .int .u64 (W64 r0)]) ∧ New w w'))
    (CDiv : Hid (∀ w : World, Calls Try.prog 30 #[.agg #[.int .u64 (W64 x0_0), .int .u64 (W64 x0_1)], .int .u64 0] w fun e w' => e = .returned (.tuple #[.agg #[.int .u64 0, .int .u64 0], .int .u64 0]) ∧ New w w')) :
    Calls Try.prog 5 #[.agg #[.int .u64 (W64 x0_0), .int .u64 (W64 x0_1)], .int .i64 n, .int .u64 0] W fun e w' => e = .returned (.bool true) ∧ Below W.heap.size W w' := by
  go_enter Try.func5, Try.ntmps5
  go_wp2_with fail
  refine (awake01 _).mono ?_
  rintro e w ⟨rfl, hn1⟩
  have hs := (c2_new W 24 x0_0 x0_1).stay hn1
  have HN := Lib.hid (((New.refl W).alloc _).trans hn1)
  have HS := Lib.hid hs
  clear hn1 hs
  obtain ⟨s_0, s_1⟩ := HS.out
  have heqL := fun w => equ128 w l1 l0 l1 l0
  have heqS := fun w => equ128 w r1 r0 r1 r0
  simp only [BEq.rfl, Bool.and_self] at heqL heqS
  go_wp2_with fail
  refine (COf.out _).mono ?_
  rintro e w1 ⟨v1, rfl, hown1, hn1⟩
  obtain ⟨av1, c1, rfl, hz1⟩ := bits_row hown1 (by omega)
  have HZ := Lib.hid hz1
  have HN1 := Lib.hid (HN.out.trans hn1)
  have HS1 := Lib.hid (HS.out.stay hn1)
  clear hown1 hz1 hn1 s_0 s_1 HN HS
  obtain ⟨s_0, s_1⟩ := HS1.out
  go_wp2_with fail
  refine (CShl.out _).mono ?_
  rintro e w2 ⟨rfl, hn2⟩
  go_wp2_with fail
  refine (Cshl.out _ _ _ (HZ.out.stay hn2)).mono ?_
  rintro e w3 ⟨v3, rfl, hown3, hn3⟩
  obtain ⟨av3, c3, rfl, hz3⟩ := bits_row hown3 (by omega)
  have hn3 := hn2.trans hn3
  go_wp2_with fail
  refine (CtoL.out _ _ _ hz3).mono ?_
  rintro e w4 ⟨rfl, hn4⟩
  have hn4 := hn3.trans hn4
  obtain ⟨s_0, s_1⟩ := HS1.out.stay hn4
  go_wp2_with fail
  refine (CShr.out _).mono ?_
  rintro e w5 ⟨rfl, hn5⟩
  have hn5 := hn4.trans hn5
  go_wp2_with fail
  refine (Cshr.out _ _ _ (HZ.out.stay hn5)).mono ?_
  rintro e w6 ⟨v6, rfl, hown6, hn6⟩
  obtain ⟨av6, c6, rfl, hz6⟩ := bits_row hown6 (by omega)
  have hn6 := hn5.trans hn6
  go_wp2_with fail
  refine (CtoS.out _ _ _ hz6).mono ?_
  rintro e w7 ⟨rfl, hn7⟩
  have hn7 := hn6.trans hn7
  have HN7 := Lib.hid (HN1.out.trans hn7)
  have HS7 := Lib.hid (HS1.out.stay hn7)
  have HZ7 := Lib.hid (HZ.out.stay hn7)
  clear hown3 hown6 hz3 hz6 hn2 hn3 hn4 hn5 hn6 hn7 HN1 HS1 HZ s_0 s_1 heqL heqS CShl Cshl CtoL CShr Cshr CtoS COf
  obtain ⟨s_0, s_1⟩ := HS7.out
  go_wp2_with fail
  refine (CDiv.out _).mono ?_
  rintro e w8 ⟨rfl, hn8⟩
  have heq0 : ∀ w, (Op.equalIn 10000 24 (.agg #[.int .u64 0, .int .u64 0]) (.agg #[.int .u64 0, .int .u64 0])).run Try.prog w = .ok true w := by
    intro w
    have h := equ128 w 0#64 0#64 0#64 0#64
    rw [lo_zero] at h
    exact h
  go_wp2
  go_ret
  exact ⟨rfl, (HN7.out.trans hn8).alloc _⟩
set_option maxHeartbeats 4000000 in
theorem shifts_try (W : World) (x0_0 x0_1 b l1 l0 r1 r0 QH QL R t1 t0 : BitVec 64) (n : Int) (K mm A L S Q M : Nat) (ov : Bool) (e1 : max n 0 = (K : Int)) (e2 : min (K : Int) 128 = (mm : Int))
    (COf : Hid (∀ w : World, Calls Try.prog 12 #[.agg #[.int .u64 (W64 x0_0), .int .u64 (W64 x0_1)]] w fun e w' => ∃ v, e = .returned v ∧ w'.ownsRow w.heap.size 3 1 v 128 ((bitsOf A 128).map fun y => .int .i64 y) ∧ New w w'))
    (CShl : Hid (∀ w : World, Calls Try.prog 26 #[.agg #[.int .u64 (W64 x0_0), .int .u64 (W64 x0_1)], .int .i64 n] w fun e w' => e = .returned (.agg #[.int .u64 (W64 l1), .int .u64 (W64 l0)]) ∧ New w w'))
    (CShr : Hid (∀ w : World, Calls Try.prog 28 #[.agg #[.int .u64 (W64 x0_0), .int .u64 (W64 x0_1)], .int .i64 n] w fun e w' => e = .returned (.agg #[.int .u64 (W64 r1), .int .u64 (W64 r0)]) ∧ New w w'))
    (Cshl : Hid (∀ (ca : Nat) (p : Option Addr) (w : World), ZRow w p 128 ca (bitsOf A 128) → Calls Try.prog 27 #[.slice p 128 ca, .int .i64 (mm : Int), .int .i64 128] w fun e w' => ∃ v, e = .returned v ∧ w'.ownsRow w.heap.size 3 1 v 128 ((bitsOf L 128).map fun y => .int .i64 y) ∧ New w w'))
    (Cshr : Hid (∀ (ca : Nat) (p : Option Addr) (w : World), ZRow w p 128 ca (bitsOf A 128) → Calls Try.prog 29 #[.slice p 128 ca, .int .i64 (mm : Int), .int .i64 128] w fun e w' => ∃ v, e = .returned v ∧ w'.ownsRow w.heap.size 3 1 v 128 ((bitsOf S 128).map fun y => .int .i64 y) ∧ New w w'))
    (CtoL : Hid (∀ (c : Nat) (p : Option Addr) (w : World), ZRow w p 128 c (bitsOf L 128) → Calls Try.prog 17 #[.slice p 128 c] w fun e w' => e = .returned (.agg #[.int .u64 (W64 l1), .int .u64 (W64 l0)]) ∧ New w w'))
    (CtoS : Hid (∀ (c : Nat) (p : Option Addr) (w : World), ZRow w p 128 c (bitsOf S 128) → Calls Try.prog 17 #[.slice p 128 c] w fun e w' => e = .returned (.agg #[.int .u64 (W64 r1), .int .u64 (W64 r0)]) ∧ New w w'))
    (CDiv : Hid (∀ w : World, Calls Try.prog 30 #[.agg #[.int .u64 (W64 x0_0), .int .u64 (W64 x0_1)], .int .u64 (W64 b)] w fun e w' => e = .returned (.tuple #[.agg #[.int .u64 (W64 QH), .int .u64 (W64 QL)], .int .u64 (W64 R)]) ∧ New w w'))
    (COb : Hid (∀ w : World, Calls Try.prog 21 #[.int .u64 (W64 b), .int .i64 64] w fun e w' => ∃ v, e = .returned v ∧ w'.ownsRow w.heap.size 3 1 v 64 ((bitsOf b.toNat 64).map fun y => .int .i64 y) ∧ New w w'))
    (Cdiv : Hid (∀ (ca cb : Nat) (p q : Option Addr) (w : World), ZRow w p 128 ca (bitsOf A 128) → ZRow w q 64 cb (bitsOf b.toNat 64) → Calls Try.prog 31 #[.slice p 128 ca, .slice q 64 cb] w fun e w' =>
      ∃ v v', e = .returned (.tuple #[v, v']) ∧ w'.ownsRow w.heap.size 3 1 v 128 ((bitsOf Q 128).map fun y => .int .i64 y) ∧ w'.ownsRow w.heap.size 3 1 v' 129 ((bitsOf M 129).map fun y => .int .i64 y) ∧ New w w'))
    (CTimes : Hid (∀ w : World, Calls Try.prog 24 #[.agg #[.int .u64 (W64 QH), .int .u64 (W64 QL)], .agg #[.int .u64 0, .int .u64 (W64 b)]] w fun e w' => e = .returned (.agg #[.int .u64 (W64 t1), .int .u64 (W64 t0)]) ∧ New w w'))
    (CAdd : Hid (∀ w : World, Calls Try.prog 13 #[.agg #[.int .u64 (W64 t1), .int .u64 (W64 t0)], .agg #[.int .u64 0, .int .u64 (W64 R)]] w fun e w' => e = .returned (.tuple #[.agg #[.int .u64 (W64 x0_0), .int .u64 (W64 x0_1)], .bool ov]) ∧ New w w'))
    (CtoQ : Hid (∀ (c : Nat) (p : Option Addr) (w : World), ZRow w p 128 c (bitsOf Q 128) → Calls Try.prog 17 #[.slice p 128 c] w fun e w' => e = .returned (.agg #[.int .u64 (W64 QH), .int .u64 (W64 QL)]) ∧ New w w'))
    (CWord : Hid (∀ (c : Nat) (p : Option Addr) (w : World), ZRow w p 129 c (bitsOf M 129) → Calls Try.prog 32 #[.slice p 129 c, .int .i64 0] w fun e w' => e = .returned (.int .u64 (W64 R)) ∧ w' = w))
    (hb : (b == 0#64) = false) (hb' : ¬ W64 b = 0) (hlt : decide (W64 R < W64 b) = true) :
    Calls Try.prog 5 #[.agg #[.int .u64 (W64 x0_0), .int .u64 (W64 x0_1)], .int .i64 n, .int .u64 (W64 b)] W fun e w' => e = .returned (.bool true) ∧ Below W.heap.size W w' := by
  go_enter Try.func5, Try.ntmps5
  go_wp2_with fail
  refine (awake01 _).mono ?_
  rintro e w ⟨rfl, hn1⟩
  have hs := (c2_new W 24 x0_0 x0_1).stay hn1
  have HN := Lib.hid (((New.refl W).alloc _).trans hn1)
  have HS := Lib.hid hs
  clear hn1 hs
  obtain ⟨s_0, s_1⟩ := HS.out
  have heqL := fun w => equ128 w l1 l0 l1 l0
  have heqS := fun w => equ128 w r1 r0 r1 r0
  simp only [BEq.rfl, Bool.and_self] at heqL heqS
  go_wp2_with fail
  refine (COf.out _).mono ?_
  rintro e w1 ⟨v1, rfl, hown1, hn1⟩
  obtain ⟨av1, c1, rfl, hz1⟩ := bits_row hown1 (by omega)
  have HZ := Lib.hid hz1
  have HN1 := Lib.hid (HN.out.trans hn1)
  have HS1 := Lib.hid (HS.out.stay hn1)
  clear hown1 hz1 hn1 s_0 s_1 HN HS
  obtain ⟨s_0, s_1⟩ := HS1.out
  go_wp2_with fail
  refine (CShl.out _).mono ?_
  rintro e w2 ⟨rfl, hn2⟩
  go_wp2_with fail
  refine (Cshl.out _ _ _ (HZ.out.stay hn2)).mono ?_
  rintro e w3 ⟨v3, rfl, hown3, hn3⟩
  obtain ⟨av3, c3, rfl, hz3⟩ := bits_row hown3 (by omega)
  have hn3 := hn2.trans hn3
  go_wp2_with fail
  refine (CtoL.out _ _ _ hz3).mono ?_
  rintro e w4 ⟨rfl, hn4⟩
  have hn4 := hn3.trans hn4
  obtain ⟨s_0, s_1⟩ := HS1.out.stay hn4
  go_wp2_with fail
  refine (CShr.out _).mono ?_
  rintro e w5 ⟨rfl, hn5⟩
  have hn5 := hn4.trans hn5
  go_wp2_with fail
  refine (Cshr.out _ _ _ (HZ.out.stay hn5)).mono ?_
  rintro e w6 ⟨v6, rfl, hown6, hn6⟩
  obtain ⟨av6, c6, rfl, hz6⟩ := bits_row hown6 (by omega)
  have hn6 := hn5.trans hn6
  go_wp2_with fail
  refine (CtoS.out _ _ _ hz6).mono ?_
  rintro e w7 ⟨rfl, hn7⟩
  have hn7 := hn6.trans hn7
  have HN7 := Lib.hid (HN1.out.trans hn7)
  have HS7 := Lib.hid (HS1.out.stay hn7)
  have HZ7 := Lib.hid (HZ.out.stay hn7)
  clear hown3 hown6 hz3 hz6 hn2 hn3 hn4 hn5 hn6 hn7 HN1 HS1 HZ s_0 s_1 heqL heqS CShl Cshl CtoL CShr Cshr CtoS COf
  obtain ⟨s_0, s_1⟩ := HS7.out
  go_wp2_with fail
  refine (CDiv.out _).mono ?_
  rintro e w8 ⟨rfl, hn8⟩
  clear s_0 s_1
  have hA := c2_new w8 24 QH QL
  have hn9 := hn8.alloc (.cells #[.int .u64 (W64 QH), .int .u64 (W64 QL)] 24)
  go_wp2_with fail
  generalize w8.heap.size = b9 at *
  generalize w8.alloc (.cells #[.int .u64 (W64 QH), .int .u64 (W64 QL)] 24) = w9 at *
  refine (COb.out _).mono ?_
  rintro e w10 ⟨v10, rfl, hown10, hn10⟩
  obtain ⟨av10, c10, rfl, hz10⟩ := bits_row hown10 (by omega)
  have hn70 := hn9.trans hn10
  go_wp2_with fail
  refine (Cdiv.out _ _ _ _ _ (HZ7.out.stay hn70) hz10).mono ?_
  rintro e w11 ⟨v11, v12, rfl, hown11, hown12, hn11⟩
  obtain ⟨av11, c11, rfl, hz11⟩ := bits_row hown11 (by omega)
  obtain ⟨av12, c12, rfl, hz12⟩ := bits_row hown12 (by omega)
  have hn71 := hn70.trans hn11
  have HA11 := Lib.hid (hA.stay (hn10.trans hn11))
  have HS11 := Lib.hid (HS7.out.stay hn71)
  have HN11 := Lib.hid (HN7.out.trans hn71)
  have HZ11 := Lib.hid hz11
  have HZ12 := Lib.hid hz12
  clear hA hn9 hn10 hn11 hn70 hn71 hown10 hz10 hown11 hown12 hz11 hz12 HN7 HS7 HZ7 COb Cdiv CDiv
  obtain ⟨q_0, q_1⟩ := HA11.out
  go_wp2_with fail
  refine (CTimes.out _).mono ?_
  rintro e w12 ⟨rfl, hn12⟩
  go_wp2_with fail
  refine (CAdd.out _).mono ?_
  rintro e w13 ⟨rfl, hn13⟩
  have hn13 := hn12.trans hn13
  clear q_0 q_1
  go_wp2_with fail
  have hB := c2_new w13 24 x0_0 x0_1
  have hn14 := hn13.alloc (.cells #[.int .u64 (W64 x0_0), .int .u64 (W64 x0_1)] 24)
  generalize w13.heap.size = b13 at *
  generalize w13.alloc (.cells #[.int .u64 (W64 x0_0), .int .u64 (W64 x0_1)] 24) = w14 at *
  have hx := HS11.out.stay hn14
  have ha := HA11.out.stay hn14
  have hz1 := HZ11.out.stay hn14
  have hz2 := HZ12.out.stay hn14
  have hN := HN11.out.trans hn14
  clear HS11 HA11 HZ11 HZ12 HN11 hn12 hn13 hn14
  refine wp_region_class (fun w' => (C2 w' W.heap.size x0_0 x0_1 ∧ C2 w' b9 QH QL ∧ C2 w' b13 x0_0 x0_1) ∧ New w14 w') (by kernel_rfl) (by kernel_rfl) ⟨⟨hx.stay (New.refl _).drew, ha.stay (New.refl _).drew, hB.stay (New.refl _).drew⟩, (New.refl _).drew⟩ ?_
  intro I _ f hall hback
  have HSTEP : Hid (∀ n w', New (f n) w' → ∃ m, w' = f m) := Lib.hid fun n w' hn => hback w' ⟨⟨(hall n).1.1.stay hn, (hall n).1.2.1.stay hn, (hall n).1.2.2.stay hn⟩, (hall n).2.trans hn⟩
  have HALL := Lib.hid hall
  have a0 := fun n => (hall n).1.1.1
  have a1 := fun n => (hall n).1.1.2
  have b0 := fun n => (hall n).1.2.1.1
  have b1 := fun n => (hall n).1.2.1.2
  have g0 := fun n => (hall n).1.2.2.1
  have g1 := fun n => (hall n).1.2.2.2
  have HZ1 := Lib.hid fun n => hz1.stay (hall n).2
  have HZ2 := Lib.hid fun n => hz2.stay (hall n).2
  have HN := Lib.hid hN
  clear hall hback hN hx ha hB hz1 hz2
  have heq1 := fun w => equ128 w QH QL QH QL
  have heq2 := fun w => equ128 w x0_0 x0_1 x0_0 x0_1
  simp only [BEq.rfl, Bool.and_self] at heq1 heq2
  repeat (go_big_quiet_step (first
    | (go_at_call 17; refine class_new HSTEP.out (CtoQ.out _ _ _ (HZ1.out _)))
    | (go_at_call 32; refine class_same (CWord.out _ _ _ (HZ2.out _)))))
  refine wpQuiet_nil ?_
  rintro w15 ⟨n1, hw1⟩
  have hS := HN.out.trans (HALL.out n1).2
  rw [← hw1] at hS
  clear HALL HSTEP hw1 a0 a1 b0 b1 g0 g1
  go_wp2
  go_ret
  exact ⟨rfl, hS⟩
set_option maxHeartbeats 1000000 in
theorem WideShifts_walk (W : World) (x0_0 : BitVec 64) (x0_1 : BitVec 64) (a1 : Int) (w1 : (Lit.int .i64 a1).wf = true) (a2 : Int) (w2 : (Lit.int .u64 a2).wf = true) :
    Calls Try.prog 5 #[.agg #[.int .u64 (W64 x0_0), .int .u64 (W64 x0_1)], .int .i64 a1, .int .u64 a2] W fun e w' => e = .returned (.bool true) ∧ Below W.heap.size W w' := by
  obtain ⟨b, rfl⟩ := wf64 w2
  have hn : a1 ≤ 9223372036854775807 := by
    simp [Lit.wf, IntKind.min, IntKind.max, IntKind.signed, IntKind.bits] at w1
    omega
  obtain ⟨K, hK⟩ : ∃ K : Nat, max a1 0 = (K : Int) := ⟨(max a1 0).toNat, by omega⟩
  obtain ⟨m, hm⟩ : ∃ m, min K 128 = m := ⟨_, rfl⟩
  have hm2 : min (K : Int) 128 = (m : Int) := by omega
  have hmm : m ≤ 4096 := by omega
  have lA := two_lt128 x0_0 x0_1
  by_cases hb : b = 0#64
  · subst hb
    have cd := fun w => wdiv_zero x0_0 x0_1 w
    rw [lo_zero] at cd ⊢
    exact shifts0_try W x0_0 x0_1 _ _ _ _ a1 K m (two x0_0 x0_1) _ _ hK hm2
      (Lib.hid fun w => of2_own x0_0 x0_1 w)
      (Lib.hid fun w => wshl_two x0_0 x0_1 a1 K m hK hn hm w)
      (Lib.hid fun w => wshr_two x0_0 x0_1 a1 K m hK hn hm w)
      (Lib.hid fun ca p w h => bshl_own (two x0_0 x0_1) 128 ca m p 128 128 rfl (by omega) hmm w h lA)
      (Lib.hid fun ca p w h => bshr_own (two x0_0 x0_1) 128 ca m p 128 128 rfl (by omega) hmm w h lA)
      (Lib.hid fun c p w h => to2_mod _ c p w h)
      (Lib.hid fun c p w h => to2_mod _ c p w h)
      (Lib.hid cd)
  · have hp := pos_of_ne hb
    have hq := quo_two x0_0 x0_1 b hp
    have cd := fun w => wdiv_any x0_0 x0_1 b hb w
    have hRn := md_nat (N := two x0_0 x0_1) hb
    generalize divQ 0#64 x0_0 b = QH at *
    generalize divQ (divR 0#64 x0_0 b) x0_1 b = QL at *
    have hM : BitVec.ofNat 64 (two x0_0 x0_1 % b.toNat / 2 ^ 0) = md (two x0_0 x0_1) b := by
      rw [Nat.pow_zero, Nat.div_one]; unfold md; rw [if_neg hb]
    have hda := Nat.div_add_mod (two x0_0 x0_1) b.toNat
    have hml := Nat.mod_lt (two x0_0 x0_1) hp
    have ct := fun w => wtimes_two QH QL 0#64 b w
    have e0 : two 0#64 b = b.toNat := by unfold two; rw [show (0#64).toNat = 0 from rfl, Nat.zero_mul, Nat.zero_add]
    rw [lo_zero, e0, hq, Nat.mul_comm] at ct
    have hqb : b.toNat * (two x0_0 x0_1 / b.toNat) < 2 ^ 128 := by omega
    have e1 := two_parts _ hqb
    have ca := fun w => wadd_two (BitVec.ofNat 64 (b.toNat * (two x0_0 x0_1 / b.toNat) / 2 ^ 64)) (BitVec.ofNat 64 (b.toNat * (two x0_0 x0_1 / b.toNat))) 0#64 (md (two x0_0 x0_1) b) w
    have e2 : two (BitVec.ofNat 64 (b.toNat * (two x0_0 x0_1 / b.toNat) / 2 ^ 64)) (BitVec.ofNat 64 (b.toNat * (two x0_0 x0_1 / b.toNat))) = b.toNat * (two x0_0 x0_1 / b.toNat) := e1
    have e3 : two 0#64 (md (two x0_0 x0_1) b) = two x0_0 x0_1 % b.toNat := by unfold two; rw [show (0#64).toNat = 0 from rfl, Nat.zero_mul, Nat.zero_add]; exact hRn
    rw [e2, e3, hda, lo_zero, two_hi, two_lo] at ca
    have cw := fun c p w h => word_any (two x0_0 x0_1 % b.toNat) 129 c 0 p w h (Nat.lt_of_lt_of_le hml (Nat.le_trans (Nat.le_of_lt b.isLt) (Nat.pow_le_pow_right (by omega) (by omega)))) (by omega)
    rw [hM] at cw
    have cq := fun c p w h => to2_mod (two x0_0 x0_1 / b.toNat) c p w h
    rw [← hq, two_hi, two_lo, hq] at cq
    exact shifts_try W x0_0 x0_1 b _ _ _ _ QH QL (md (two x0_0 x0_1) b) _ _ a1 K m (two x0_0 x0_1) _ _ (two x0_0 x0_1 / b.toNat) (two x0_0 x0_1 % b.toNat) _ hK hm2
      (Lib.hid fun w => of2_own x0_0 x0_1 w)
      (Lib.hid fun w => wshl_two x0_0 x0_1 a1 K m hK hn hm w)
      (Lib.hid fun w => wshr_two x0_0 x0_1 a1 K m hK hn hm w)
      (Lib.hid fun ca p w h => bshl_own (two x0_0 x0_1) 128 ca m p 128 128 rfl (by omega) hmm w h lA)
      (Lib.hid fun ca p w h => bshr_own (two x0_0 x0_1) 128 ca m p 128 128 rfl (by omega) hmm w h lA)
      (Lib.hid fun c p w h => to2_mod _ c p w h)
      (Lib.hid fun c p w h => to2_mod _ c p w h)
      (Lib.hid cd)
      (Lib.hid fun w => of_own b 64 64 (by omega) rfl w)
      (Lib.hid fun ca cb p q w ha hb => bdiv_own (two x0_0 x0_1) b.toNat 128 64 ca cb p q 128 (by omega) (by decide) (by omega) w ha lA hb b.isLt hp)
      (Lib.hid ct)
      (Lib.hid ca)
      (Lib.hid cq)
      (Lib.hid cw)
      (by rw [beq_eq_false_iff_ne]; exact hb) (by intro h; apply hb; apply BitVec.eq_of_toNat_eq; unfold W64 at h; rw [show (0#64).toNat = 0 from rfl]; omega)
      (decide_eq_true (by unfold W64; rw [hRn]; omega))
end Go.Proofs.Ytepphoncljlkoaa
