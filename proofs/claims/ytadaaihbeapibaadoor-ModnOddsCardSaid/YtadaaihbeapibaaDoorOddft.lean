/- The law ModnOdds, walked: one of four cases. -/
import Derived.Test.YtadaaihbeapibaaDoorOddP
namespace Go.Proofs.YtadaaihbeapibaaDoor
open Go.RowKit Go.Bv
set_option linter.unusedVariables false
set_option maxRecDepth 100000 in
set_option maxHeartbeats 600000 in
theorem odds_ft (W : World) (a x z : BitVec 64) (C Y s : Nat) (HA : Hid (∀ w : World, Calls Tryd.prog 5 #[] w fun e w' => e = .returned (.bool true) ∧ New w w')) (HO : Hid (∀ w : World, Calls Tryd.prog 6 #[.int .u64 (W64 a)] w fun e w' => e = .returned (.tuple #[.int .u64 0, .bool false]) ∧ w' = w)) (HK : Hid (∀ w : World, Calls Tryd.prog 6 #[.int .u64 0] w fun e w' => e = .returned (.tuple #[.int .u64 0, .bool false]) ∧ w' = w)) (HP : Hid (∀ w : World, Calls Tryd.prog 7 #[.agg #[.int .u64 (W64 (hiN (C))), .int .u64 (W64 (loN (C)))]] w fun e w' => e = .returned (.tuple #[.agg #[.int .u64 (W64 (hiN (Y))), .int .u64 (W64 (loN (Y)))], .bool true]) ∧ New w w'))
    (COf0 : Hid (∀ w : World, Calls Tryd.prog 10 #[.agg #[.int .u64 (W64 (hiN (C))), .int .u64 (W64 (loN (C)))]] w fun e w' => ∃ v, e = .returned v ∧ w'.ownsRow w.heap.size 3 1 v 128 ((bitsOf (C) 128).map fun y => .int .i64 y) ∧ New w w')) (COf1 : Hid (∀ w : World, Calls Tryd.prog 10 #[.agg #[.int .u64 (W64 (hiN (Y))), .int .u64 (W64 (loN (Y)))]] w fun e w' => ∃ v, e = .returned v ∧ w'.ownsRow w.heap.size 3 1 v 128 ((bitsOf (Y) 128).map fun y => .int .i64 y) ∧ New w w'))
    (CMul : Hid (∀ (w : World) a b ca cb, ZRow w a 128 ca (bitsOf C 128) → ZRow w b 128 cb (bitsOf Y 128) → Calls Tryd.prog 9 #[.slice a 128 ca, .slice b 128 cb, .int .i64 128] w fun e w' => ∃ v, e = .returned v ∧ w'.ownsRow w.heap.size 3 1 v 128 ((bitsOf (C * Y) 128).map fun y => .int .i64 y) ∧ New w w'))
    (CTo : Hid (∀ (w : World) a c, ZRow w a 128 c (bitsOf (C * Y) 128) → Calls Tryd.prog 8 #[.slice a 128 c] w fun e w' => e = .returned (.agg #[.int .u64 0, .int .u64 1]) ∧ New w w')) (CTi : Hid (∀ w : World, Calls Tryd.prog 11 #[.agg #[.int .u64 (W64 (hiN (C))), .int .u64 (W64 (loN (C)))], .agg #[.int .u64 (W64 (hiN (Y))), .int .u64 (W64 (loN (Y)))]] w fun e w' => e = .returned (.agg #[.int .u64 0, .int .u64 1]) ∧ New w w'))
    (HL : Hid (∀ w : World, New W w → Calls Tryd.prog 12 #[.int .u64 (W64 a)] w fun e w' => e = .returned (.tuple #[.int .u64 (W64 z), .int .i64 (s : Int)]) ∧ w' = w)) (HT : Hid (∀ w : World, Calls Tryd.prog 13 #[.int .u64 (W64 a)] w fun e w' => e = .returned (.int .i64 (s : Int)) ∧ w' = w))
    (f1 : (a % 2#64 == 1#64) = false) (HZZ : Hid (((a == 0#64) = true ∧ (W64 a == 0) = true ∧ (z == 0#64) = true ∧ (W64 z == 0) = true) ∨ ((a == 0#64) = false ∧ (W64 a == 0) = false ∧ (z % 2#64 == 1#64) = true ∧ z <<< N64 (BitVec.ofNat 64 s) = a))) (f7 : (loN C % 2#64 == 1#64) = true) :
    Calls Tryd.prog 3 #[.int .u64 (W64 a), .agg #[.int .u64 (W64 (hiN (C))), .int .u64 (W64 (loN (C)))]] W fun e w' => e = .returned (.bool true) ∧ Below W.heap.size W w' := by
  obtain ⟨hbl, HNN⟩ := boxes1 W (.cells #[.int .u64 (W64 (hiN (C))), .int .u64 (W64 (loN (C)))] 24)
  have hb0 := hbl
  have HN := Lib.hid HNN
  obtain ⟨w0, hw0⟩ : ∃ w0, (W.alloc (.cells #[.int .u64 (W64 (hiN (C))), .int .u64 (W64 (loN (C)))] 24)) = w0 := ⟨_, rfl⟩
  rw [hw0] at HN hb0
  have HW0 := Lib.hid hw0
  have HB0 := Lib.hid hb0
  clear hw0 HNN hbl hb0
  have x0 := cell_of_row _ _ 0 _ _ _ HB0.out
  have x1 := cell_of_row _ _ 1 _ _ _ HB0.out
  go_enter Tryd.func3, Tryd.ntmps3
  go_wp2_with (rw [HW0.out])
  refine (HA.out _).mono ?_
  rintro e w9 ⟨rfl, hn⟩
  replace HN := Lib.hid (HN.out.trans hn)
  replace HB0 := Lib.hid ((hn.block _ (lt_of_block HB0.out)).trans HB0.out)
  clear hn x0 x1
  have x0 := cell_of_row _ _ 0 _ _ _ HB0.out
  have x1 := cell_of_row _ _ 1 _ _ _ HB0.out
  go_wp2_with fail
  refine (HO.out _).mono ?_
  rintro e w9 ⟨rfl, rfl⟩
  go_wp2_with fail
  refine (HP.out _).mono ?_
  rintro e w9 ⟨rfl, hn⟩
  replace HN := Lib.hid (HN.out.trans hn)
  replace HB0 := Lib.hid ((hn.block _ (lt_of_block HB0.out)).trans HB0.out)
  clear hn x0 x1
  have hx := heap_alloc_new w9 (.cells #[.int .u64 (W64 (hiN Y)), .int .u64 (W64 (loN Y))] 24)
  have hn2 := (New.refl w9).alloc (.cells #[.int .u64 (W64 (hiN Y)), .int .u64 (W64 (loN Y))] 24)
  obtain ⟨wb1, hw2⟩ : ∃ w2, w9.alloc (.cells #[.int .u64 (W64 (hiN Y)), .int .u64 (W64 (loN Y))] 24) = w2 := ⟨_, rfl⟩
  rw [hw2] at hx hn2
  obtain ⟨q1, hq⟩ : ∃ q, w9.heap.size = q := ⟨_, rfl⟩
  rw [hq] at hx
  have HX1 := Lib.hid hx
  replace HN := Lib.hid (HN.out.trans hn2)
  have HM1 := Lib.hid hn2
  have HE1 := Lib.hid (show w9.alloc (.cells #[.int .u64 (W64 (hiN Y)), .int .u64 (W64 (loN Y))] 24) = wb1 ∧ w9.heap.size = q1 from ⟨hw2, hq⟩)
  clear hx hn2 hw2 hq
  replace HB0 := Lib.hid ((HM1.out.block _ (lt_of_block HB0.out)).trans HB0.out)
  have x0 := cell_of_row _ _ 0 _ _ _ HB0.out
  have x1 := cell_of_row _ _ 1 _ _ _ HB0.out
  go_wp2_with (rw [HE1.out.1, HE1.out.2])
  refine (HK.out _).mono ?_
  rintro e w9 ⟨rfl, rfl⟩
  go_wp2_with fail
  clear x0 x1
  have hb9 := HB0.out
  have hx9 := HX1.out
  have x0 := cell_of_row _ _ 0 _ _ _ (((New.refl w9).drew.block _ (lt_of_block hb9)).trans hb9)
  have x1 := cell_of_row _ _ 1 _ _ _ (((New.refl w9).drew.block _ (lt_of_block hb9)).trans hb9)
  have y0 := cell_of_row _ _ 0 _ _ _ (((New.refl w9).drew.block _ (lt_of_block hx9)).trans hx9)
  have y1 := cell_of_row _ _ 1 _ _ _ (((New.refl w9).drew.block _ (lt_of_block hx9)).trans hx9)
  have x0a := cell_of_row _ _ 0 _ _ _ ((((New.refl w9).alloc (.cells #[.int .u64 0, .int .u64 0] 24)).block _ (lt_of_block hb9)).trans hb9)
  have x1a := cell_of_row _ _ 1 _ _ _ ((((New.refl w9).alloc (.cells #[.int .u64 0, .int .u64 0] 24)).block _ (lt_of_block hb9)).trans hb9)
  have y0a := cell_of_row _ _ 0 _ _ _ ((((New.refl w9).alloc (.cells #[.int .u64 0, .int .u64 0] 24)).block _ (lt_of_block hx9)).trans hx9)
  have y1a := cell_of_row _ _ 1 _ _ _ ((((New.refl w9).alloc (.cells #[.int .u64 0, .int .u64 0] 24)).block _ (lt_of_block hx9)).trans hx9)
  clear hb9 hx9
  have HX9D := Lib.hid (((New.refl w9).drew.block _ (lt_of_block HX1.out)).trans HX1.out)
  go_cut [11] (fun p wx => ∃ g, p = .pointer (some ⟨g, 0, none⟩) ∧ wx.heap[g]? = some (.cells #[.int .u64 0, .int .u64 1] 24 (0, 0)) ∧ New w9.drew wx)
  case first =>
    go_region_law (first
    | (go_simp
       go_at_call_of 10 (Value.int IntKind.u64 (W64 (hiN C)))
       refine (COf0.out _).mono ?_
       rintro e q0 ⟨v0, rfl, hown0, hn0⟩
       obtain ⟨av0, c0, rfl, hz0⟩ := bits_row hown0 (by omega)
       have HR0 := Lib.hid hz0
       clear hown0 hz0
       first
       | (have hz : q0.heap[w9.heap.size]? = some (.cells #[.int .u64 0, .int .u64 0] 24) := by with_reducible exact zstay_d hn0
          have HQ0 : Hid (New w9.drew q0) := Lib.hid (by with_reducible exact znew_d hn0)
          have HGE : Hid (w9.drew.heap.size ≤ w9.heap.size) := Lib.hid (Nat.le_refl _)
          have HZ := Lib.hid hz
          clear hz)
       | (have HQ0 : Hid (New w9.drew q0) := Lib.hid (by with_reducible exact hn0))
       have y0 := cell_of_row _ _ 0 _ _ _ ((HQ0.out.block _ (lt_of_block HX9D.out)).trans HX9D.out)
       have y1 := cell_of_row _ _ 1 _ _ _ ((HQ0.out.block _ (lt_of_block HX9D.out)).trans HX9D.out)
       have y0c := cell_of_row _ _ 0 _ _ _ (((HQ0.out.alloc (.cells #[.int .u64 0, .int .u64 0] 24)).block _ (lt_of_block HX9D.out)).trans HX9D.out)
       have y1c := cell_of_row _ _ 1 _ _ _ (((HQ0.out.alloc (.cells #[.int .u64 0, .int .u64 0] 24)).block _ (lt_of_block HX9D.out)).trans HX9D.out)
       clear hn0)
    | (go_simp
       go_at_call_of 10 (Value.int IntKind.u64 (W64 (hiN Y)))
       refine (COf1.out _).mono ?_
       rintro e q1 ⟨v1, rfl, hown1, hn1⟩
       obtain ⟨av1, c1, rfl, hz1⟩ := bits_row hown1 (by omega)
       have HR1 := Lib.hid hz1
       clear hown1 hz1
       first
       | (have HQ1 : Hid (New w9.drew q1) := Lib.hid (by with_reducible exact HQ0.out.trans hn1)
          have hz := zkeep HZ.out hn1
          have HR0 := Lib.hid (HR0.out.stay hn1)
          have HZ := Lib.hid hz
          clear hz)
       | (have hz : q1.heap[q0.heap.size]? = some (.cells #[.int .u64 0, .int .u64 0] 24) := by with_reducible exact zstay_q hn1
          have HQ1 : Hid (New w9.drew q1) := Lib.hid (by with_reducible exact znew_q HQ0.out hn1)
          have HGE : Hid (w9.drew.heap.size ≤ q0.heap.size) := Lib.hid HQ0.out.le
          have HR0 := Lib.hid (rkeep HR0.out hn1)
          have HZ := Lib.hid hz
          clear hz)
       | (have HQ1 : Hid (New w9.drew q1) := Lib.hid (by with_reducible exact HQ0.out.trans hn1)
          have HR0 := Lib.hid (HR0.out.stay hn1))
       clear hn1)
    | (go_simp
       go_at_call 9
       refine (CMul.out _ _ _ _ _ (by first | with_reducible exact HR0.out | with_reducible exact HR0.out.stay ((New.refl _).alloc _)) (by first | with_reducible exact HR1.out | with_reducible exact HR1.out.stay ((New.refl _).alloc _))).mono ?_
       rintro e q2 ⟨v2, rfl, hown2, hn2⟩
       obtain ⟨av2, c2, rfl, hz2⟩ := bits_row hown2 (by omega)
       have HR2 := Lib.hid hz2
       clear hown2 hz2
       first
       | (have HQ2 : Hid (New w9.drew q2) := Lib.hid (by with_reducible exact HQ1.out.trans hn2)
          have hz := zkeep HZ.out hn2
          have HZ := Lib.hid hz
          clear hz)
       | (have hz : q2.heap[q1.heap.size]? = some (.cells #[.int .u64 0, .int .u64 0] 24) := by with_reducible exact zstay_q hn2
          have HQ2 : Hid (New w9.drew q2) := Lib.hid (by with_reducible exact znew_q HQ1.out hn2)
          have HGE : Hid (w9.drew.heap.size ≤ q1.heap.size) := Lib.hid HQ1.out.le
          have HZ := Lib.hid hz
          clear hz)
       | (have HQ2 : Hid (New w9.drew q2) := Lib.hid (by with_reducible exact HQ1.out.trans hn2))
       clear hn2)
    | (go_simp
       go_at_call 8
       refine (CTo.out _ _ _ (by first | with_reducible exact HR2.out | with_reducible exact HR2.out.stay ((New.refl _).alloc _))).mono ?_
       rintro e q3 ⟨rfl, hn3⟩
       first
       | (have HQ3 : Hid (New w9.drew q3) := Lib.hid (by with_reducible exact HQ2.out.trans hn3)
          have hz := zkeep HZ.out hn3
          have HZ := Lib.hid hz
          have k0 := cell_of_row _ _ 0 _ _ _ hz
          have k1 := cell_of_row _ _ 1 _ _ _ hz
          have kf := fun i => frozen_of_row _ _ i _ _ hz
          clear hz)
       | (have hz : q3.heap[q2.heap.size]? = some (.cells #[.int .u64 0, .int .u64 0] 24) := by with_reducible exact zstay_q hn3
          have HQ3 : Hid (New w9.drew q3) := Lib.hid (by with_reducible exact znew_q HQ2.out hn3)
          have HGE : Hid (w9.drew.heap.size ≤ q2.heap.size) := Lib.hid HQ2.out.le
          have HZ := Lib.hid hz
          have k0 := cell_of_row _ _ 0 _ _ _ hz
          have k1 := cell_of_row _ _ 1 _ _ _ hz
          have kf := fun i => frozen_of_row _ _ i _ _ hz
          clear hz)
       | (have HQ3 : Hid (New w9.drew q3) := Lib.hid (by with_reducible exact HQ2.out.trans hn3))
       clear hn3))
    all_goals (
      go_wp2_with fail
      go_meet
      case rel => first
        | (with_reducible exact ⟨_, rfl, heap_alloc_new _ _, HQ3.out.alloc _⟩)
        | (with_reducible exact ⟨_, rfl, (put_two _ _ HZ.out).1, (HQ3.out.setCell HGE.out _).setCell HGE.out _⟩))
  case rest =>
    obtain ⟨g, rfl, hp, hn⟩ := hcut
    have hn9 := (New.refl w9).drew.trans hn
    replace HN := Lib.hid (HN.out.trans hn9)
    replace HB0 := Lib.hid ((hn9.block _ (lt_of_block HB0.out)).trans HB0.out)
    replace HX1 := Lib.hid ((hn9.block _ (lt_of_block HX1.out)).trans HX1.out)
    have HPP := Lib.hid hp
    clear hp hn hn9 HX9D x0 x1 y0 y1 x0a x1a y0a y1a HE1 HM1 COf0 COf1 CMul CTo HP HO HK HA
    have he1 : ∀ w, (Op.equalIn 10000 24 (.agg #[.int .u64 0, .int .u64 1]) (.agg #[.int .u64 0, .int .u64 1])).run Tryd.prog w = .ok true w := fun w => equ128 w 0#64 1#64 0#64 1#64
    have he0 : ∀ w, (Op.equalIn 10000 24 (.agg #[.int .u64 0, .int .u64 0]) (.agg #[.int .u64 0, .int .u64 0])).run Tryd.prog w = .ok true w := fun w => equ128 w 0#64 0#64 0#64 0#64
    go_wp2_with fail
    refine wp_region_class (fun w' => (w'.heap[W.heap.size]? = some (.cells #[.int .u64 (W64 (hiN (C))), .int .u64 (W64 (loN (C)))] 24) ∧ w'.heap[q1]? = some (.cells #[.int .u64 (W64 (hiN (Y))), .int .u64 (W64 (loN (Y)))] 24) ∧ w'.heap[g]? = some (.cells #[.int .u64 0, .int .u64 1] 24 (0, 0))) ∧ New wc w') (by kernel_rfl) (by kernel_rfl) ⟨⟨((New.refl wc).drew.block _ (lt_of_block HB0.out)).trans HB0.out, ((New.refl wc).drew.block _ (lt_of_block HX1.out)).trans HX1.out, ((New.refl wc).drew.block _ (lt_of_block HPP.out)).trans HPP.out⟩, (New.refl _).drew⟩ ?_
    intro I _ f hall hback
    have HSTEP : Hid (∀ n w', New (f n) w' → ∃ m, w' = f m) := Lib.hid fun n w' hn => hback w' ⟨⟨(hn.block _ (lt_of_block ((hall n).1.1))).trans ((hall n).1.1), (hn.block _ (lt_of_block ((hall n).1.2.1))).trans ((hall n).1.2.1), (hn.block _ (lt_of_block ((hall n).1.2.2))).trans ((hall n).1.2.2)⟩, (hall n).2.trans hn⟩
    have HALL := Lib.hid fun n => (hall n).2
    have s0 := fun n => cell_of_row _ _ 0 _ _ _ ((hall n).1.1)
    have s1 := fun n => cell_of_row _ _ 1 _ _ _ ((hall n).1.1)
    have s2 := fun n => cell_of_row _ _ 0 _ _ _ ((hall n).1.2.1)
    have s3 := fun n => cell_of_row _ _ 1 _ _ _ ((hall n).1.2.1)
    have s4 := fun n => cell_of_row _ _ 0 _ _ _ ((hall n).1.2.2)
    have s5 := fun n => cell_of_row _ _ 1 _ _ _ ((hall n).1.2.2)
    clear hall hback
    repeat (go_big_quiet_step (first
      | (go_at_call 11; refine class_new HSTEP.out (CTi.out _))))
    refine wpQuiet_nil ?_
    rintro w9 ⟨n1, hw1⟩
    have hS := HALL.out n1
    rw [← hw1] at hS
    replace HB0 := Lib.hid ((hS.block _ (lt_of_block HB0.out)).trans HB0.out)
    replace HX1 := Lib.hid ((hS.block _ (lt_of_block HX1.out)).trans HX1.out)
    replace HPP := Lib.hid ((hS.block _ (lt_of_block HPP.out)).trans HPP.out)
    replace HN := Lib.hid (HN.out.trans hS)
    clear HALL HSTEP hw1 hS s0 s1 s2 s3 s4 s5
    clear he0 he1 f7
    go_wp2_with fail
    refine (HL.out _ HN.out).mono ?_
    rintro e wz ⟨rfl, rfl⟩
    go_wp2_with fail
    refine (HT.out _).mono ?_
    rintro e wz ⟨rfl, rfl⟩
    rcases HZZ.out with ⟨g1, g2, g3, g4⟩ | ⟨g1, g2, g3, g4⟩
    · go_wp2
      go_ret
      exact ⟨rfl, HN.out⟩
    · go_wp2
      go_ret
      exact ⟨rfl, HN.out⟩
end Go.Proofs.YtadaaihbeapibaaDoor
