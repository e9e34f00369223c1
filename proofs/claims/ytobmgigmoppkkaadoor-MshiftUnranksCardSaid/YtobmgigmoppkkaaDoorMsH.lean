/- Contracts of layer 20: multiplier, Unrank; modn.Odd. -/
import Derived.Test.YtobmgigmoppkkaaDoorMsG
import Derived.Test.YtobmgigmoppkkaaDoorInv
namespace Go.Proofs.YtobmgigmoppkkaaDoor
open Go.RowKit Go.Bv
set_option linter.unusedVariables false
set_option maxHeartbeats 1000000 in
theorem odd_m (a : BitVec 64) (h : (a &&& 1#64 == 0#64) = false) (w : World) :
    Calls Tryd.prog 28 #[.int .u64 (W64 a)] w fun e w' => e = .returned (.tuple #[.int .u64 (W64 (invR a 5)), .bool true]) ∧ w' = w := by
  have HST : Hid (invR a 0 = a) := Lib.hid rfl
  go_enter Tryd.func28, Tryd.ntmps28
  go_wp2
  go_loop [4, 9] (fun X I => ∃ k : Nat, k ≤ 5 ∧ I = .int .i64 k ∧ X = .int .u64 (W64 (invR a k))) (fun _ I => 5 - (intOf I).toNat)
  case atStart => exact ⟨0, by omega, rfl, rfl⟩
  case round =>
    obtain ⟨k, hk, rfl, rfl⟩ := hrel
    by_cases hlt : (k : Int) < 5
    · have HX : Hid (invR a k * (2#64 - a * invR a k) = invR a (k + 1)) := Lib.hid rfl
      go_wp2
      exact ⟨⟨k + 1, by omega, by go_num, by rw [← HX.out]⟩, by simp [intOf]; omega⟩
    · obtain rfl : k = 5 := by omega
      go_wp2
      go_ret2
      exact ⟨rfl, rfl⟩
set_option maxHeartbeats 1000000 in
theorem mult_no (x y d q mi tp L inv : BitVec 64) (j s : Nat) (hs : s < 64) (hlt : decide (W64 L ≤ W64 q) = true) (w : World)
    (HG : Hid (∀ w' : World, New w w' → Calls Tryd.prog 23 #[.agg #[.int .u64 (W64 x), .int .u64 (W64 y)]] w' fun e w'' => e = .returned (.tuple #[.int .u64 (W64 d), .int .i64 (s : Int)]) ∧ New w' w''))
    (HL : Hid (∀ w' : World, New w w' → Calls Tryd.prog 25 #[.agg #[.int .u64 (W64 x), .int .u64 (W64 y)], .int .i64 (j : Int)] w' fun e w'' => e = .returned (.int .u64 (W64 L)) ∧ New w' w'')) :
    Calls Tryd.prog 24 #[.agg #[.int .u64 (W64 x), .int .u64 (W64 y)], .agg #[.int .u64 (W64 q), .int .u64 (W64 mi), .int .u64 (W64 tp)], .int .i64 (j : Int)] w fun e w' => e = .returned (.tuple #[.int .u64 0, .bool false]) ∧ New w w' := by
  have hw : wrap64 (64 - (s : Int)) = ((64 - s : Nat) : Int) := by unfold wrap64; omega
  have hw2 : IntKind.i64.wrap (64 - (s : Int)) = ((64 - s : Nat) : Int) := by first | (rw [IntKind.wrap_i64]; exact hw) | (simp [IntKind.wrap, IntKind.signed, IntKind.bits]; omega)
  have hx := (two_blocks2 w (.cells #[.int .u64 (W64 x), .int .u64 (W64 y)] 41) (.cells #[.int .u64 (W64 q), .int .u64 (W64 mi), .int .u64 (W64 tp)] 45)).1
  have hp := (two_blocks2 w (.cells #[.int .u64 (W64 x), .int .u64 (W64 y)] 41) (.cells #[.int .u64 (W64 q), .int .u64 (W64 mi), .int .u64 (W64 tp)] 45)).2.1
  have HN := Lib.hid (two_blocks2 w (.cells #[.int .u64 (W64 x), .int .u64 (W64 y)] 41) (.cells #[.int .u64 (W64 q), .int .u64 (W64 mi), .int .u64 (W64 tp)] 45)).2.2
  obtain ⟨w0, hw0⟩ : ∃ w0, (w.alloc (.cells #[.int .u64 (W64 x), .int .u64 (W64 y)] 41)).alloc (.cells #[.int .u64 (W64 q), .int .u64 (W64 mi), .int .u64 (W64 tp)] 45) = w0 := ⟨_, rfl⟩
  rw [hw0] at HN hx hp
  have HW0 := Lib.hid hw0
  have HX := Lib.hid hx
  have HP := Lib.hid hp
  have HL0 := Lib.hid (fun (w' : World) (h : New w0 w') => HL.out w' (HN.out.trans h))
  clear hw0 hx hp
  go_enter Tryd.func24, Tryd.ntmps24
  go_wp2_with (rw [HW0.out])
  refine wp_region_class (fun w' => (w'.heap[w.heap.size]? = some (.cells #[.int .u64 (W64 x), .int .u64 (W64 y)] 41) ∧ w'.heap[(w.heap.size + 1)]? = some (.cells #[.int .u64 (W64 q), .int .u64 (W64 mi), .int .u64 (W64 tp)] 45)) ∧ New w0 w') (by kernel_rfl) (by kernel_rfl) ⟨⟨((New.refl w0).drew.block _ (lt_of_block HX.out)).trans HX.out, ((New.refl w0).drew.block _ (lt_of_block HP.out)).trans HP.out⟩, (New.refl _).drew⟩ ?_
  intro I _ f hall hback
  have HSTEP : Hid (∀ n w', New (f n) w' → ∃ m, w' = f m) := Lib.hid fun n w' hn => hback w' ⟨⟨(hn.block _ (lt_of_block ((hall n).1.1))).trans ((hall n).1.1), (hn.block _ (lt_of_block ((hall n).1.2))).trans ((hall n).1.2)⟩, (hall n).2.trans hn⟩
  have HALL := Lib.hid fun n => (hall n).2
  have s0 := fun n => cell_of_row _ _ 0 _ _ _ ((hall n).1.1)
  have s1 := fun n => cell_of_row _ _ 1 _ _ _ ((hall n).1.1)
  have s2 := fun n => cell_of_row _ _ 0 _ _ _ ((hall n).1.2)
  have s3 := fun n => cell_of_row _ _ 1 _ _ _ ((hall n).1.2)
  have s4 := fun n => cell_of_row _ _ 2 _ _ _ ((hall n).1.2)
  clear hall hback
  repeat (go_big_quiet_step (first
    | (go_at_call 25; refine class_new HSTEP.out (HL0.out _ (HALL.out _)))))
  refine wpQuiet_nil ?_
  rintro w9 ⟨n1, hw1⟩
  have hS := HALL.out n1
  rw [← hw1] at hS
  replace HX := Lib.hid ((hS.block _ (lt_of_block HX.out)).trans HX.out)
  replace HP := Lib.hid ((hS.block _ (lt_of_block HP.out)).trans HP.out)
  replace HN := Lib.hid (HN.out.trans hS)
  clear HALL HSTEP hw1 hS s0 s1 s2 s3 s4
  go_wp2
  go_returns
  exact ⟨rfl, HN.out⟩
set_option maxHeartbeats 1000000 in
theorem mult_zero (x y d q mi tp L inv : BitVec 64) (j s : Nat) (hs : s < 64) (hlt : decide (W64 L ≤ W64 q) = false) (hmi : (mi == 1#64) = false) (w : World)
    (HG : Hid (∀ w' : World, New w w' → Calls Tryd.prog 23 #[.agg #[.int .u64 (W64 x), .int .u64 (W64 y)]] w' fun e w'' => e = .returned (.tuple #[.int .u64 (W64 d), .int .i64 (s : Int)]) ∧ New w' w''))
    (HL : Hid (∀ w' : World, New w w' → Calls Tryd.prog 25 #[.agg #[.int .u64 (W64 x), .int .u64 (W64 y)], .int .i64 (j : Int)] w' fun e w'' => e = .returned (.int .u64 (W64 L)) ∧ New w' w''))
    (HO : Hid (∀ w' : World, Calls Tryd.prog 28 #[.int .u64 (W64 d)] w' fun e w'' => e = .returned (.tuple #[.int .u64 (W64 inv), .bool true]) ∧ w'' = w')) :
    Calls Tryd.prog 24 #[.agg #[.int .u64 (W64 x), .int .u64 (W64 y)], .agg #[.int .u64 (W64 q), .int .u64 (W64 mi), .int .u64 (W64 tp)], .int .i64 (j : Int)] w fun e w' => e = .returned (.tuple #[.int .u64 (W64 ((tp <<< (64 - s) ||| lowM q s) * inv)), .bool true]) ∧ New w w' := by
  have hw : wrap64 (64 - (s : Int)) = ((64 - s : Nat) : Int) := by unfold wrap64; omega
  have hw2 : IntKind.i64.wrap (64 - (s : Int)) = ((64 - s : Nat) : Int) := by first | (rw [IntKind.wrap_i64]; exact hw) | (simp [IntKind.wrap, IntKind.signed, IntKind.bits]; omega)
  have hx := (two_blocks2 w (.cells #[.int .u64 (W64 x), .int .u64 (W64 y)] 41) (.cells #[.int .u64 (W64 q), .int .u64 (W64 mi), .int .u64 (W64 tp)] 45)).1
  have hp := (two_blocks2 w (.cells #[.int .u64 (W64 x), .int .u64 (W64 y)] 41) (.cells #[.int .u64 (W64 q), .int .u64 (W64 mi), .int .u64 (W64 tp)] 45)).2.1
  have HN := Lib.hid (two_blocks2 w (.cells #[.int .u64 (W64 x), .int .u64 (W64 y)] 41) (.cells #[.int .u64 (W64 q), .int .u64 (W64 mi), .int .u64 (W64 tp)] 45)).2.2
  obtain ⟨w0, hw0⟩ : ∃ w0, (w.alloc (.cells #[.int .u64 (W64 x), .int .u64 (W64 y)] 41)).alloc (.cells #[.int .u64 (W64 q), .int .u64 (W64 mi), .int .u64 (W64 tp)] 45) = w0 := ⟨_, rfl⟩
  rw [hw0] at HN hx hp
  have HW0 := Lib.hid hw0
  have HX := Lib.hid hx
  have HP := Lib.hid hp
  have HL0 := Lib.hid (fun (w' : World) (h : New w0 w') => HL.out w' (HN.out.trans h))
  clear hw0 hx hp
  go_enter Tryd.func24, Tryd.ntmps24
  go_wp2_with (rw [HW0.out])
  refine wp_region_class (fun w' => (w'.heap[w.heap.size]? = some (.cells #[.int .u64 (W64 x), .int .u64 (W64 y)] 41) ∧ w'.heap[(w.heap.size + 1)]? = some (.cells #[.int .u64 (W64 q), .int .u64 (W64 mi), .int .u64 (W64 tp)] 45)) ∧ New w0 w') (by kernel_rfl) (by kernel_rfl) ⟨⟨((New.refl w0).drew.block _ (lt_of_block HX.out)).trans HX.out, ((New.refl w0).drew.block _ (lt_of_block HP.out)).trans HP.out⟩, (New.refl _).drew⟩ ?_
  intro I _ f hall hback
  have HSTEP : Hid (∀ n w', New (f n) w' → ∃ m, w' = f m) := Lib.hid fun n w' hn => hback w' ⟨⟨(hn.block _ (lt_of_block ((hall n).1.1))).trans ((hall n).1.1), (hn.block _ (lt_of_block ((hall n).1.2))).trans ((hall n).1.2)⟩, (hall n).2.trans hn⟩
  have HALL := Lib.hid fun n => (hall n).2
  have s0 := fun n => cell_of_row _ _ 0 _ _ _ ((hall n).1.1)
  have s1 := fun n => cell_of_row _ _ 1 _ _ _ ((hall n).1.1)
  have s2 := fun n => cell_of_row _ _ 0 _ _ _ ((hall n).1.2)
  have s3 := fun n => cell_of_row _ _ 1 _ _ _ ((hall n).1.2)
  have s4 := fun n => cell_of_row _ _ 2 _ _ _ ((hall n).1.2)
  clear hall hback
  repeat (go_big_quiet_step (first
    | (go_at_call 25; refine class_new HSTEP.out (HL0.out _ (HALL.out _)))))
  refine wpQuiet_nil ?_
  rintro w9 ⟨n1, hw1⟩
  have hS := HALL.out n1
  rw [← hw1] at hS
  replace HX := Lib.hid ((hS.block _ (lt_of_block HX.out)).trans HX.out)
  replace HP := Lib.hid ((hS.block _ (lt_of_block HP.out)).trans HP.out)
  replace HN := Lib.hid (HN.out.trans hS)
  clear HALL HSTEP hw1 hS s0 s1 s2 s3 s4
  have x0 := cell_of_row _ _ 0 _ _ _ HX.out
  have x1 := cell_of_row _ _ 1 _ _ _ HX.out
  go_wp2_with fail
  refine (HG.out _ HN.out).mono ?_
  rintro e w9 ⟨rfl, hn⟩
  replace HN := Lib.hid (HN.out.trans hn)
  replace HP := Lib.hid ((hn.block _ (lt_of_block HP.out)).trans HP.out)
  clear hn x0 x1
  have p0 := cell_of_row _ _ 0 _ _ _ HP.out
  have p1 := cell_of_row _ _ 1 _ _ _ HP.out
  have p2 := cell_of_row _ _ 2 _ _ _ HP.out
  go_wp2_with fail
  refine (HO.out _).mono ?_
  rintro e w9 ⟨rfl, rfl⟩
  clear p0 p1 p2
  have HLO := Lib.hid (low_m (q) s)
  go_wp2_with fail
  refine wp_region_class (fun w' => (w'.heap[(w.heap.size + 1)]? = some (.cells #[.int .u64 (W64 q), .int .u64 (W64 mi), .int .u64 (W64 tp)] 45)) ∧ New w9 w') (by kernel_rfl) (by kernel_rfl) ⟨((New.refl w9).drew.block _ (lt_of_block HP.out)).trans HP.out, (New.refl _).drew⟩ ?_
  intro I _ f hall hback
  have HSTEP : Hid (∀ n w', New (f n) w' → ∃ m, w' = f m) := Lib.hid fun n w' hn => hback w' ⟨(hn.block _ (lt_of_block (hall n).1)).trans (hall n).1, (hall n).2.trans hn⟩
  have HALL := Lib.hid fun n => (hall n).2
  have s0 := fun n => cell_of_row _ _ 0 _ _ _ ((hall n).1)
  have s1 := fun n => cell_of_row _ _ 1 _ _ _ ((hall n).1)
  have s2 := fun n => cell_of_row _ _ 2 _ _ _ ((hall n).1)
  clear hall hback
  repeat (go_big_quiet_step (first
    | (go_at_call 26; refine class_same (HLO.out _))))
  refine wpQuiet_nil ?_
  rintro w9 ⟨n1, hw1⟩
  have hS := HALL.out n1
  rw [← hw1] at hS
  replace HP := Lib.hid ((hS.block _ (lt_of_block HP.out)).trans HP.out)
  replace HN := Lib.hid (HN.out.trans hS)
  clear HALL HSTEP hw1 hS s0 s1 s2
  go_wp2
  go_returns
  exact ⟨rfl, HN.out⟩
set_option maxHeartbeats 1000000 in
theorem mult_one (x y d q mi tp L inv : BitVec 64) (j s : Nat) (hs : s < 64) (hlt : decide (W64 L ≤ W64 q) = false) (hmi : (mi == 1#64) = true) (w : World)
    (HG : Hid (∀ w' : World, New w w' → Calls Tryd.prog 23 #[.agg #[.int .u64 (W64 x), .int .u64 (W64 y)]] w' fun e w'' => e = .returned (.tuple #[.int .u64 (W64 d), .int .i64 (s : Int)]) ∧ New w' w''))
    (HL : Hid (∀ w' : World, New w w' → Calls Tryd.prog 25 #[.agg #[.int .u64 (W64 x), .int .u64 (W64 y)], .int .i64 (j : Int)] w' fun e w'' => e = .returned (.int .u64 (W64 L)) ∧ New w' w''))
    (HO : Hid (∀ w' : World, Calls Tryd.prog 28 #[.int .u64 (W64 d)] w' fun e w'' => e = .returned (.tuple #[.int .u64 (W64 inv), .bool true]) ∧ w'' = w')) :
    Calls Tryd.prog 24 #[.agg #[.int .u64 (W64 x), .int .u64 (W64 y)], .agg #[.int .u64 (W64 q), .int .u64 (W64 mi), .int .u64 (W64 tp)], .int .i64 (j : Int)] w fun e w' => e = .returned (.tuple #[.int .u64 (W64 ((tp <<< (64 - s) ||| lowM (-q) s) * inv)), .bool true]) ∧ New w w' := by
  have hw : wrap64 (64 - (s : Int)) = ((64 - s : Nat) : Int) := by unfold wrap64; omega
  have hw2 : IntKind.i64.wrap (64 - (s : Int)) = ((64 - s : Nat) : Int) := by first | (rw [IntKind.wrap_i64]; exact hw) | (simp [IntKind.wrap, IntKind.signed, IntKind.bits]; omega)
  have hx := (two_blocks2 w (.cells #[.int .u64 (W64 x), .int .u64 (W64 y)] 41) (.cells #[.int .u64 (W64 q), .int .u64 (W64 mi), .int .u64 (W64 tp)] 45)).1
  have hp := (two_blocks2 w (.cells #[.int .u64 (W64 x), .int .u64 (W64 y)] 41) (.cells #[.int .u64 (W64 q), .int .u64 (W64 mi), .int .u64 (W64 tp)] 45)).2.1
  have HN := Lib.hid (two_blocks2 w (.cells #[.int .u64 (W64 x), .int .u64 (W64 y)] 41) (.cells #[.int .u64 (W64 q), .int .u64 (W64 mi), .int .u64 (W64 tp)] 45)).2.2
  obtain ⟨w0, hw0⟩ : ∃ w0, (w.alloc (.cells #[.int .u64 (W64 x), .int .u64 (W64 y)] 41)).alloc (.cells #[.int .u64 (W64 q), .int .u64 (W64 mi), .int .u64 (W64 tp)] 45) = w0 := ⟨_, rfl⟩
  rw [hw0] at HN hx hp
  have HW0 := Lib.hid hw0
  have HX := Lib.hid hx
  have HP := Lib.hid hp
  have HL0 := Lib.hid (fun (w' : World) (h : New w0 w') => HL.out w' (HN.out.trans h))
  clear hw0 hx hp
  go_enter Tryd.func24, Tryd.ntmps24
  go_wp2_with (rw [HW0.out])
  refine wp_region_class (fun w' => (w'.heap[w.heap.size]? = some (.cells #[.int .u64 (W64 x), .int .u64 (W64 y)] 41) ∧ w'.heap[(w.heap.size + 1)]? = some (.cells #[.int .u64 (W64 q), .int .u64 (W64 mi), .int .u64 (W64 tp)] 45)) ∧ New w0 w') (by kernel_rfl) (by kernel_rfl) ⟨⟨((New.refl w0).drew.block _ (lt_of_block HX.out)).trans HX.out, ((New.refl w0).drew.block _ (lt_of_block HP.out)).trans HP.out⟩, (New.refl _).drew⟩ ?_
  intro I _ f hall hback
  have HSTEP : Hid (∀ n w', New (f n) w' → ∃ m, w' = f m) := Lib.hid fun n w' hn => hback w' ⟨⟨(hn.block _ (lt_of_block ((hall n).1.1))).trans ((hall n).1.1), (hn.block _ (lt_of_block ((hall n).1.2))).trans ((hall n).1.2)⟩, (hall n).2.trans hn⟩
  have HALL := Lib.hid fun n => (hall n).2
  have s0 := fun n => cell_of_row _ _ 0 _ _ _ ((hall n).1.1)
  have s1 := fun n => cell_of_row _ _ 1 _ _ _ ((hall n).1.1)
  have s2 := fun n => cell_of_row _ _ 0 _ _ _ ((hall n).1.2)
  have s3 := fun n => cell_of_row _ _ 1 _ _ _ ((hall n).1.2)
  have s4 := fun n => cell_of_row _ _ 2 _ _ _ ((hall n).1.2)
  clear hall hback
  repeat (go_big_quiet_step (first
    | (go_at_call 25; refine class_new HSTEP.out (HL0.out _ (HALL.out _)))))
  refine wpQuiet_nil ?_
  rintro w9 ⟨n1, hw1⟩
  have hS := HALL.out n1
  rw [← hw1] at hS
  replace HX := Lib.hid ((hS.block _ (lt_of_block HX.out)).trans HX.out)
  replace HP := Lib.hid ((hS.block _ (lt_of_block HP.out)).trans HP.out)
  replace HN := Lib.hid (HN.out.trans hS)
  clear HALL HSTEP hw1 hS s0 s1 s2 s3 s4
  have x0 := cell_of_row _ _ 0 _ _ _ HX.out
  have x1 := cell_of_row _ _ 1 _ _ _ HX.out
  go_wp2_with fail
  refine (HG.out _ HN.out).mono ?_
  rintro e w9 ⟨rfl, hn⟩
  replace HN := Lib.hid (HN.out.trans hn)
  replace HP := Lib.hid ((hn.block _ (lt_of_block HP.out)).trans HP.out)
  clear hn x0 x1
  have p0 := cell_of_row _ _ 0 _ _ _ HP.out
  have p1 := cell_of_row _ _ 1 _ _ _ HP.out
  have p2 := cell_of_row _ _ 2 _ _ _ HP.out
  go_wp2_with fail
  refine (HO.out _).mono ?_
  rintro e w9 ⟨rfl, rfl⟩
  clear p0 p1 p2
  have HLO := Lib.hid (low_m (-q) s)
  go_wp2_with fail
  refine wp_region_class (fun w' => (w'.heap[(w.heap.size + 1)]? = some (.cells #[.int .u64 (W64 q), .int .u64 (W64 mi), .int .u64 (W64 tp)] 45)) ∧ New w9 w') (by kernel_rfl) (by kernel_rfl) ⟨((New.refl w9).drew.block _ (lt_of_block HP.out)).trans HP.out, (New.refl _).drew⟩ ?_
  intro I _ f hall hback
  have HSTEP : Hid (∀ n w', New (f n) w' → ∃ m, w' = f m) := Lib.hid fun n w' hn => hback w' ⟨(hn.block _ (lt_of_block (hall n).1)).trans (hall n).1, (hall n).2.trans hn⟩
  have HALL := Lib.hid fun n => (hall n).2
  have s0 := fun n => cell_of_row _ _ 0 _ _ _ ((hall n).1)
  have s1 := fun n => cell_of_row _ _ 1 _ _ _ ((hall n).1)
  have s2 := fun n => cell_of_row _ _ 2 _ _ _ ((hall n).1)
  clear hall hback
  repeat (go_big_quiet_step (first
    | (go_at_call 26; refine class_same (HLO.out _))))
  refine wpQuiet_nil ?_
  rintro w9 ⟨n1, hw1⟩
  have hS := HALL.out n1
  rw [← hw1] at hS
  replace HP := Lib.hid ((hS.block _ (lt_of_block HP.out)).trans HP.out)
  replace HN := Lib.hid (HN.out.trans hS)
  clear HALL HSTEP hw1 hS s0 s1 s2
  go_wp2
  go_returns
  exact ⟨rfl, HN.out⟩
theorem unrank_same (r x : BitVec 64) (k : Int) (w : World) : Calls Tryd.prog 17 #[.int .u64 (W64 r), .int .i64 k, .int .u64 (W64 x), .int .u64 (W64 x)] w fun e w' => e = .returned (.tuple #[.int .u64 0, .bool false]) ∧ New w w' := by
  have hsm := same_m x x
  rw [show (x == x) = true by simp] at hsm
  have HSM := Lib.hid hsm
  clear hsm
  have hx := heap_alloc_new w (.cells #[.int .u64 (W64 x), .int .u64 (W64 x)] 41)
  have HN := Lib.hid ((New.refl w).alloc (.cells #[.int .u64 (W64 x), .int .u64 (W64 x)] 41))
  obtain ⟨w0, hw0⟩ : ∃ w0, w.alloc (.cells #[.int .u64 (W64 x), .int .u64 (W64 x)] 41) = w0 := ⟨_, rfl⟩
  rw [hw0] at HN hx
  have HW0 := Lib.hid hw0
  have x0 := cell_of_row _ _ 0 _ _ _ hx
  have x1 := cell_of_row _ _ 1 _ _ _ hx
  clear hw0 hx
  go_enter Tryd.func17, Tryd.ntmps17
  go_wp2_with (rw [HW0.out])
  refine (HSM.out _).mono ?_
  rintro e w9 ⟨rfl, hn⟩
  replace HN := Lib.hid (HN.out.trans hn)
  clear hn x0 x1
  go_wp2
  go_returns
  exact ⟨rfl, HN.out⟩
theorem unrank_bad (r x y : BitVec 64) (k : Int) (hxy : ¬ x = y) (hk : k < 1 ∨ 64 < k) (w : World) : Calls Tryd.prog 17 #[.int .u64 (W64 r), .int .i64 k, .int .u64 (W64 x), .int .u64 (W64 y)] w fun e w' => e = .returned (.tuple #[.int .u64 0, .bool false]) ∧ New w w' := by
  have hsm := same_m x y
  rw [beq_false_of_ne hxy] at hsm
  have HSM := Lib.hid hsm
  have HAL := Lib.hid (allowed_m k)
  rw [decide_eq_true hk, Bool.not_true] at HAL
  clear hsm hk
  have hx := heap_alloc_new w (.cells #[.int .u64 (W64 x), .int .u64 (W64 y)] 41)
  have HN := Lib.hid ((New.refl w).alloc (.cells #[.int .u64 (W64 x), .int .u64 (W64 y)] 41))
  obtain ⟨w0, hw0⟩ : ∃ w0, w.alloc (.cells #[.int .u64 (W64 x), .int .u64 (W64 y)] 41) = w0 := ⟨_, rfl⟩
  rw [hw0] at HN hx
  have HW0 := Lib.hid hw0
  have x0 := cell_of_row _ _ 0 _ _ _ hx
  have x1 := cell_of_row _ _ 1 _ _ _ hx
  clear hw0 hx
  go_enter Tryd.func17, Tryd.ntmps17
  go_wp2_with (rw [HW0.out])
  refine (HSM.out _).mono ?_
  rintro e w9 ⟨rfl, hn⟩
  replace HN := Lib.hid (HN.out.trans hn)
  clear hn x0 x1
  go_wp2_with fail
  refine (HAL.out _).mono ?_
  rintro e w9 ⟨rfl, rfl⟩
  go_wp2
  go_returns
  exact ⟨rfl, HN.out⟩
set_option maxHeartbeats 1000000 in
theorem unrank_no (x y d r rest L inv : BitVec 64) (j s : Nat) (hs : s < 64) (hj : 1 ≤ j) (hj2 : j ≤ 64) (hrest : r >>> s = rest) (hlt : decide (W64 L ≤ W64 (rest ||| 1#64)) = true) (hxy : ¬ x = y) (w : World)
    (HG : Hid (∀ w' : World, New w w' → Calls Tryd.prog 23 #[.agg #[.int .u64 (W64 x), .int .u64 (W64 y)]] w' fun e w'' => e = .returned (.tuple #[.int .u64 (W64 d), .int .i64 (s : Int)]) ∧ New w' w''))
    (HL : Hid (∀ w' : World, New w w' → Calls Tryd.prog 25 #[.agg #[.int .u64 (W64 x), .int .u64 (W64 y)], .int .i64 (j : Int)] w' fun e w'' => e = .returned (.int .u64 (W64 L)) ∧ New w' w'')) :
    Calls Tryd.prog 17 #[.int .u64 (W64 r), .int .i64 (j : Int), .int .u64 (W64 x), .int .u64 (W64 y)] w fun e w' => e = .returned (.tuple #[.int .u64 0, .bool false]) ∧ New w w' := by
  have hmf : ∀ (fn : Fn) (first cap : Array Value) (w : World), (Instr.makeFunc fn first cap).run Tryd.prog w = .ok (.func fn first cap) w := fun _ _ _ _ => rfl
  have hsm := same_m x y
  rw [beq_false_of_ne hxy] at hsm
  have HSM := Lib.hid hsm
  have HAL := Lib.hid (allowed_m (j : Int))
  rw [show decide ((j : Int) < 1 ∨ 64 < (j : Int)) = false from decide_eq_false (by omega), Bool.not_false] at HAL
  have HMU := Lib.hid (fun (w1 : World) (h1 : New w w1) => mult_no x y d (rest ||| 1#64) (rest &&& 1#64) (r - rest <<< s) L inv j s hs hlt w1 (Lib.hid fun w' h => HG.out w' (h1.trans h)) (Lib.hid fun w' h => HL.out w' (h1.trans h)))
  clear hsm hxy hlt hj hj2
  subst hrest
  have hx := heap_alloc_new w (.cells #[.int .u64 (W64 x), .int .u64 (W64 y)] 41)
  have HN := Lib.hid ((New.refl w).alloc (.cells #[.int .u64 (W64 x), .int .u64 (W64 y)] 41))
  obtain ⟨w0, hw0⟩ : ∃ w0, w.alloc (.cells #[.int .u64 (W64 x), .int .u64 (W64 y)] 41) = w0 := ⟨_, rfl⟩
  rw [hw0] at HN hx
  have HW0 := Lib.hid hw0
  have HX := Lib.hid hx
  clear hw0 hx
  have x0 := cell_of_row _ _ 0 _ _ _ HX.out
  have x1 := cell_of_row _ _ 1 _ _ _ HX.out
  go_enter Tryd.func17, Tryd.ntmps17
  go_wp2_with (rw [HW0.out])
  refine (HSM.out _).mono ?_
  rintro e w9 ⟨rfl, hn⟩
  replace HN := Lib.hid (HN.out.trans hn)
  replace HX := Lib.hid ((hn.block _ (lt_of_block HX.out)).trans HX.out)
  clear hn x0 x1
  have x0 := cell_of_row _ _ 0 _ _ _ HX.out
  have x1 := cell_of_row _ _ 1 _ _ _ HX.out
  go_wp2_with fail
  refine (HAL.out _).mono ?_
  rintro e w9 ⟨rfl, rfl⟩
  go_wp2_with fail
  refine (HG.out _ HN.out).mono ?_
  rintro e w9 ⟨rfl, hn⟩
  replace HN := Lib.hid (HN.out.trans hn)
  replace HX := Lib.hid ((hn.block _ (lt_of_block HX.out)).trans HX.out)
  clear hn x0 x1
  have x0 := cell_of_row _ _ 0 _ _ _ HX.out
  have x1 := cell_of_row _ _ 1 _ _ _ HX.out
  go_wp2_with fail
  refine (HMU.out _ HN.out).mono ?_
  rintro e w9 ⟨rfl, hn⟩
  replace HN := Lib.hid (HN.out.trans hn)
  clear hn x0 x1
  go_wp2
  go_returns
  exact ⟨rfl, HN.out⟩
set_option maxHeartbeats 1000000 in
theorem unrank_zero (x y d r rest L inv : BitVec 64) (j s : Nat) (hs : s < 64) (hj : 1 ≤ j) (hj2 : j ≤ 64) (hrest : r >>> s = rest) (hlt : decide (W64 L ≤ W64 (rest ||| 1#64)) = false) (hmi : (rest &&& 1#64 == 1#64) = false) (hxy : ¬ x = y) (w : World)
    (HG : Hid (∀ w' : World, New w w' → Calls Tryd.prog 23 #[.agg #[.int .u64 (W64 x), .int .u64 (W64 y)]] w' fun e w'' => e = .returned (.tuple #[.int .u64 (W64 d), .int .i64 (s : Int)]) ∧ New w' w''))
    (HL : Hid (∀ w' : World, New w w' → Calls Tryd.prog 25 #[.agg #[.int .u64 (W64 x), .int .u64 (W64 y)], .int .i64 (j : Int)] w' fun e w'' => e = .returned (.int .u64 (W64 L)) ∧ New w' w''))
    (HO : Hid (∀ w' : World, Calls Tryd.prog 28 #[.int .u64 (W64 d)] w' fun e w'' => e = .returned (.tuple #[.int .u64 (W64 inv), .bool true]) ∧ w'' = w')) :
    Calls Tryd.prog 17 #[.int .u64 (W64 r), .int .i64 (j : Int), .int .u64 (W64 x), .int .u64 (W64 y)] w fun e w' => e = .returned (.tuple #[.int .u64 (W64 (((r - rest <<< s) <<< (64 - s) ||| lowM (rest ||| 1#64) s) * inv)), .bool true]) ∧ New w w' := by
  have hmf : ∀ (fn : Fn) (first cap : Array Value) (w : World), (Instr.makeFunc fn first cap).run Tryd.prog w = .ok (.func fn first cap) w := fun _ _ _ _ => rfl
  have hsm := same_m x y
  rw [beq_false_of_ne hxy] at hsm
  have HSM := Lib.hid hsm
  have HAL := Lib.hid (allowed_m (j : Int))
  rw [show decide ((j : Int) < 1 ∨ 64 < (j : Int)) = false from decide_eq_false (by omega), Bool.not_false] at HAL
  have HMU := Lib.hid (fun (w1 : World) (h1 : New w w1) => mult_zero x y d (rest ||| 1#64) (rest &&& 1#64) (r - rest <<< s) L inv j s hs hlt hmi w1 (Lib.hid fun w' h => HG.out w' (h1.trans h)) (Lib.hid fun w' h => HL.out w' (h1.trans h)) HO)
  clear hsm hxy hlt hmi hj hj2
  subst hrest
  have hx := heap_alloc_new w (.cells #[.int .u64 (W64 x), .int .u64 (W64 y)] 41)
  have HN := Lib.hid ((New.refl w).alloc (.cells #[.int .u64 (W64 x), .int .u64 (W64 y)] 41))
  obtain ⟨w0, hw0⟩ : ∃ w0, w.alloc (.cells #[.int .u64 (W64 x), .int .u64 (W64 y)] 41) = w0 := ⟨_, rfl⟩
  rw [hw0] at HN hx
  have HW0 := Lib.hid hw0
  have HX := Lib.hid hx
  clear hw0 hx
  have x0 := cell_of_row _ _ 0 _ _ _ HX.out
  have x1 := cell_of_row _ _ 1 _ _ _ HX.out
  go_enter Tryd.func17, Tryd.ntmps17
  go_wp2_with (rw [HW0.out])
  refine (HSM.out _).mono ?_
  rintro e w9 ⟨rfl, hn⟩
  replace HN := Lib.hid (HN.out.trans hn)
  replace HX := Lib.hid ((hn.block _ (lt_of_block HX.out)).trans HX.out)
  clear hn x0 x1
  have x0 := cell_of_row _ _ 0 _ _ _ HX.out
  have x1 := cell_of_row _ _ 1 _ _ _ HX.out
  go_wp2_with fail
  refine (HAL.out _).mono ?_
  rintro e w9 ⟨rfl, rfl⟩
  go_wp2_with fail
  refine (HG.out _ HN.out).mono ?_
  rintro e w9 ⟨rfl, hn⟩
  replace HN := Lib.hid (HN.out.trans hn)
  replace HX := Lib.hid ((hn.block _ (lt_of_block HX.out)).trans HX.out)
  clear hn x0 x1
  have x0 := cell_of_row _ _ 0 _ _ _ HX.out
  have x1 := cell_of_row _ _ 1 _ _ _ HX.out
  go_wp2_with fail
  refine (HMU.out _ HN.out).mono ?_
  rintro e w9 ⟨rfl, hn⟩
  replace HN := Lib.hid (HN.out.trans hn)
  clear hn x0 x1
  go_wp2
  go_returns
  exact ⟨rfl, HN.out⟩
set_option maxHeartbeats 1000000 in
theorem unrank_one (x y d r rest L inv : BitVec 64) (j s : Nat) (hs : s < 64) (hj : 1 ≤ j) (hj2 : j ≤ 64) (hrest : r >>> s = rest) (hlt : decide (W64 L ≤ W64 (rest ||| 1#64)) = false) (hmi : (rest &&& 1#64 == 1#64) = true) (hxy : ¬ x = y) (w : World)
    (HG : Hid (∀ w' : World, New w w' → Calls Tryd.prog 23 #[.agg #[.int .u64 (W64 x), .int .u64 (W64 y)]] w' fun e w'' => e = .returned (.tuple #[.int .u64 (W64 d), .int .i64 (s : Int)]) ∧ New w' w''))
    (HL : Hid (∀ w' : World, New w w' → Calls Tryd.prog 25 #[.agg #[.int .u64 (W64 x), .int .u64 (W64 y)], .int .i64 (j : Int)] w' fun e w'' => e = .returned (.int .u64 (W64 L)) ∧ New w' w''))
    (HO : Hid (∀ w' : World, Calls Tryd.prog 28 #[.int .u64 (W64 d)] w' fun e w'' => e = .returned (.tuple #[.int .u64 (W64 inv), .bool true]) ∧ w'' = w')) :
    Calls Tryd.prog 17 #[.int .u64 (W64 r), .int .i64 (j : Int), .int .u64 (W64 x), .int .u64 (W64 y)] w fun e w' => e = .returned (.tuple #[.int .u64 (W64 (((r - rest <<< s) <<< (64 - s) ||| lowM (-(rest ||| 1#64)) s) * inv)), .bool true]) ∧ New w w' := by
  have hmf : ∀ (fn : Fn) (first cap : Array Value) (w : World), (Instr.makeFunc fn first cap).run Tryd.prog w = .ok (.func fn first cap) w := fun _ _ _ _ => rfl
  have hsm := same_m x y
  rw [beq_false_of_ne hxy] at hsm
  have HSM := Lib.hid hsm
  have HAL := Lib.hid (allowed_m (j : Int))
  rw [show decide ((j : Int) < 1 ∨ 64 < (j : Int)) = false from decide_eq_false (by omega), Bool.not_false] at HAL
  have HMU := Lib.hid (fun (w1 : World) (h1 : New w w1) => mult_one x y d (rest ||| 1#64) (rest &&& 1#64) (r - rest <<< s) L inv j s hs hlt hmi w1 (Lib.hid fun w' h => HG.out w' (h1.trans h)) (Lib.hid fun w' h => HL.out w' (h1.trans h)) HO)
  clear hsm hxy hlt hmi hj hj2
  subst hrest
  have hx := heap_alloc_new w (.cells #[.int .u64 (W64 x), .int .u64 (W64 y)] 41)
  have HN := Lib.hid ((New.refl w).alloc (.cells #[.int .u64 (W64 x), .int .u64 (W64 y)] 41))
  obtain ⟨w0, hw0⟩ : ∃ w0, w.alloc (.cells #[.int .u64 (W64 x), .int .u64 (W64 y)] 41) = w0 := ⟨_, rfl⟩
  rw [hw0] at HN hx
  have HW0 := Lib.hid hw0
  have HX := Lib.hid hx
  clear hw0 hx
  have x0 := cell_of_row _ _ 0 _ _ _ HX.out
  have x1 := cell_of_row _ _ 1 _ _ _ HX.out
  go_enter Tryd.func17, Tryd.ntmps17
  go_wp2_with (rw [HW0.out])
  refine (HSM.out _).mono ?_
  rintro e w9 ⟨rfl, hn⟩
  replace HN := Lib.hid (HN.out.trans hn)
  replace HX := Lib.hid ((hn.block _ (lt_of_block HX.out)).trans HX.out)
  clear hn x0 x1
  have x0 := cell_of_row _ _ 0 _ _ _ HX.out
  have x1 := cell_of_row _ _ 1 _ _ _ HX.out
  go_wp2_with fail
  refine (HAL.out _).mono ?_
  rintro e w9 ⟨rfl, rfl⟩
  go_wp2_with fail
  refine (HG.out _ HN.out).mono ?_
  rintro e w9 ⟨rfl, hn⟩
  replace HN := Lib.hid (HN.out.trans hn)
  replace HX := Lib.hid ((hn.block _ (lt_of_block HX.out)).trans HX.out)
  clear hn x0 x1
  have x0 := cell_of_row _ _ 0 _ _ _ HX.out
  have x1 := cell_of_row _ _ 1 _ _ _ HX.out
  go_wp2_with fail
  refine (HMU.out _ HN.out).mono ?_
  rintro e w9 ⟨rfl, hn⟩
  replace HN := Lib.hid (HN.out.trans hn)
  clear hn x0 x1
  go_wp2
  go_returns
  exact ⟨rfl, HN.out⟩
end Go.Proofs.YtobmgigmoppkkaaDoor
