/- The walks of the statements XoshiroTells and XoshiroBack: for every state, for every number of steps. -/
import Derived.Test.YtcibfipbibaicaaXoW
namespace Go.Proofs.Ytcibfipbibaicaa
open Go.RowKit Go.Bv
set_option linter.unusedVariables false
theorem XoshiroTells_walk (W : World) (x0_0 : BitVec 64) (x0_1 : BitVec 64) (x0_2 : BitVec 64) (x0_3 : BitVec 64) :
    Calls Try.prog 3 #[.agg #[.int .u64 (W64 x0_0), .int .u64 (W64 x0_1), .int .u64 (W64 x0_2), .int .u64 (W64 x0_3)]] W fun e w' => e = .returned (.bool true) ∧ Below W.heap.size W w' :=
  XoshiroTells_try W x0_0 x0_1 x0_2 x0_3 awake09
theorem c_st_bk (q : Q4) (w : World) : Calls Try.prog 13 #[.agg #[.int .u64 (W64 (bk9 q).a), .int .u64 (W64 (bk9 q).b), .int .u64 (W64 (bk9 q).c), .int .u64 (W64 (bk9 q).d)]] w fun e w' => e = .returned (.agg #[.int .u64 (W64 q.a), .int .u64 (W64 q.b), .int .u64 (W64 q.c), .int .u64 (W64 q.d)]) ∧ New w w' := by
  have h := step_mvr (bk9 q) w; rw [st_bk] at h; exact h
theorem c_bk_st (q : Q4) (w : World) : Calls Try.prog 18 #[.agg #[.int .u64 (W64 (st9 q).a), .int .u64 (W64 (st9 q).b), .int .u64 (W64 (st9 q).c), .int .u64 (W64 (st9 q).d)]] w fun e w' => e = .returned (.agg #[.int .u64 (W64 q.a), .int .u64 (W64 q.b), .int .u64 (W64 q.c), .int .u64 (W64 q.d)]) ∧ New w w' := by
  have h := back_mv9 (st9 q) w; rw [bk_st] at h; exact h
theorem c_dn_up (q : Q4) (m : Nat) (hm : m ≤ 300) (w : World) : Calls Try.prog 19 #[.agg #[.int .u64 (W64 (it9 st9 m q).a), .int .u64 (W64 (it9 st9 m q).b), .int .u64 (W64 (it9 st9 m q).c), .int .u64 (W64 (it9 st9 m q).d)], .int .i64 (-(m : Int))] w fun e w' => e = .returned (.agg #[.int .u64 (W64 q.a), .int .u64 (W64 q.b), .int .u64 (W64 q.c), .int .u64 (W64 q.d)]) ∧ New w w' := by
  have h := run_dn (it9 st9 m q) m hm w; rw [it_back bk_st] at h; exact h
theorem c_up_dn (q : Q4) (m : Nat) (hm : m ≤ 300) (w : World) : Calls Try.prog 19 #[.agg #[.int .u64 (W64 (it9 bk9 m q).a), .int .u64 (W64 (it9 bk9 m q).b), .int .u64 (W64 (it9 bk9 m q).c), .int .u64 (W64 (it9 bk9 m q).d)], .int .i64 m] w fun e w' => e = .returned (.agg #[.int .u64 (W64 q.a), .int .u64 (W64 q.b), .int .u64 (W64 q.c), .int .u64 (W64 q.d)]) ∧ New w w' := by
  have h := run_up (it9 bk9 m q) m hm w; rw [it_back st_bk] at h; exact h
set_option maxHeartbeats 2000000 in
theorem XoshiroBack_far (W : World) (q : Q4) (n : Int) (hfar : n < 0 ∨ 300 < n) :
    Calls Try.prog 4 #[.agg #[.int .u64 (W64 q.a), .int .u64 (W64 q.b), .int .u64 (W64 q.c), .int .u64 (W64 q.d)], .int .i64 n] W fun e w' => e = .returned (.bool true) ∧ Below W.heap.size W w' := by
  have heq := eq4
  have HFAR := Lib.hid hfar
  clear hfar
  go_enter Try.func4, Try.ntmps4
  go_wp2_with fail
  refine (awake09 _).mono ?_
  rintro e w ⟨rfl, hn1⟩
  have hc := (c4_new W _ _ _ _ _).stay hn1
  have hN : New W w := ((New.refl W).alloc _).trans hn1
  clear hn1
  obtain ⟨c0, c1, c2, c3⟩ := hc
  go_wp2_with fail
  refine wp_region_class (fun w' => C4 w' W.heap.size q.a q.b q.c q.d ∧ New W w') (by kernel_rfl) (by kernel_rfl) ⟨⟨c0, c1, c2, c3⟩, hN.drew⟩ ?_
  intro I _ f hall hback
  have HSTEP : Hid (∀ n w', New (f n) w' → ∃ m, w' = f m) := Lib.hid fun n w' hn => hback w' ⟨(hall n).1.stay hn, (hall n).2.trans hn⟩
  have HALL := Lib.hid hall
  have d0 := fun n => (hall n).1.1
  have d1 := fun n => (hall n).1.2.1
  have d2 := fun n => (hall n).1.2.2.1
  have d3 := fun n => (hall n).1.2.2.2
  clear hall hback hN c0 c1 c2 c3
  repeat (go_big_quiet_step (first
      | (go_at_call_of 18 (Value.int IntKind.u64 (W64 q.a)); refine class_new HSTEP.out (back_mv9 q _))
      | (go_at_call_of 13 (Value.int IntKind.u64 (W64 q.a)); refine class_new HSTEP.out (step_mvr q _))
      | (go_at_call_of 13 (Value.int IntKind.u64 (W64 (bk9 q).a)); refine class_new HSTEP.out (c_st_bk q _))
      | (go_at_call_of 18 (Value.int IntKind.u64 (W64 (st9 q).a)); refine class_new HSTEP.out (c_bk_st q _))))
  refine wpQuiet_nil ?_
  rintro w1 ⟨n1, hw1⟩
  have hS := HALL.out n1
  rw [← hw1] at hS
  clear HALL HSTEP d0 d1 d2 d3 hw1
  obtain ⟨⟨c0, c1, c2, c3⟩, hN⟩ := hS
  rcases HFAR.out with h | h
  · go_wp2
    go_ret
    exact ⟨rfl, hN⟩
  · have h0 : ¬ n < 0 := by omega
    go_wp2
    go_ret
    exact ⟨rfl, hN⟩
set_option maxHeartbeats 2000000 in
theorem XoshiroBack_near (W : World) (q : Q4) (m : Nat) (hm : m ≤ 300) :
    Calls Try.prog 4 #[.agg #[.int .u64 (W64 q.a), .int .u64 (W64 q.b), .int .u64 (W64 q.c), .int .u64 (W64 q.d)], .int .i64 m] W fun e w' => e = .returned (.bool true) ∧ Below W.heap.size W w' := by
  have heq := eq4
  have hneg : wrap64 (-(m : Int)) = -(m : Int) := by unfold wrap64; omega
  have h0 : ¬ (m : Int) < 0 := by omega
  have h3 : ¬ (300 : Int) < m := by omega
  go_enter Try.func4, Try.ntmps4
  go_wp2_with fail
  refine (awake09 _).mono ?_
  rintro e w ⟨rfl, hn1⟩
  have hc := (c4_new W _ _ _ _ _).stay hn1
  have hN : New W w := ((New.refl W).alloc _).trans hn1
  clear hn1
  obtain ⟨c0, c1, c2, c3⟩ := hc
  go_wp2_with fail
  refine wp_region_class (fun w' => C4 w' W.heap.size q.a q.b q.c q.d ∧ New W w') (by kernel_rfl) (by kernel_rfl) ⟨⟨c0, c1, c2, c3⟩, hN.drew⟩ ?_
  intro I _ f hall hback
  have HSTEP : Hid (∀ n w', New (f n) w' → ∃ m, w' = f m) := Lib.hid fun n w' hn => hback w' ⟨(hall n).1.stay hn, (hall n).2.trans hn⟩
  have HALL := Lib.hid hall
  have d0 := fun n => (hall n).1.1
  have d1 := fun n => (hall n).1.2.1
  have d2 := fun n => (hall n).1.2.2.1
  have d3 := fun n => (hall n).1.2.2.2
  clear hall hback hN c0 c1 c2 c3
  repeat (go_big_quiet_step (first
      | (go_at_call_of 18 (Value.int IntKind.u64 (W64 q.a)); refine class_new HSTEP.out (back_mv9 q _))
      | (go_at_call_of 13 (Value.int IntKind.u64 (W64 q.a)); refine class_new HSTEP.out (step_mvr q _))
      | (go_at_call_of 13 (Value.int IntKind.u64 (W64 (bk9 q).a)); refine class_new HSTEP.out (c_st_bk q _))
      | (go_at_call_of 18 (Value.int IntKind.u64 (W64 (st9 q).a)); refine class_new HSTEP.out (c_bk_st q _))))
  refine wpQuiet_nil ?_
  rintro w1 ⟨n1, hw1⟩
  have hS := HALL.out n1
  rw [← hw1] at hS
  clear HALL HSTEP d0 d1 d2 d3 hw1
  obtain ⟨⟨c0, c1, c2, c3⟩, hN⟩ := hS
  go_wp2_with fail
  refine wp_region_class (fun w' => C4 w' W.heap.size q.a q.b q.c q.d ∧ New W w') (by kernel_rfl) (by kernel_rfl) ⟨⟨c0, c1, c2, c3⟩, hN.drew⟩ ?_
  intro I _ f hall hback
  have HSTEP : Hid (∀ n w', New (f n) w' → ∃ m, w' = f m) := Lib.hid fun n w' hn => hback w' ⟨(hall n).1.stay hn, (hall n).2.trans hn⟩
  have HALL := Lib.hid hall
  have d0 := fun n => (hall n).1.1
  have d1 := fun n => (hall n).1.2.1
  have d2 := fun n => (hall n).1.2.2.1
  have d3 := fun n => (hall n).1.2.2.2
  clear hall hback hN c0 c1 c2 c3
  repeat (go_big_quiet_step (first
      | (go_at_call_of 19 (Value.int IntKind.u64 (W64 q.a)); go_at_call_of 19 (Value.int IntKind.i64 (m : Int)); refine class_new HSTEP.out (run_up q m hm _))
      | (go_at_call_of 19 (Value.int IntKind.u64 (W64 q.a)); go_at_call_of 19 (Value.int IntKind.i64 (-(m : Int))); refine class_new HSTEP.out (run_dn q m hm _))
      | (go_at_call_of 20 (Value.int IntKind.u64 (W64 q.a)); refine class_new HSTEP.out (steps_ref9 q m hm _))
      | (go_at_call_of 19 (Value.int IntKind.u64 (W64 (it9 st9 m q).a)); refine class_new HSTEP.out (c_dn_up q m hm _))
      | (go_at_call_of 19 (Value.int IntKind.u64 (W64 (it9 bk9 m q).a)); refine class_new HSTEP.out (c_up_dn q m hm _))))
  refine wpQuiet_nil ?_
  rintro w2 ⟨n1, hw1⟩
  have hS := (HALL.out n1).2
  rw [← hw1] at hS
  clear HALL HSTEP d0 d1 d2 d3 hw1
  go_wp2
  go_ret
  exact ⟨rfl, hS⟩
theorem XoshiroBack_walk (W : World) (x0_0 : BitVec 64) (x0_1 : BitVec 64) (x0_2 : BitVec 64) (x0_3 : BitVec 64) (a1 : Int) (w1 : (Lit.int .i64 a1).wf = true) :
    Calls Try.prog 4 #[.agg #[.int .u64 (W64 x0_0), .int .u64 (W64 x0_1), .int .u64 (W64 x0_2), .int .u64 (W64 x0_3)], .int .i64 a1] W fun e w' => e = .returned (.bool true) ∧ Below W.heap.size W w' := by
  by_cases h : a1 < 0 ∨ 300 < a1
  · exact XoshiroBack_far W ⟨x0_0, x0_1, x0_2, x0_3⟩ a1 h
  · obtain ⟨m, rfl⟩ : ∃ m : Nat, a1 = m := ⟨a1.toNat, by omega⟩
    exact XoshiroBack_near W ⟨x0_0, x0_1, x0_2, x0_3⟩ m (by omega)
end Go.Proofs.Ytcibfipbibaicaa
