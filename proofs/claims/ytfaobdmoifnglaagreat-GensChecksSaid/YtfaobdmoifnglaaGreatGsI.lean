/- The statement GensChecks: for every state and every kind. -/
import Derived.Test.YtfaobdmoifnglaaGreatGsF
import Derived.Test.YtfaobdmoifnglaaGreatGsH
import Derived.Test.YtfaobdmoifnglaaGreatClass
namespace Go.Proofs.YtfaobdmoifnglaaGreat
open Go.RowKit Go.Bv
set_option linter.unusedVariables false
set_option maxRecDepth 100000 in
set_option maxHeartbeats 2000000 in
theorem GensChecks_walk (W : World) (x0_0 : Int) (b0_0 : -9223372036854775808 ≤ x0_0 ∧ x0_0 ≤ 9223372036854775807) (x0_1 : BitVec 64) (x0_2 : BitVec 64) (x0_3 : BitVec 64) (x0_4 : BitVec 64) (a1 : Int) (w1 : (Lit.int .i64 a1).wf = true) :
    Calls Tryz.prog 3 #[.agg #[.int .i64 x0_0, .int .u64 (W64 x0_1), .int .u64 (W64 x0_2), .int .u64 (W64 x0_3), .int .u64 (W64 x0_4)], .int .i64 a1] W fun e w' => e = .returned (.bool true) ∧ Below W.heap.size W w' := by
  have hb := heap_alloc_new W (.cells (stc x0_0 ⟨x0_1, x0_2, x0_3, x0_4⟩) 25)
  have HB := Lib.hid hb
  have HCk := Lib.hid (fun w => check_any x0_0 ⟨x0_1, x0_2, x0_3, x0_4⟩ w)
  have HRk := Lib.hid (fun w => rcheck_any x0_0 ⟨x0_1, x0_2, x0_3, x0_4⟩ w)
  clear hb
  go_enter Tryz.func3, Tryz.ntmps3
  go_wp2_with fail
  refine (awake15 _).mono ?_
  rintro e w ⟨rfl, hn⟩
  have hb := (hn.block _ (lt_of_block HB.out)).trans HB.out
  have HN := Lib.hid (((New.refl W).alloc _).trans hn)
  go_wp2_with fail
  refine wp_region_class (fun w' => (w'.heap[W.heap.size]? = some (.cells (stc x0_0 ⟨x0_1, x0_2, x0_3, x0_4⟩) 25 (0, 0))) ∧ New W w') (by kernel_rfl) (by kernel_rfl) ⟨hb, HN.out.drew⟩ ?_
  intro I _ f hall hback
  have HSTEP : Hid (∀ n w', New (f n) w' → ∃ m, w' = f m) := Lib.hid fun n w' hn => hback w' ⟨(hn.block _ (lt_of_block (hall n).1)).trans (hall n).1, (hall n).2.trans hn⟩
  have HALL := Lib.hid fun n => (hall n).2
  have s0 := fun n => cell_of_row _ _ 0 _ _ _ ((hall n).1)
  have s1 := fun n => cell_of_row _ _ 1 _ _ _ ((hall n).1)
  have s2 := fun n => cell_of_row _ _ 2 _ _ _ ((hall n).1)
  have s3 := fun n => cell_of_row _ _ 3 _ _ _ ((hall n).1)
  have s4 := fun n => cell_of_row _ _ 4 _ _ _ ((hall n).1)
  clear hall hback hn hb
  repeat (go_big_quiet_step (first
    | (go_at_call 8; refine class_new HSTEP.out (HCk.out _))
    | (go_at_call 9; refine class_new HSTEP.out (HRk.out _))
    | (go_at_call 10; refine class_new HSTEP.out (size_any _ _))
    | (go_at_call 11; refine class_new HSTEP.out (rsize_any _ _))
    | (go_at_call 12; refine class_new HSTEP.out (name_any _ _))
    | (go_at_call 13; refine class_new HSTEP.out (rname_any _ _))
    | (go_at_call 14; refine class_new HSTEP.out (cost_any _ _))
    | (go_at_call 15; refine class_new HSTEP.out (rcost_any _ _))))

  refine wpQuiet_nil ?_
  rintro w9 ⟨n1, hw1⟩
  have hS := HALL.out n1
  rw [← hw1] at hS
  have HN := Lib.hid hS
  clear HALL HSTEP hw1 hS s0 s1 s2 s3 s4
  go_wp2
  go_ret
  exact ⟨rfl, HN.out⟩
end Go.Proofs.YtfaobdmoifnglaaGreat
