/- The walk of the statement Pcg64Tells: for every state, every increment. -/
import Derived.Test.YtfaobdmoifnglaaPkE
import Derived.Test.YtfaobdmoifnglaaPkF
namespace Go.Proofs.Ytfaobdmoifnglaa
open Go.RowKit Go.Bv
set_option linter.unusedVariables false
theorem equ_T (w : World) : (Op.equalIn 10000 24 (.agg #[.int .u64 2549297995355413924, .int .u64 4865540595714422341]) (.agg #[.int .u64 2549297995355413924, .int .u64 4865540595714422341])).run Try.prog w = .ok true w := by
  have h := equ_x w T14 T14
  rw [T14_hi, T14_lo, BEq.rfl] at h
  exact h
set_option maxHeartbeats 2000000 in
theorem tells_try (W : World) (s x y b : BitVec 128) (oy os : BitVec 64)
    (CR : Hid (∀ w : World, Calls Try.prog 8 #[.agg #[.int .u64 (W64 (hi128 s)), .int .u64 (W64 (lo128 s))], .agg #[.int .u64 (W64 (hi128 x)), .int .u64 (W64 (lo128 x))]] w fun e w' => e = .returned (.agg #[.int .u64 (W64 (hi128 y)), .int .u64 (W64 (lo128 y))]) ∧ New w w'))
    (CN : Hid (∀ w : World, Calls Try.prog 9 #[.agg #[.int .u64 (W64 (hi128 s)), .int .u64 (W64 (lo128 s))], .agg #[.int .u64 (W64 (hi128 x)), .int .u64 (W64 (lo128 x))]] w fun e w' => e = .returned (.tuple #[.int .u64 (W64 oy), .agg #[.int .u64 (W64 (hi128 y)), .int .u64 (W64 (lo128 y))]]) ∧ New w w'))
    (CT : Hid (∀ w : World, Calls Try.prog 10 #[] w fun e w' => e = .returned (.agg #[.int .u64 2549297995355413924, .int .u64 4865540595714422341]) ∧ New w w'))
    (CS : Hid (∀ w : World, Calls Try.prog 11 #[.agg #[.int .u64 (W64 (hi128 s)), .int .u64 (W64 (lo128 s))], .agg #[.int .u64 (W64 (hi128 x)), .int .u64 (W64 (lo128 x))]] w fun e w' => e = .returned (.agg #[.int .u64 (W64 (hi128 y)), .int .u64 (W64 (lo128 y))]) ∧ New w w'))
    (COy : Hid (∀ w : World, Calls Try.prog 12 #[.agg #[.int .u64 (W64 (hi128 y)), .int .u64 (W64 (lo128 y))]] w fun e w' => e = .returned (.int .u64 (W64 oy)) ∧ New w w'))
    (COs : Hid (∀ w : World, Calls Try.prog 12 #[.agg #[.int .u64 (W64 (hi128 s)), .int .u64 (W64 (lo128 s))]] w fun e w' => e = .returned (.int .u64 (W64 os)) ∧ New w w'))
    (CPs : Hid (∀ w : World, Calls Try.prog 13 #[.agg #[.int .u64 (W64 (hi128 s)), .int .u64 (W64 (lo128 s))]] w fun e w' => e = .returned (.int .u64 (W64 os)) ∧ New w w'))
    (CB1 : Hid (∀ w : World, Calls Try.prog 14 #[.agg #[.int .u64 (W64 (hi128 y)), .int .u64 (W64 (lo128 y))], .agg #[.int .u64 (W64 (hi128 x)), .int .u64 (W64 (lo128 x))]] w fun e w' => e = .returned (.agg #[.int .u64 (W64 (hi128 s)), .int .u64 (W64 (lo128 s))]) ∧ New w w'))
    (CB2 : Hid (∀ w : World, Calls Try.prog 14 #[.agg #[.int .u64 (W64 (hi128 s)), .int .u64 (W64 (lo128 s))], .agg #[.int .u64 (W64 (hi128 x)), .int .u64 (W64 (lo128 x))]] w fun e w' => e = .returned (.agg #[.int .u64 (W64 (hi128 b)), .int .u64 (W64 (lo128 b))]) ∧ New w w'))
    (CR2 : Hid (∀ w : World, Calls Try.prog 8 #[.agg #[.int .u64 (W64 (hi128 b)), .int .u64 (W64 (lo128 b))], .agg #[.int .u64 (W64 (hi128 x)), .int .u64 (W64 (lo128 x))]] w fun e w' => e = .returned (.agg #[.int .u64 (W64 (hi128 s)), .int .u64 (W64 (lo128 s))]) ∧ New w w'))
    : Calls Try.prog 3 #[.agg #[.int .u64 (W64 (hi128 s)), .int .u64 (W64 (lo128 s))], .agg #[.int .u64 (W64 (hi128 x)), .int .u64 (W64 (lo128 x))]] W fun e w' => e = .returned (.bool true) ∧ Below W.heap.size W w' := by
  have heqT := equ_T
  have heqy := fun w => equ_x w y y
  have heqs := fun w => equ_x w s s
  simp only [BEq.rfl] at heqy heqs
  go_enter Try.func3, Try.ntmps3
  go_wp2_with fail
  obtain ⟨h1, h2, h3⟩ := two_blocks W (.cells #[.int .u64 (W64 (hi128 s)), .int .u64 (W64 (lo128 s))] 24) (.cells #[.int .u64 (W64 (hi128 x)), .int .u64 (W64 (lo128 x))] 24)
  generalize (W.alloc (.cells #[.int .u64 (W64 (hi128 s)), .int .u64 (W64 (lo128 s))] 24)).alloc (.cells #[.int .u64 (W64 (hi128 x)), .int .u64 (W64 (lo128 x))] 24) = w0 at h1 h2 h3 ⊢
  refine (awake14 _).mono ?_
  rintro e w ⟨rfl, hn1⟩
  have H1 := Lib.hid ((show B2 _ _ _ s from h1).stay hn1)
  have H2 := Lib.hid ((show B2 _ _ _ x from h2).stay hn1)
  have HN := Lib.hid (h3.trans hn1)
  clear h1 h2 h3 hn1
  have s0 := H1.out.c0
  have s1 := H1.out.c1
  have x0 := H2.out.c0
  have x1 := H2.out.c1
  go_wp2_with fail
  refine (CR.out _).mono ?_
  rintro e w1 ⟨rfl, hn1⟩
  have hB := heap_alloc_new w1 (.cells #[.int .u64 (W64 (hi128 y)), .int .u64 (W64 (lo128 y))] 24)
  have hn2 := hn1.alloc (.cells #[.int .u64 (W64 (hi128 y)), .int .u64 (W64 (lo128 y))] 24)
  have s0 := (H1.out.stay hn2).c0
  have s1 := (H1.out.stay hn2).c1
  have x0 := (H2.out.stay hn2).c0
  have x1 := (H2.out.stay hn2).c1
  go_wp2_with fail
  generalize w1.heap.size = b5 at *
  generalize w1.alloc (.cells #[.int .u64 (W64 (hi128 y)), .int .u64 (W64 (lo128 y))] 24) = w2 at *
  refine (CN.out _).mono ?_
  rintro e w3 ⟨rfl, hn3⟩
  have hC := heap_alloc_new w3 (.cells #[.int .u64 (W64 (hi128 y)), .int .u64 (W64 (lo128 y))] 24)
  have hn4 := hn3.alloc (.cells #[.int .u64 (W64 (hi128 y)), .int .u64 (W64 (lo128 y))] 24)
  clear s0 s1 x0 x1
  go_wp2_with fail
  generalize w3.heap.size = b7 at *
  generalize w3.alloc (.cells #[.int .u64 (W64 (hi128 y)), .int .u64 (W64 (lo128 y))] 24) = w4 at *
  have hs := H1.out.stay (hn2.trans hn4)
  have hx := H2.out.stay (hn2.trans hn4)
  have hy5 := (show B2 _ _ _ y from hB).stay hn4
  have hy7 : B2 _ _ _ y := hC
  have HN4 := Lib.hid (HN.out.trans (hn2.trans hn4))
  clear hB hC hn1 hn2 hn3 hn4 H1 H2 HN CR CN
  refine wp_region_class (fun w' => (B2 w' W.heap.size 24 s ∧ B2 w' (W.heap.size + 1) 24 x ∧ B2 w' b5 24 y ∧ B2 w' b7 24 y) ∧ New w4 w') (by kernel_rfl) (by kernel_rfl) ⟨⟨hs.stay (New.refl _).drew, hx.stay (New.refl _).drew, hy5.stay (New.refl _).drew, hy7.stay (New.refl _).drew⟩, (New.refl _).drew⟩ ?_
  intro I _ f hall hback
  have HSTEP : Hid (∀ n w', New (f n) w' → ∃ m, w' = f m) := Lib.hid fun n w' hn => hback w' ⟨⟨(hall n).1.1.stay hn, (hall n).1.2.1.stay hn, (hall n).1.2.2.1.stay hn, (hall n).1.2.2.2.stay hn⟩, (hall n).2.trans hn⟩
  have HALL := Lib.hid hall
  have s0 := fun n => (hall n).1.1.c0
  have s1 := fun n => (hall n).1.1.c1
  have x0 := fun n => (hall n).1.2.1.c0
  have x1 := fun n => (hall n).1.2.1.c1
  have p0 := fun n => (hall n).1.2.2.1.c0
  have p1 := fun n => (hall n).1.2.2.1.c1
  have q0 := fun n => (hall n).1.2.2.2.c0
  have q1 := fun n => (hall n).1.2.2.2.c1
  clear hall hback hs hx hy5 hy7
  repeat (go_big_quiet_step (first
    | (go_at_call 10; refine class_new HSTEP.out (CT.out _))
    | (go_at_call 11; refine class_new HSTEP.out (CS.out _))
    | (go_at_call_of 12 (Value.int IntKind.u64 (W64 (hi128 y))); refine class_new HSTEP.out (COy.out _))
    | (go_at_call_of 12 (Value.int IntKind.u64 (W64 (hi128 s))); refine class_new HSTEP.out (COs.out _))
    | (go_at_call 13; refine class_new HSTEP.out (CPs.out _))
    | (go_at_call_of 14 (Value.int IntKind.u64 (W64 (hi128 y))); refine class_new HSTEP.out (CB1.out _))
    | (go_at_call_of 14 (Value.int IntKind.u64 (W64 (hi128 s))); refine class_new HSTEP.out (CB2.out _))
    | (go_at_call_of 8 (Value.int IntKind.u64 (W64 (hi128 b))); refine class_new HSTEP.out (CR2.out _))))
  refine wpQuiet_nil ?_
  rintro w9 ⟨n1, hw1⟩
  have hS := HN4.out.trans (HALL.out n1).2
  rw [← hw1] at hS
  clear HALL HSTEP hw1 s0 s1 x0 x1 p0 p1 q0 q1
  go_wp2
  go_ret
  exact ⟨rfl, hS⟩
theorem Pcg64Tells_walk (W : World) (x0_0 : BitVec 64) (x0_1 : BitVec 64) (x1_0 : BitVec 64) (x1_1 : BitVec 64) :
    Calls Try.prog 3 #[.agg #[.int .u64 (W64 x0_0), .int .u64 (W64 x0_1)], .agg #[.int .u64 (W64 x1_0), .int .u64 (W64 x1_1)]] W fun e w' => e = .returned (.bool true) ∧ Below W.heap.size W w' := by
  have ct := times14
  rw [T14_hi, T14_lo] at ct
  obtain ⟨s, hs⟩ : ∃ s, join128 x0_0 x0_1 = s := ⟨_, rfl⟩
  obtain ⟨x, hx⟩ : ∃ x, join128 x1_0 x1_1 = x := ⟨_, rfl⟩
  have cb := fun w => back14 (stp s x) x w
  rw [show bk14 (stp s x) x = s from bk_step s x] at cb
  have cr := fun w => step_r (bk14 s x) x w
  rw [show stp (bk14 s x) x = s from step_bk s x] at cr
  have h := tells_try W s x (stp s x) (bk14 s x) (out14 (stp s x)) (out14 s) (Lib.hid fun w => step_r s x w) (Lib.hid fun w => next14 s x w) (Lib.hid ct) (Lib.hid fun w => step_s s x w) (Lib.hid fun w => outr14 _ w) (Lib.hid fun w => outr14 _ w) (Lib.hid fun w => outp14 _ w) (Lib.hid cb) (Lib.hid fun w => back14 s x w) (Lib.hid cr)
  rw [← hs, ← hx, hi_join, lo_join, hi_join, lo_join] at h
  exact h
end Go.Proofs.Ytfaobdmoifnglaa
