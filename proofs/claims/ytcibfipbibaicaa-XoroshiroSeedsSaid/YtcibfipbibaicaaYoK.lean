/- The walk of the statement XoroshiroSeeds: for every two numbers. -/
import Derived.Test.YtcibfipbibaicaaYoS
namespace Go.Proofs.Ytcibfipbibaicaa
open Go.RowKit Go.Bv
set_option linter.unusedVariables false
def To10 (F : Nat) (n : BitVec 64) (p : Q2) : Prop := ∀ w, Calls Try.prog F #[.int .u64 (W64 n)] w fun e w' => e = .returned (.agg #[.int .u64 (W64 p.a), .int .u64 (W64 p.b)]) ∧ New w w'
set_option maxHeartbeats 2000000 in
theorem seeds2_any (W : World) (a b : BitVec 64) (p q : Q2) (hA : To10 35 a p) (hR : To10 36 a p) (hB : To10 35 b q)
    (hz : ∀ w, Calls Try.prog 34 #[(.agg #[.int .u64 (W64 p.a), .int .u64 (W64 p.b)])] w fun e w' => e = .returned (.bool false) ∧ New w w')
    (heqa : ∀ w, (Op.equalIn 10000 35 (.agg #[.int .u64 (W64 p.a), .int .u64 (W64 p.b)]) (.agg #[.int .u64 (W64 p.a), .int .u64 (W64 p.b)])).run Try.prog w = .ok true w)
    (heqb : ∀ w, (Op.equalIn 10000 35 (.agg #[.int .u64 (W64 p.a), .int .u64 (W64 p.b)]) (.agg #[.int .u64 (W64 q.a), .int .u64 (W64 q.b)])).run Try.prog w = .ok (a == b) w) :
    Calls Try.prog 10 #[.int .u64 (W64 a), .int .u64 (W64 b)] W fun e w' => e = .returned (.bool true) ∧ Below W.heap.size W w' := by
  have HZZ := Lib.hid hz
  have HA := Lib.hid hA
  have HR := Lib.hid hR
  have HB := Lib.hid hB
  have hq : (W64 a == W64 b) = (a == b) := eq_u64 a b
  clear hz hA hR hB
  go_enter Try.func10, Try.ntmps10
  go_wp2_with fail
  refine (awake10 _).mono ?_
  rintro e w ⟨rfl, hn1⟩
  have hN : New W w := hn1
  go_wp2_with fail
  refine (HA.out w).mono ?_
  rintro e w1 ⟨rfl, hn2⟩
  have hN1 := hN.trans hn2
  clear hN hn1 hn2
  go_wp2_with fail
  have hs : C2 (w1.alloc (.cells (cs2 p) 35)) w1.heap.size p := c2_new w1 _ _
  have hN2 : New W (w1.alloc (.cells (cs2 p) 35)) := hN1.alloc _
  unfold cs2 at hs hN2
  generalize hb : w1.heap.size = b5 at hs ⊢
  generalize w1.alloc (.cells #[.int .u64 (W64 p.a), .int .u64 (W64 p.b)] 35) = w2 at hs hN2 ⊢
  clear hb hN1
  refine wp_region_class (fun w' => C2 w' b5 p ∧ New W w') (by kernel_rfl) (by kernel_rfl) ⟨hs, hN2.drew⟩ ?_
  intro I _ f hall hback
  have HSTEP : Hid (∀ n w', New (f n) w' → ∃ m, w' = f m) := Lib.hid fun n w' hn => hback w' ⟨(hall n).1.stay hn, (hall n).2.trans hn⟩
  have HALL := Lib.hid hall
  have a0 := fun n => (hall n).1.1
  have a1 := fun n => (hall n).1.2
  clear hall hback hN2 hs
  repeat (go_big_quiet_step (first
      | (go_at_call_of 34 (Value.int IntKind.u64 (W64 p.a)); refine class_new HSTEP.out (HZZ.out _))
      | (go_at_call_of 36 (Value.int IntKind.u64 (W64 a)); refine class_new HSTEP.out (HR.out _))
      | (go_at_call_of 35 (Value.int IntKind.u64 (W64 b)); refine class_new HSTEP.out (HB.out _))))
  refine wpQuiet_nil ?_
  rintro w4 ⟨n1, hw1⟩
  have hS := (HALL.out n1).2
  rw [← hw1] at hS
  clear HALL HSTEP hw1 a0 a1
  go_wp2
  go_ret
  exact ⟨rfl, hS⟩
theorem XoroshiroSeeds_walk (W : World) (a0 : Int) (w0 : (Lit.int .u64 a0).wf = true) (a1 : Int) (w1 : (Lit.int .u64 a1).wf = true) :
    Calls Try.prog 10 #[.int .u64 a0, .int .u64 a1] W fun e w' => e = .returned (.bool true) ∧ Below W.heap.size W w' := by
  obtain ⟨a, rfl⟩ := wf64 w0
  obtain ⟨b, rfl⟩ := wf64 w1
  refine seeds2_any W a b (sd10 a) (sd10 b) (seed_any10 a) (seed_ref10 a) (seed_any10 b) ?_ ?_ ?_
  · have h := zero2_any (sd10 a)
    rw [sd10_nz] at h
    exact h
  · intro w
    have h := eq2 w (sd10 a).a (sd10 a).b (sd10 a).a (sd10 a).b
    rw [sd10_eq, beq_self_eq_true] at h
    exact h
  · intro w
    have h := eq2 w (sd10 a).a (sd10 a).b (sd10 b).a (sd10 b).b
    rw [sd10_eq] at h
    exact h
end Go.Proofs.Ytcibfipbibaicaa
