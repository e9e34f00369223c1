/- The walk of the statement XoshiroSeeds: for every two numbers. -/
import Derived.Test.YtcibfipbibaicaaXoS
namespace Go.Proofs.Ytcibfipbibaicaa
open Go.RowKit Go.Bv
set_option linter.unusedVariables false
def To9 (F : Nat) (n : BitVec 64) (p : Q4) : Prop := ∀ w, Calls Try.prog F #[.int .u64 (W64 n)] w fun e w' => e = .returned (.agg #[.int .u64 (W64 p.a), .int .u64 (W64 p.b), .int .u64 (W64 p.c), .int .u64 (W64 p.d)]) ∧ New w w'
set_option maxHeartbeats 2000000 in
theorem seeds_any (W : World) (a b : BitVec 64) (p q : Q4) (hA : To9 23 a p) (hR : To9 24 a p) (hB : To9 23 b q)
    (hz : ∀ w, Calls Try.prog 22 #[(.agg #[.int .u64 (W64 p.a), .int .u64 (W64 p.b), .int .u64 (W64 p.c), .int .u64 (W64 p.d)])] w fun e w' => e = .returned (.bool false) ∧ New w w')
    (heqa : ∀ w, (Op.equalIn 10000 23 (.agg #[.int .u64 (W64 p.a), .int .u64 (W64 p.b), .int .u64 (W64 p.c), .int .u64 (W64 p.d)]) (.agg #[.int .u64 (W64 p.a), .int .u64 (W64 p.b), .int .u64 (W64 p.c), .int .u64 (W64 p.d)])).run Try.prog w = .ok true w)
    (heqb : ∀ w, (Op.equalIn 10000 23 (.agg #[.int .u64 (W64 p.a), .int .u64 (W64 p.b), .int .u64 (W64 p.c), .int .u64 (W64 p.d)]) (.agg #[.int .u64 (W64 q.a), .int .u64 (W64 q.b), .int .u64 (W64 q.c), .int .u64 (W64 q.d)])).run Try.prog w = .ok (a == b) w) :
    Calls Try.prog 6 #[.int .u64 (W64 a), .int .u64 (W64 b)] W fun e w' => e = .returned (.bool true) ∧ Below W.heap.size W w' := by
  have HZZ := Lib.hid hz
  have HA := Lib.hid hA
  have HR := Lib.hid hR
  have HB := Lib.hid hB
  have hq : (W64 a == W64 b) = (a == b) := eq_u64 a b
  clear hz hA hR hB
  go_enter Try.func6, Try.ntmps6
  go_wp2_with fail
  refine (awake09 _).mono ?_
  rintro e w ⟨rfl, hn1⟩
  have hN : New W w := hn1
  go_wp2_with fail
  refine (HA.out w).mono ?_
  rintro e w1 ⟨rfl, hn2⟩
  have hN1 := hN.trans hn2
  clear hN hn1 hn2
  go_wp2_with fail
  have hs : C4 (w1.alloc (.cells (cs4 p) 23)) w1.heap.size p.a p.b p.c p.d := c4_new w1 _ _ _ _ _
  have hN2 : New W (w1.alloc (.cells (cs4 p) 23)) := hN1.alloc _
  unfold cs4 at hs hN2
  generalize hb : w1.heap.size = b5 at hs ⊢
  generalize w1.alloc (.cells #[.int .u64 (W64 p.a), .int .u64 (W64 p.b), .int .u64 (W64 p.c), .int .u64 (W64 p.d)] 23) = w2 at hs hN2 ⊢
  clear hb hN1
  refine wp_region_class (fun w' => C4 w' b5 p.a p.b p.c p.d ∧ New W w') (by kernel_rfl) (by kernel_rfl) ⟨hs, hN2.drew⟩ ?_
  intro I _ f hall hback
  have HSTEP : Hid (∀ n w', New (f n) w' → ∃ m, w' = f m) := Lib.hid fun n w' hn => hback w' ⟨(hall n).1.stay hn, (hall n).2.trans hn⟩
  have HALL := Lib.hid hall
  have a0 := fun n => (hall n).1.1
  have a1 := fun n => (hall n).1.2.1
  have a2 := fun n => (hall n).1.2.2.1
  have a3 := fun n => (hall n).1.2.2.2
  clear hall hback hN2 hs
  repeat (go_big_quiet_step (first
      | (go_at_call_of 22 (Value.int IntKind.u64 (W64 p.a)); refine class_new HSTEP.out (HZZ.out _))
      | (go_at_call_of 24 (Value.int IntKind.u64 (W64 a)); refine class_new HSTEP.out (HR.out _))
      | (go_at_call_of 23 (Value.int IntKind.u64 (W64 b)); refine class_new HSTEP.out (HB.out _))))
  refine wpQuiet_nil ?_
  rintro w4 ⟨n1, hw1⟩
  have hS := (HALL.out n1).2
  rw [← hw1] at hS
  clear HALL HSTEP hw1 a0 a1 a2 a3
  go_wp2
  go_ret
  exact ⟨rfl, hS⟩
theorem XoshiroSeeds_walk (W : World) (a0 : Int) (w0 : (Lit.int .u64 a0).wf = true) (a1 : Int) (w1 : (Lit.int .u64 a1).wf = true) :
    Calls Try.prog 6 #[.int .u64 a0, .int .u64 a1] W fun e w' => e = .returned (.bool true) ∧ Below W.heap.size W w' := by
  obtain ⟨a, rfl⟩ := wf64 w0
  obtain ⟨b, rfl⟩ := wf64 w1
  refine seeds_any W a b (sd9 a) (sd9 b) (seed_any9 a) (seed_ref9 a) (seed_any9 b) ?_ ?_ ?_
  · have h := zero_any (sd9 a)
    rw [sd9_nz] at h
    exact h
  · intro w
    have h := eq4 w (sd9 a).a (sd9 a).b (sd9 a).c (sd9 a).d (sd9 a).a (sd9 a).b (sd9 a).c (sd9 a).d
    rw [sd9_eq, beq_self_eq_true] at h
    exact h
  · intro w
    have h := eq4 w (sd9 a).a (sd9 a).b (sd9 a).c (sd9 a).d (sd9 b).a (sd9 b).b (sd9 b).c (sd9 b).d
    rw [sd9_eq] at h
    exact h
end Go.Proofs.Ytcibfipbibaicaa
