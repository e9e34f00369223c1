/- The walk of the statement XoroshiroTells: for every state, of every kind, for every number of steps. -/
import Derived.Test.YtcibfipbibaicaaYoE
namespace Go.Proofs.Ytcibfipbibaicaa
open Go.RowKit Go.Bv
set_option linter.unusedVariables false
set_option maxHeartbeats 2000000 in
theorem tells_near (W : World) (k : Int) (f : Q2 → Q2) (o : Q2 → BitVec 64) (h1 : Mv2 26 k f) (h2 : Mv2 27 k f) (h3 : Ot2 28 k o) (h4 : Ot2 29 k o) (q : Q2) (m : Nat) (hm : m ≤ 300) :
    Calls Try.prog 7 #[.int .i64 k, .agg #[.int .u64 (W64 q.a), .int .u64 (W64 q.b)], .int .i64 m] W fun e w' => e = .returned (.bool true) ∧ Below W.heap.size W w' := by
  have h0 : decide ((m : Int) < 0) = false := decide_eq_false (by omega)
  have h300 : decide ((300 : Int) < m) = false := decide_eq_false (by omega)
  have heq := eq2
  have HF := Lib.hid h1
  have HG := Lib.hid h2
  have HO := Lib.hid h3
  have HP := Lib.hid h4
  clear h1 h2 h3 h4
  go_enter Try.func7, Try.ntmps7
  go_wp2_with fail
  refine (awake10 _).mono ?_
  rintro e w ⟨rfl, hn1⟩
  have hc := (c2_new W 35 q).stay hn1
  have hN : New W w := ((New.refl W).alloc _).trans hn1
  clear hn1
  obtain ⟨c0, c1⟩ := hc
  go_wp2_with fail
  refine wp_region_class (fun w' => C2 w' W.heap.size q ∧ New W w') (by kernel_rfl) (by kernel_rfl) ⟨⟨c0, c1⟩, hN.drew⟩ ?_
  intro I _ g hall hback
  have HSTEP : Hid (∀ n w', New (g n) w' → ∃ m, w' = g m) := Lib.hid fun n w' hn => hback w' ⟨(hall n).1.stay hn, (hall n).2.trans hn⟩
  have HALL := Lib.hid hall
  have d0 := fun n => (hall n).1.1
  have d1 := fun n => (hall n).1.2
  clear hall hback hN c0 c1
  repeat (go_big_quiet_step (first
      | (go_at_call 26; refine class_new HSTEP.out (HF.out _ _))
      | (go_at_call 27; refine class_new HSTEP.out (HG.out _ _))
      | (go_at_call 28; refine class_new HSTEP.out (HO.out _ _))
      | (go_at_call 29; refine class_new HSTEP.out (HP.out _ _))))
  refine wpQuiet_nil ?_
  rintro w1 ⟨n1, hw1⟩
  have hS := HALL.out n1
  rw [← hw1] at hS
  clear HALL HSTEP d0 d1 hw1
  obtain ⟨⟨c0, c1⟩, hN⟩ := hS
  go_wp2_with fail
  refine wp_region_class (fun w' => C2 w' W.heap.size q ∧ New W w') (by kernel_rfl) (by kernel_rfl) ⟨⟨c0, c1⟩, hN.drew⟩ ?_
  intro I _ g hall hback
  have HSTEP : Hid (∀ n w', New (g n) w' → ∃ m, w' = g m) := Lib.hid fun n w' hn => hback w' ⟨(hall n).1.stay hn, (hall n).2.trans hn⟩
  have HALL := Lib.hid hall
  have d0 := fun n => (hall n).1.1
  have d1 := fun n => (hall n).1.2
  clear hall hback hN c0 c1
  repeat (go_big_quiet_step (first
      | (go_at_call 30; refine class_new HSTEP.out (run2_up _ _ HF.out q m hm _))
      | (go_at_call 31; refine class_new HSTEP.out (steps2_ref _ _ HG.out q m hm _))))
  refine wpQuiet_nil ?_
  rintro w2 ⟨n1, hw1⟩
  have hS := (HALL.out n1).2
  rw [← hw1] at hS
  clear HALL HSTEP d0 d1 hw1
  go_wp2
  go_ret
  exact ⟨rfl, hS⟩
set_option maxHeartbeats 2000000 in
theorem tells_far (W : World) (k : Int) (f : Q2 → Q2) (o : Q2 → BitVec 64) (h1 : Mv2 26 k f) (h2 : Mv2 27 k f) (h3 : Ot2 28 k o) (h4 : Ot2 29 k o) (q : Q2) (n : Int) (hfar : n < 0 ∨ 300 < n) :
    Calls Try.prog 7 #[.int .i64 k, .agg #[.int .u64 (W64 q.a), .int .u64 (W64 q.b)], .int .i64 n] W fun e w' => e = .returned (.bool true) ∧ Below W.heap.size W w' := by
  have HFAR := Lib.hid hfar
  clear hfar
  have heq := eq2
  have HF := Lib.hid h1
  have HG := Lib.hid h2
  have HO := Lib.hid h3
  have HP := Lib.hid h4
  clear h1 h2 h3 h4
  go_enter Try.func7, Try.ntmps7
  go_wp2_with fail
  refine (awake10 _).mono ?_
  rintro e w ⟨rfl, hn1⟩
  have hc := (c2_new W 35 q).stay hn1
  have hN : New W w := ((New.refl W).alloc _).trans hn1
  clear hn1
  obtain ⟨c0, c1⟩ := hc
  go_wp2_with fail
  refine wp_region_class (fun w' => C2 w' W.heap.size q ∧ New W w') (by kernel_rfl) (by kernel_rfl) ⟨⟨c0, c1⟩, hN.drew⟩ ?_
  intro I _ g hall hback
  have HSTEP : Hid (∀ n w', New (g n) w' → ∃ m, w' = g m) := Lib.hid fun n w' hn => hback w' ⟨(hall n).1.stay hn, (hall n).2.trans hn⟩
  have HALL := Lib.hid hall
  have d0 := fun n => (hall n).1.1
  have d1 := fun n => (hall n).1.2
  clear hall hback hN c0 c1
  repeat (go_big_quiet_step (first
      | (go_at_call 26; refine class_new HSTEP.out (HF.out _ _))
      | (go_at_call 27; refine class_new HSTEP.out (HG.out _ _))
      | (go_at_call 28; refine class_new HSTEP.out (HO.out _ _))
      | (go_at_call 29; refine class_new HSTEP.out (HP.out _ _))))
  refine wpQuiet_nil ?_
  rintro w1 ⟨n1, hw1⟩
  have hS := HALL.out n1
  rw [← hw1] at hS
  clear HALL HSTEP d0 d1 hw1
  obtain ⟨⟨c0, c1⟩, hN⟩ := hS
  go_wp2_with fail
  rcases HFAR.out with h | h
  · go_quiet (fail)
    go_wp2
    go_ret
    exact ⟨rfl, hN.drewN nq⟩
  · have h0 : ¬ n < 0 := by omega
    go_quiet (fail)
    go_wp2
    go_ret
    exact ⟨rfl, hN.drewN nq⟩
theorem tells_any (W : World) (k : Int) (f : Q2 → Q2) (o : Q2 → BitVec 64) (h1 : Mv2 26 k f) (h2 : Mv2 27 k f) (h3 : Ot2 28 k o) (h4 : Ot2 29 k o) (q : Q2) (n : Int) :
    Calls Try.prog 7 #[.int .i64 k, .agg #[.int .u64 (W64 q.a), .int .u64 (W64 q.b)], .int .i64 n] W fun e w' => e = .returned (.bool true) ∧ Below W.heap.size W w' := by
  by_cases h : n < 0 ∨ 300 < n
  · exact tells_far W k f o h1 h2 h3 h4 q n h
  · obtain ⟨m, rfl⟩ : ∃ m : Nat, n = m := ⟨n.toNat, by omega⟩
    exact tells_near W k f o h1 h2 h3 h4 q m (by omega)
theorem XoroshiroTells_walk (W : World) (a0 : Int) (w0 : (Lit.int .i64 a0).wf = true) (x1_0 : BitVec 64) (x1_1 : BitVec 64) (a2 : Int) (w2 : (Lit.int .i64 a2).wf = true) :
    Calls Try.prog 7 #[.int .i64 a0, .agg #[.int .u64 (W64 x1_0), .int .u64 (W64 x1_1)], .int .i64 a2] W fun e w' => e = .returned (.bool true) ∧ Below W.heap.size W w' := by
  by_cases h5 : a0 = 5
  · subst h5; exact tells_any W 5 _ _ step_5 stepr_5 out_5 outr_5 ⟨x1_0, x1_1⟩ a2
  · by_cases h6 : a0 = 6
    · subst h6; exact tells_any W 6 _ _ step_6 stepr_6 out_6 outr_6 ⟨x1_0, x1_1⟩ a2
    · have e5 : (a0 == 5) = false := by rw [beq_eq_false_iff_ne]; exact h5
      have e6 : (a0 == 6) = false := by rw [beq_eq_false_iff_ne]; exact h6
      exact tells_any W a0 _ _ (step_o a0 e5 e6) (stepr_o a0 e5 e6) (out_o a0 e5 e6) (outr_o a0 e5 e6) ⟨x1_0, x1_1⟩ a2
end Go.Proofs.Ytcibfipbibaicaa
