/- The walk of the statement XoroshiroBack: for every state, of every kind, for every number of steps. -/
import Derived.Test.YtcibfipbibaicaaYoF
namespace Go.Proofs.Ytcibfipbibaicaa
open Go.RowKit Go.Bv
set_option linter.unusedVariables false
theorem it2_back {f g : Q2 → Q2} (h : ∀ q, f (g q) = q) (k : Nat) (q : Q2) : it2 f k (it2 g k q) = q := by
  have hc : ∀ k q, it2 f k (f q) = f (it2 f k q) := by
    intro k; induction k with
    | zero => intro q; rfl
    | succ k ih => intro q; show f (it2 f k (f q)) = f (f (it2 f k q)); rw [ih]
  induction k with
  | zero => rfl
  | succ k ih => show f (it2 f k (g (it2 g k q))) = q; rw [← hc, h, ih]
theorem run2_dn (k : Int) (f b : Q2 → Q2) (h1 : Mv2 26 k f) (h3 : Mv2 32 k b) (q : Q2) (m : Nat) (hm : m ≤ 300) (w : World) :
    Calls Try.prog 30 #[.int .i64 k, .agg #[.int .u64 (W64 q.a), .int .u64 (W64 q.b)], .int .i64 (-(m : Int))] w fun e w' => e = .returned (.agg #[.int .u64 (W64 (it2 b m q).a), .int .u64 (W64 (it2 b m q).b)]) ∧ New w w' := by
  rcases Nat.eq_zero_or_pos m with rfl | h
  · exact run2_up k f h1 q 0 (by omega) w
  · exact run2_dn0 k b h3 q m hm h w
theorem dn_up (k : Int) (f b : Q2 → Q2) (h1 : Mv2 26 k f) (h3 : Mv2 32 k b) (hbf : ∀ q, b (f q) = q) (q : Q2) (m : Nat) (hm : m ≤ 300) (w : World) :
    Calls Try.prog 30 #[.int .i64 k, .agg #[.int .u64 (W64 (it2 f m q).a), .int .u64 (W64 (it2 f m q).b)], .int .i64 (-(m : Int))] w fun e w' => e = .returned (.agg #[.int .u64 (W64 q.a), .int .u64 (W64 q.b)]) ∧ New w w' := by
  have h := run2_dn k f b h1 h3 (it2 f m q) m hm w; rw [it2_back hbf] at h; exact h
theorem up_dn (k : Int) (f b : Q2 → Q2) (h1 : Mv2 26 k f) (hfb : ∀ q, f (b q) = q) (q : Q2) (m : Nat) (hm : m ≤ 300) (w : World) :
    Calls Try.prog 30 #[.int .i64 k, .agg #[.int .u64 (W64 (it2 b m q).a), .int .u64 (W64 (it2 b m q).b)], .int .i64 m] w fun e w' => e = .returned (.agg #[.int .u64 (W64 q.a), .int .u64 (W64 q.b)]) ∧ New w w' := by
  have h := run2_up k f h1 (it2 b m q) m hm w; rw [it2_back hfb] at h; exact h
set_option maxHeartbeats 2000000 in
theorem backs_near (W : World) (k : Int) (f b : Q2 → Q2) (hfb : ∀ q, f (b q) = q) (hbf : ∀ q, b (f q) = q) (h1 : Mv2 26 k f) (h2 : Mv2 27 k f) (h3 : Mv2 32 k b) (q : Q2) (m : Nat) (hm : m ≤ 300) :
    Calls Try.prog 8 #[.int .i64 k, .agg #[.int .u64 (W64 q.a), .int .u64 (W64 q.b)], .int .i64 m] W fun e w' => e = .returned (.bool true) ∧ Below W.heap.size W w' := by
  have hneg : wrap64 (-(m : Int)) = -(m : Int) := by unfold wrap64; omega
  have h0 : decide ((m : Int) < 0) = false := decide_eq_false (by omega)
  have h300 : decide ((300 : Int) < m) = false := decide_eq_false (by omega)
  have heq := eq2
  have HF := Lib.hid h1
  have HG := Lib.hid h2
  have HB := Lib.hid h3
  have HGB : Hid (∀ q w, Calls Try.prog 27 #[.int .i64 k, .agg #[.int .u64 (W64 (b q).a), .int .u64 (W64 (b q).b)]] w fun e w' => e = .returned (.agg #[.int .u64 (W64 q.a), .int .u64 (W64 q.b)]) ∧ New w w') := Lib.hid fun q w => by
    have h := h2 (b q) w; rw [hfb] at h; exact h
  have HBF : Hid (∀ q w, Calls Try.prog 32 #[.int .i64 k, .agg #[.int .u64 (W64 (f q).a), .int .u64 (W64 (f q).b)]] w fun e w' => e = .returned (.agg #[.int .u64 (W64 q.a), .int .u64 (W64 q.b)]) ∧ New w w') := Lib.hid fun q w => by
    have h := h3 (f q) w; rw [hbf] at h; exact h
  have HFB := Lib.hid hfb
  have HBB := Lib.hid hbf
  clear h1 h2 h3 hfb hbf
  go_enter Try.func8, Try.ntmps8
  go_wp2_with fail
  refine (awake10 _).mono ?_
  rintro e w ⟨rfl, hn1⟩
  have hc := (c2_new W 35 q).stay hn1
  have hN : New W w := ((New.refl W).alloc _).trans hn1
  clear hn1
  obtain ⟨c0, c1⟩ := hc
  go_wp2_with fail
  refine wp_region_class (fun w' => C2 w' W.heap.size q ∧ New W w') (by kernel_rfl) (by kernel_rfl) ⟨⟨c0, c1⟩, hN.drew⟩ ?_
  intro I _ g hall hback
  have HSTEP : Hid (∀ n w', New (g n) w' → ∃ m, w' = g m) := Lib.hid fun n w' hn => hback w' ⟨(hall n).1.stay hn, (hall n).2.trans hn⟩
  have HALL := Lib.hid hall
  have d0 := fun n => (hall n).1.1
  have d1 := fun n => (hall n).1.2
  clear hall hback hN c0 c1
  repeat (go_big_quiet_step (first
      | (go_at_call_of 32 (Value.int IntKind.u64 (W64 q.a)); refine class_new HSTEP.out (HB.out q _))
      | (go_at_call_of 27 (Value.int IntKind.u64 (W64 q.a)); refine class_new HSTEP.out (HG.out q _))
      | (go_at_call_of 27 (Value.int IntKind.u64 (W64 (b q).a)); refine class_new HSTEP.out (HGB.out q _))
      | (go_at_call_of 32 (Value.int IntKind.u64 (W64 (f q).a)); refine class_new HSTEP.out (HBF.out q _))))
  refine wpQuiet_nil ?_
  rintro w1 ⟨n1, hw1⟩
  have hS := HALL.out n1
  rw [← hw1] at hS
  clear HALL HSTEP d0 d1 hw1
  obtain ⟨⟨c0, c1⟩, hN⟩ := hS
  go_wp2_with fail
  refine wp_region_class (fun w' => C2 w' W.heap.size q ∧ New W w') (by kernel_rfl) (by kernel_rfl) ⟨⟨c0, c1⟩, hN.drew⟩ ?_
  intro I _ g hall hback
  have HSTEP : Hid (∀ n w', New (g n) w' → ∃ m, w' = g m) := Lib.hid fun n w' hn => hback w' ⟨(hall n).1.stay hn, (hall n).2.trans hn⟩
  have HALL := Lib.hid hall
  have d0 := fun n => (hall n).1.1
  have d1 := fun n => (hall n).1.2
  clear hall hback hN c0 c1
  repeat (go_big_quiet_step (first
      | (go_at_call_of 30 (Value.int IntKind.u64 (W64 q.a)); go_at_call_of 30 (Value.int IntKind.i64 (m : Int)); refine class_new HSTEP.out (run2_up _ _ HF.out q m hm _))
      | (go_at_call_of 30 (Value.int IntKind.u64 (W64 q.a)); go_at_call_of 30 (Value.int IntKind.i64 (-(m : Int))); refine class_new HSTEP.out (run2_dn _ _ _ HF.out HB.out q m hm _))
      | (go_at_call_of 30 (Value.int IntKind.u64 (W64 (it2 f m q).a)); refine class_new HSTEP.out (dn_up _ _ _ HF.out HB.out HBB.out q m hm _))
      | (go_at_call_of 30 (Value.int IntKind.u64 (W64 (it2 b m q).a)); refine class_new HSTEP.out (up_dn _ _ _ HF.out HFB.out q m hm _))))
  refine wpQuiet_nil ?_
  rintro w2 ⟨n1, hw1⟩
  have hS := (HALL.out n1).2
  rw [← hw1] at hS
  clear HALL HSTEP d0 d1 hw1
  go_wp2
  go_ret
  exact ⟨rfl, hS⟩
set_option maxHeartbeats 2000000 in
theorem backs_far (W : World) (k : Int) (f b : Q2 → Q2) (hfb : ∀ q, f (b q) = q) (hbf : ∀ q, b (f q) = q) (h1 : Mv2 26 k f) (h2 : Mv2 27 k f) (h3 : Mv2 32 k b) (q : Q2) (n : Int) (hfar : n < 0 ∨ 300 < n) :
    Calls Try.prog 8 #[.int .i64 k, .agg #[.int .u64 (W64 q.a), .int .u64 (W64 q.b)], .int .i64 n] W fun e w' => e = .returned (.bool true) ∧ Below W.heap.size W w' := by
  have HFAR := Lib.hid hfar
  clear hfar
  have heq := eq2
  have HF := Lib.hid h1
  have HG := Lib.hid h2
  have HB := Lib.hid h3
  have HGB : Hid (∀ q w, Calls Try.prog 27 #[.int .i64 k, .agg #[.int .u64 (W64 (b q).a), .int .u64 (W64 (b q).b)]] w fun e w' => e = .returned (.agg #[.int .u64 (W64 q.a), .int .u64 (W64 q.b)]) ∧ New w w') := Lib.hid fun q w => by
    have h := h2 (b q) w; rw [hfb] at h; exact h
  have HBF : Hid (∀ q w, Calls Try.prog 32 #[.int .i64 k, .agg #[.int .u64 (W64 (f q).a), .int .u64 (W64 (f q).b)]] w fun e w' => e = .returned (.agg #[.int .u64 (W64 q.a), .int .u64 (W64 q.b)]) ∧ New w w') := Lib.hid fun q w => by
    have h := h3 (f q) w; rw [hbf] at h; exact h
  have HFB := Lib.hid hfb
  have HBB := Lib.hid hbf
  clear h1 h2 h3 hfb hbf
  go_enter Try.func8, Try.ntmps8
  go_wp2_with fail
  refine (awake10 _).mono ?_
  rintro e w ⟨rfl, hn1⟩
  have hc := (c2_new W 35 q).stay hn1
  have hN : New W w := ((New.refl W).alloc _).trans hn1
  clear hn1
  obtain ⟨c0, c1⟩ := hc
  go_wp2_with fail
  refine wp_region_class (fun w' => C2 w' W.heap.size q ∧ New W w') (by kernel_rfl) (by kernel_rfl) ⟨⟨c0, c1⟩, hN.drew⟩ ?_
  intro I _ g hall hback
  have HSTEP : Hid (∀ n w', New (g n) w' → ∃ m, w' = g m) := Lib.hid fun n w' hn => hback w' ⟨(hall n).1.stay hn, (hall n).2.trans hn⟩
  have HALL := Lib.hid hall
  have d0 := fun n => (hall n).1.1
  have d1 := fun n => (hall n).1.2
  clear hall hback hN c0 c1
  repeat (go_big_quiet_step (first
      | (go_at_call_of 32 (Value.int IntKind.u64 (W64 q.a)); refine class_new HSTEP.out (HB.out q _))
      | (go_at_call_of 27 (Value.int IntKind.u64 (W64 q.a)); refine class_new HSTEP.out (HG.out q _))
      | (go_at_call_of 27 (Value.int IntKind.u64 (W64 (b q).a)); refine class_new HSTEP.out (HGB.out q _))
      | (go_at_call_of 32 (Value.int IntKind.u64 (W64 (f q).a)); refine class_new HSTEP.out (HBF.out q _))))
  refine wpQuiet_nil ?_
  rintro w1 ⟨n1, hw1⟩
  have hS := HALL.out n1
  rw [← hw1] at hS
  clear HALL HSTEP d0 d1 hw1
  obtain ⟨⟨c0, c1⟩, hN⟩ := hS
  go_wp2_with fail
  rcases HFAR.out with h | h
  · go_quiet (fail)
    go_wp2
    go_ret
    exact ⟨rfl, hN.drewN nq⟩
  · have h0 : ¬ n < 0 := by omega
    go_quiet (fail)
    go_wp2
    go_ret
    exact ⟨rfl, hN.drewN nq⟩
theorem backs_any (W : World) (k : Int) (f b : Q2 → Q2) (hfb : ∀ q, f (b q) = q) (hbf : ∀ q, b (f q) = q) (h1 : Mv2 26 k f) (h2 : Mv2 27 k f) (h3 : Mv2 32 k b) (q : Q2) (n : Int) :
    Calls Try.prog 8 #[.int .i64 k, .agg #[.int .u64 (W64 q.a), .int .u64 (W64 q.b)], .int .i64 n] W fun e w' => e = .returned (.bool true) ∧ Below W.heap.size W w' := by
  by_cases h : n < 0 ∨ 300 < n
  · exact backs_far W k f b hfb hbf h1 h2 h3 q n h
  · obtain ⟨m, rfl⟩ : ∃ m : Nat, n = m := ⟨n.toNat, by omega⟩
    exact backs_near W k f b hfb hbf h1 h2 h3 q m (by omega)
theorem XoroshiroBack_walk (W : World) (a0 : Int) (w0 : (Lit.int .i64 a0).wf = true) (x1_0 : BitVec 64) (x1_1 : BitVec 64) (a2 : Int) (w2 : (Lit.int .i64 a2).wf = true) :
    Calls Try.prog 8 #[.int .i64 a0, .agg #[.int .u64 (W64 x1_0), .int .u64 (W64 x1_1)], .int .i64 a2] W fun e w' => e = .returned (.bool true) ∧ Below W.heap.size W w' := by
  by_cases h5 : a0 = 5
  · subst h5; exact backs_any W 5 _ _ (stp_bck 24 16 37 (by omega) (by omega)) (bck_stp 24 16 37 (by omega) (by omega)) step_5 stepr_5 back_5 ⟨x1_0, x1_1⟩ a2
  · by_cases h6 : a0 = 6
    · subst h6; exact backs_any W 6 _ _ (stp_bck 49 21 28 (by omega) (by omega)) (bck_stp 49 21 28 (by omega) (by omega)) step_6 stepr_6 back_6 ⟨x1_0, x1_1⟩ a2
    · have e5 : (a0 == 5) = false := by rw [beq_eq_false_iff_ne]; exact h5
      have e6 : (a0 == 6) = false := by rw [beq_eq_false_iff_ne]; exact h6
      exact backs_any W a0 id id (fun _ => rfl) (fun _ => rfl) (step_o a0 e5 e6) (stepr_o a0 e5 e6) (back_o a0 e5 e6) ⟨x1_0, x1_1⟩ a2
end Go.Proofs.Ytcibfipbibaicaa
