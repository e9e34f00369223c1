/- The walk of the statement Pcg64Advances: for every state, every increment and every two numbers. -/
import Derived.Test.YtfaobdmoifnglaaPkL
import Derived.Test.YtfaobdmoifnglaaPkF
namespace Go.Proofs.Ytfaobdmoifnglaa
open Go.RowKit Go.Bv
set_option linter.unusedVariables false
theorem sum14 (x n m s : BitVec 128) : aff T14 (x ||| 1#128) m.toNat (aff T14 (x ||| 1#128) n.toNat s) = aff T14 (x ||| 1#128) (n + m).toNat s := by
  rw [← aff_add, BitVec.toNat_add, aff_mod _ _ T14_form (c14_form x)]
set_option maxHeartbeats 4000000 in
theorem advances_try (W : World) (s x n m y z k q : BitVec 128)
    (C1 : Hid (∀ w : World, Calls Try.prog 15 #[.agg #[.int .u64 (W64 (hi128 s)), .int .u64 (W64 (lo128 s))], .agg #[.int .u64 (W64 (hi128 x)), .int .u64 (W64 (lo128 x))], .agg #[.int .u64 (W64 (hi128 n)), .int .u64 (W64 (lo128 n))]] w fun e w' => e = .returned (.agg #[.int .u64 (W64 (hi128 y)), .int .u64 (W64 (lo128 y))]) ∧ New w w'))
    (C2 : Hid (∀ w : World, Calls Try.prog 15 #[.agg #[.int .u64 (W64 (hi128 y)), .int .u64 (W64 (lo128 y))], .agg #[.int .u64 (W64 (hi128 x)), .int .u64 (W64 (lo128 x))], .agg #[.int .u64 (W64 (hi128 m)), .int .u64 (W64 (lo128 m))]] w fun e w' => e = .returned (.agg #[.int .u64 (W64 (hi128 z)), .int .u64 (W64 (lo128 z))]) ∧ New w w'))
    (C3 : Hid (∀ w : World, Calls Try.prog 15 #[.agg #[.int .u64 (W64 (hi128 s)), .int .u64 (W64 (lo128 s))], .agg #[.int .u64 (W64 (hi128 x)), .int .u64 (W64 (lo128 x))], .agg #[.int .u64 (W64 (hi128 k)), .int .u64 (W64 (lo128 k))]] w fun e w' => e = .returned (.agg #[.int .u64 (W64 (hi128 z)), .int .u64 (W64 (lo128 z))]) ∧ New w w'))
    (C4 : Hid (∀ w : World, Calls Try.prog 16 #[.agg #[.int .u64 (W64 (hi128 n)), .int .u64 (W64 (lo128 n))], .agg #[.int .u64 (W64 (hi128 m)), .int .u64 (W64 (lo128 m))]] w fun e w' => e = .returned (.agg #[.int .u64 (W64 (hi128 k)), .int .u64 (W64 (lo128 k))]) ∧ New w w'))
    (C5 : Hid (decide (0 < W64 (hi128 n)) = false → decide (30 < W64 (lo128 n)) = false → ∀ w : World, Calls Try.prog 17 #[.agg #[.int .u64 (W64 (hi128 s)), .int .u64 (W64 (lo128 s))], .agg #[.int .u64 (W64 (hi128 x)), .int .u64 (W64 (lo128 x))], .int .i64 (wrap64 (W64 (lo128 n)))] w fun e w' => e = .returned (.agg #[.int .u64 (W64 (hi128 y)), .int .u64 (W64 (lo128 y))]) ∧ New w w')) :
    Calls Try.prog 4 #[.agg #[.int .u64 (W64 (hi128 s)), .int .u64 (W64 (lo128 s))], .agg #[.int .u64 (W64 (hi128 x)), .int .u64 (W64 (lo128 x))], .agg #[.int .u64 (W64 (hi128 n)), .int .u64 (W64 (lo128 n))], .agg #[.int .u64 (W64 (hi128 m)), .int .u64 (W64 (lo128 m))]] W fun e w' => e = .returned (.bool true) ∧ Below W.heap.size W w' := by
  have heqz := fun w => equ_x w z z
  have heqy := fun w => equ_x w y y
  simp only [BEq.rfl] at heqz heqy
  go_enter Try.func4, Try.ntmps4
  go_wp2_with fail
  obtain ⟨h1, h2, h3, h4, h5⟩ := four_blocks W (.cells #[.int .u64 (W64 (hi128 s)), .int .u64 (W64 (lo128 s))] 24) (.cells #[.int .u64 (W64 (hi128 x)), .int .u64 (W64 (lo128 x))] 24) (.cells #[.int .u64 (W64 (hi128 n)), .int .u64 (W64 (lo128 n))] 24) (.cells #[.int .u64 (W64 (hi128 m)), .int .u64 (W64 (lo128 m))] 24)
  generalize (((W.alloc (.cells #[.int .u64 (W64 (hi128 s)), .int .u64 (W64 (lo128 s))] 24)).alloc (.cells #[.int .u64 (W64 (hi128 x)), .int .u64 (W64 (lo128 x))] 24)).alloc (.cells #[.int .u64 (W64 (hi128 n)), .int .u64 (W64 (lo128 n))] 24)).alloc (.cells #[.int .u64 (W64 (hi128 m)), .int .u64 (W64 (lo128 m))] 24) = w0 at h1 h2 h3 h4 h5 ⊢
  refine (awake14 _).mono ?_
  rintro e w ⟨rfl, hn1⟩
  have hs := (show B2 _ _ _ s from h1).stay hn1
  have hx := (show B2 _ _ _ x from h2).stay hn1
  have hn := (show B2 _ _ _ n from h3).stay hn1
  have hm := (show B2 _ _ _ m from h4).stay hn1
  have HN := Lib.hid (h5.trans hn1)
  clear h1 h2 h3 h4 h5 hn1
  go_wp2_with fail
  refine wp_region_class (fun w' => (B2 w' W.heap.size 24 s ∧ B2 w' (W.heap.size + 1) 24 x ∧ B2 w' (W.heap.size + 1 + 1) 24 n ∧ B2 w' (W.heap.size + 1 + 1 + 1) 24 m) ∧ New w w') (by kernel_rfl) (by kernel_rfl) ⟨⟨hs.stay (New.refl _).drew, hx.stay (New.refl _).drew, hn.stay (New.refl _).drew, hm.stay (New.refl _).drew⟩, (New.refl _).drew⟩ ?_
  intro I _ f hall hback
  have HSTEP : Hid (∀ n w', New (f n) w' → ∃ m, w' = f m) := Lib.hid fun n w' hn => hback w' ⟨⟨(hall n).1.1.stay hn, (hall n).1.2.1.stay hn, (hall n).1.2.2.1.stay hn, (hall n).1.2.2.2.stay hn⟩, (hall n).2.trans hn⟩
  have HALL := Lib.hid hall
  have s0 := fun n => (hall n).1.1.c0
  have s1 := fun n => (hall n).1.1.c1
  have x0 := fun n => (hall n).1.2.1.c0
  have x1 := fun n => (hall n).1.2.1.c1
  have p0 := fun n => (hall n).1.2.2.1.c0
  have p1 := fun n => (hall n).1.2.2.1.c1
  have q0 := fun n => (hall n).1.2.2.2.c0
  have q1 := fun n => (hall n).1.2.2.2.c1
  clear hall hback hs hx hn hm
  repeat (go_big_quiet_step (first
    | (go_at_call_of 15 (Value.int IntKind.u64 (W64 (hi128 n))); refine class_new HSTEP.out (C1.out _))
    | (go_at_call_of 15 (Value.int IntKind.u64 (W64 (hi128 m))); refine class_new HSTEP.out (C2.out _))
    | (go_at_call_of 15 (Value.int IntKind.u64 (W64 (hi128 k))); refine class_new HSTEP.out (C3.out _))
    | (go_at_call 16; refine class_new HSTEP.out (C4.out _))))
  refine wpQuiet_nil ?_
  rintro w9 ⟨n1, hw1⟩
  have hs := (HALL.out n1).1.1
  have hx := (HALL.out n1).1.2.1
  have hn := (HALL.out n1).1.2.2.1
  have hS := HN.out.trans (HALL.out n1).2
  rw [← hw1] at hS hs hx hn
  have HS9 := Lib.hid hS
  clear HALL HSTEP hw1 s0 s1 x0 x1 p0 p1 q0 q1 hS
  go_wp2_with fail
  rcases hd1 : decide (0 < W64 (hi128 n))
  · rcases hd2 : decide (30 < W64 (lo128 n))
    · have C6 := Lib.hid (C5.out hd1 hd2)
      clear C5
      refine wp_region_class (fun w' => (B2 w' W.heap.size 24 s ∧ B2 w' (W.heap.size + 1) 24 x ∧ B2 w' (W.heap.size + 1 + 1) 24 n) ∧ New w9 w') (by kernel_rfl) (by kernel_rfl) ⟨⟨hs.stay (New.refl _).drew, hx.stay (New.refl _).drew, hn.stay (New.refl _).drew⟩, (New.refl _).drew⟩ ?_
      intro I _ f hall hback
      have HSTEP : Hid (∀ n w', New (f n) w' → ∃ m, w' = f m) := Lib.hid fun n w' hn => hback w' ⟨⟨(hall n).1.1.stay hn, (hall n).1.2.1.stay hn, (hall n).1.2.2.stay hn⟩, (hall n).2.trans hn⟩
      have HALL := Lib.hid hall
      have s0 := fun n => (hall n).1.1.c0
      have s1 := fun n => (hall n).1.1.c1
      have x0 := fun n => (hall n).1.2.1.c0
      have x1 := fun n => (hall n).1.2.1.c1
      have p0 := fun n => (hall n).1.2.2.c0
      have p1 := fun n => (hall n).1.2.2.c1
      clear hall hback hs hx hn
      repeat (go_big_quiet_step (first | (go_at_call 15; refine class_new HSTEP.out (C1.out _)) | (go_at_call 17; refine class_new HSTEP.out (C6.out _))))
      refine wpQuiet_nil ?_
      rintro w8 ⟨n1, hw1⟩
      have hS := HS9.out.trans (HALL.out n1).2
      rw [← hw1] at hS
      clear HALL HSTEP hw1 s0 s1 x0 x1 p0 p1
      go_wp2
      go_ret
      exact ⟨rfl, hS⟩
    · refine wp_region_class (fun w' => (B2 w' W.heap.size 24 s ∧ B2 w' (W.heap.size + 1) 24 x ∧ B2 w' (W.heap.size + 1 + 1) 24 n) ∧ New w9 w') (by kernel_rfl) (by kernel_rfl) ⟨⟨hs.stay (New.refl _).drew, hx.stay (New.refl _).drew, hn.stay (New.refl _).drew⟩, (New.refl _).drew⟩ ?_
      intro I _ f hall hback
      have HSTEP : Hid (∀ n w', New (f n) w' → ∃ m, w' = f m) := Lib.hid fun n w' hn => hback w' ⟨⟨(hall n).1.1.stay hn, (hall n).1.2.1.stay hn, (hall n).1.2.2.stay hn⟩, (hall n).2.trans hn⟩
      have HALL := Lib.hid hall
      have s0 := fun n => (hall n).1.1.c0
      have s1 := fun n => (hall n).1.1.c1
      have x0 := fun n => (hall n).1.2.1.c0
      have x1 := fun n => (hall n).1.2.1.c1
      have p0 := fun n => (hall n).1.2.2.c0
      have p1 := fun n => (hall n).1.2.2.c1
      clear hall hback hs hx hn
      repeat (go_big_quiet_step (fail))
      refine wpQuiet_nil ?_
      rintro w8 ⟨n1, hw1⟩
      have hS := HS9.out.trans (HALL.out n1).2
      rw [← hw1] at hS
      clear HALL HSTEP hw1 s0 s1 x0 x1 p0 p1
      go_wp2
      go_ret
      exact ⟨rfl, hS⟩
  · refine wp_region_class (fun w' => (B2 w' W.heap.size 24 s ∧ B2 w' (W.heap.size + 1) 24 x ∧ B2 w' (W.heap.size + 1 + 1) 24 n) ∧ New w9 w') (by kernel_rfl) (by kernel_rfl) ⟨⟨hs.stay (New.refl _).drew, hx.stay (New.refl _).drew, hn.stay (New.refl _).drew⟩, (New.refl _).drew⟩ ?_
    intro I _ f hall hback
    have HSTEP : Hid (∀ n w', New (f n) w' → ∃ m, w' = f m) := Lib.hid fun n w' hn => hback w' ⟨⟨(hall n).1.1.stay hn, (hall n).1.2.1.stay hn, (hall n).1.2.2.stay hn⟩, (hall n).2.trans hn⟩
    have HALL := Lib.hid hall
    have s0 := fun n => (hall n).1.1.c0
    have s1 := fun n => (hall n).1.1.c1
    have x0 := fun n => (hall n).1.2.1.c0
    have x1 := fun n => (hall n).1.2.1.c1
    have p0 := fun n => (hall n).1.2.2.c0
    have p1 := fun n => (hall n).1.2.2.c1
    clear hall hback hs hx hn
    repeat (go_big_quiet_step (fail))
    refine wpQuiet_nil ?_
    rintro w8 ⟨n1, hw1⟩
    have hS := HS9.out.trans (HALL.out n1).2
    rw [← hw1] at hS
    clear HALL HSTEP hw1 s0 s1 x0 x1 p0 p1
    go_wp2
    go_ret
    exact ⟨rfl, hS⟩
theorem Pcg64Advances_walk (W : World) (x0_0 : BitVec 64) (x0_1 : BitVec 64) (x1_0 : BitVec 64) (x1_1 : BitVec 64) (x2_0 : BitVec 64) (x2_1 : BitVec 64) (x3_0 : BitVec 64) (x3_1 : BitVec 64) :
    Calls Try.prog 4 #[.agg #[.int .u64 (W64 x0_0), .int .u64 (W64 x0_1)], .agg #[.int .u64 (W64 x1_0), .int .u64 (W64 x1_1)], .agg #[.int .u64 (W64 x2_0), .int .u64 (W64 x2_1)], .agg #[.int .u64 (W64 x3_0), .int .u64 (W64 x3_1)]] W fun e w' => e = .returned (.bool true) ∧ Below W.heap.size W w' := by
  obtain ⟨s, hs⟩ : ∃ s, join128 x0_0 x0_1 = s := ⟨_, rfl⟩
  obtain ⟨x, hx⟩ : ∃ x, join128 x1_0 x1_1 = x := ⟨_, rfl⟩
  obtain ⟨n, hn⟩ : ∃ n, join128 x2_0 x2_1 = n := ⟨_, rfl⟩
  obtain ⟨m, hm⟩ : ∃ m, join128 x3_0 x3_1 = m := ⟨_, rfl⟩
  have c2 := fun w => advance14 (aff T14 (x ||| 1#128) n.toNat s) x m w
  rw [sum14] at c2
  have c5 : decide (0 < W64 (hi128 n)) = false → decide (30 < W64 (lo128 n)) = false → ∀ w : World, Calls Try.prog 17 #[.agg #[.int .u64 (W64 (hi128 s)), .int .u64 (W64 (lo128 s))], .agg #[.int .u64 (W64 (hi128 x)), .int .u64 (W64 (lo128 x))], .int .i64 (wrap64 (W64 (lo128 n)))] w fun e w' => e = .returned (.agg #[.int .u64 (W64 (hi128 (aff T14 (x ||| 1#128) n.toNat s))), .int .u64 (W64 (lo128 (aff T14 (x ||| 1#128) n.toNat s)))]) ∧ New w w' := by
    intro h1 h2 w
    rw [decide_eq_false_iff_not] at h1 h2
    have e := two_x n
    unfold two at e
    have b0 := b64 (hi128 n)
    have b1 := b64 (lo128 n)
    unfold W64 at h1 h2 b0 b1
    refine stepsr14s s x n.toNat (by omega) _ ?_ w
    unfold wrap64 W64
    omega
  have h := advances_try W s x n m _ _ _ 0#128 (Lib.hid fun w => advance14 s x n w) (Lib.hid c2) (Lib.hid fun w => advance14 s x (n + m) w) (Lib.hid fun w => sumr14 n m w) (Lib.hid c5)
  rw [← hs, ← hx, ← hn, ← hm] at h
  simp only [hi_join, lo_join] at h
  exact h
end Go.Proofs.Ytfaobdmoifnglaa
