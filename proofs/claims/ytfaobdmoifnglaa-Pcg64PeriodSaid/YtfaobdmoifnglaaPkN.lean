/- The walk of the statement Pcg64Period: for every two states, every increment, every number. -/
import Derived.Test.YtfaobdmoifnglaaPkL
import Derived.Test.YtfaobdmoifnglaaPkF
namespace Go.Proofs.Ytfaobdmoifnglaa
open Go.RowKit Go.Bv
set_option linter.unusedVariables false
theorem steps14k (s t x k : BitVec 128) (hk : aff T14 (x ||| 1#128) k.toNat s = t) (w : World) : Calls Try.prog 18 #[.agg #[.int .u64 (W64 (hi128 s)), .int .u64 (W64 (lo128 s))], .agg #[.int .u64 (W64 (hi128 t)), .int .u64 (W64 (lo128 t))], .agg #[.int .u64 (W64 (hi128 x)), .int .u64 (W64 (lo128 x))]] w fun e w' =>
    e = .returned (.agg #[.int .u64 (W64 (hi128 k)), .int .u64 (W64 (lo128 k))]) ∧ New w w' := by
  refine (steps14 s t x w).mono ?_
  rintro e w' ⟨N, rfl, hN, hn⟩
  have : N = k := BitVec.eq_of_toNat_eq (aff_inj T14 (x ||| 1#128) T14_form (c14_form x) _ _ N.isLt k.isLt s (by rw [hN, hk]))
  rw [this]
  exact ⟨rfl, hn⟩
theorem zero_iff (s x n : BitVec 128) : (n == 0#128) = (aff T14 (x ||| 1#128) n.toNat s == s) := by
  rw [Bool.eq_iff_iff, beq_iff_eq, beq_iff_eq]
  constructor
  · intro h; subst h; rfl
  · intro h
    exact BitVec.eq_of_toNat_eq (aff_fix T14 (x ||| 1#128) T14_form (c14_form x) _ n.isLt s h)
set_option maxHeartbeats 4000000 in
theorem period_try (W : World) (s t x n y k : BitVec 128) (b : Bool) (hb1 : (n == 0#128) = b) (hb2 : (y == s) = b)
    (C1 : Hid (∀ w : World, Calls Try.prog 18 #[.agg #[.int .u64 (W64 (hi128 s)), .int .u64 (W64 (lo128 s))], .agg #[.int .u64 (W64 (hi128 t)), .int .u64 (W64 (lo128 t))], .agg #[.int .u64 (W64 (hi128 x)), .int .u64 (W64 (lo128 x))]] w fun e w' => e = .returned (.agg #[.int .u64 (W64 (hi128 k)), .int .u64 (W64 (lo128 k))]) ∧ New w w'))
    (C2 : Hid (∀ w : World, Calls Try.prog 15 #[.agg #[.int .u64 (W64 (hi128 s)), .int .u64 (W64 (lo128 s))], .agg #[.int .u64 (W64 (hi128 x)), .int .u64 (W64 (lo128 x))], .agg #[.int .u64 (W64 (hi128 k)), .int .u64 (W64 (lo128 k))]] w fun e w' => e = .returned (.agg #[.int .u64 (W64 (hi128 t)), .int .u64 (W64 (lo128 t))]) ∧ New w w'))
    (C3 : Hid (∀ w : World, Calls Try.prog 15 #[.agg #[.int .u64 (W64 (hi128 s)), .int .u64 (W64 (lo128 s))], .agg #[.int .u64 (W64 (hi128 x)), .int .u64 (W64 (lo128 x))], .agg #[.int .u64 (W64 (hi128 n)), .int .u64 (W64 (lo128 n))]] w fun e w' => e = .returned (.agg #[.int .u64 (W64 (hi128 y)), .int .u64 (W64 (lo128 y))]) ∧ New w w'))
    (C4 : Hid (∀ w : World, Calls Try.prog 18 #[.agg #[.int .u64 (W64 (hi128 s)), .int .u64 (W64 (lo128 s))], .agg #[.int .u64 (W64 (hi128 y)), .int .u64 (W64 (lo128 y))], .agg #[.int .u64 (W64 (hi128 x)), .int .u64 (W64 (lo128 x))]] w fun e w' => e = .returned (.agg #[.int .u64 (W64 (hi128 n)), .int .u64 (W64 (lo128 n))]) ∧ New w w')) :
    Calls Try.prog 5 #[.agg #[.int .u64 (W64 (hi128 s)), .int .u64 (W64 (lo128 s))], .agg #[.int .u64 (W64 (hi128 t)), .int .u64 (W64 (lo128 t))], .agg #[.int .u64 (W64 (hi128 x)), .int .u64 (W64 (lo128 x))], .agg #[.int .u64 (W64 (hi128 n)), .int .u64 (W64 (lo128 n))]] W fun e w' => e = .returned (.bool true) ∧ Below W.heap.size W w' := by
  have heqt := fun w => equ_x w t t
  have heqn := fun w => equ_x w n n
  have heq0 := fun w => equ_x w n 0#128
  have heqy := fun w => equ_x w y s
  rw [zero_hi, zero_lo, hb1] at heq0
  rw [hb2] at heqy
  simp only [BEq.rfl] at heqt heqn
  clear hb1 hb2
  go_enter Try.func5, Try.ntmps5
  go_wp2_with fail
  obtain ⟨h1, h2, h3, h4, h5⟩ := four_blocks W (.cells #[.int .u64 (W64 (hi128 s)), .int .u64 (W64 (lo128 s))] 24) (.cells #[.int .u64 (W64 (hi128 t)), .int .u64 (W64 (lo128 t))] 24) (.cells #[.int .u64 (W64 (hi128 x)), .int .u64 (W64 (lo128 x))] 24) (.cells #[.int .u64 (W64 (hi128 n)), .int .u64 (W64 (lo128 n))] 24)
  generalize (((W.alloc (.cells #[.int .u64 (W64 (hi128 s)), .int .u64 (W64 (lo128 s))] 24)).alloc (.cells #[.int .u64 (W64 (hi128 t)), .int .u64 (W64 (lo128 t))] 24)).alloc (.cells #[.int .u64 (W64 (hi128 x)), .int .u64 (W64 (lo128 x))] 24)).alloc (.cells #[.int .u64 (W64 (hi128 n)), .int .u64 (W64 (lo128 n))] 24) = w0 at h1 h2 h3 h4 h5 ⊢
  refine (awake14 _).mono ?_
  rintro e w ⟨rfl, hn1⟩
  have hB := heap_alloc_new w (.cells #[.int .u64 0, .int .u64 0] 24)
  have hn2 := (New.refl w).alloc (.cells #[.int .u64 0, .int .u64 0] 24)
  have hn3 := hn1.trans hn2
  have hs := (show B2 _ _ _ s from h1).stay hn3
  have ht := (show B2 _ _ _ t from h2).stay hn3
  have hx := (show B2 _ _ _ x from h3).stay hn3
  have hn := (show B2 _ _ _ n from h4).stay hn3
  have HN := Lib.hid (h5.trans hn3)
  clear h1 h2 h3 h4 h5 hn1 hn2 hn3
  go_wp2_with fail
  generalize w.heap.size = b9 at *
  generalize w.alloc (.cells #[.int .u64 0, .int .u64 0] 24) = w2 at *
  refine wp_region_class (fun w' => (B2 w' W.heap.size 24 s ∧ B2 w' (W.heap.size + 1) 24 t ∧ B2 w' (W.heap.size + 1 + 1) 24 x ∧ B2 w' (W.heap.size + 1 + 1 + 1) 24 n ∧ Z2 w' b9 24) ∧ New w2 w') (by kernel_rfl) (by kernel_rfl) ⟨⟨hs.stay (New.refl _).drew, ht.stay (New.refl _).drew, hx.stay (New.refl _).drew, hn.stay (New.refl _).drew, (show Z2 _ _ _ from hB).stay (New.refl _).drew⟩, (New.refl _).drew⟩ ?_
  intro I _ f hall hback
  have HSTEP : Hid (∀ n w', New (f n) w' → ∃ m, w' = f m) := Lib.hid fun n w' hn => hback w' ⟨⟨(hall n).1.1.stay hn, (hall n).1.2.1.stay hn, (hall n).1.2.2.1.stay hn, (hall n).1.2.2.2.1.stay hn, (hall n).1.2.2.2.2.stay hn⟩, (hall n).2.trans hn⟩
  have HALL := Lib.hid hall
  have s0 := fun n => (hall n).1.1.c0
  have s1 := fun n => (hall n).1.1.c1
  have t0 := fun n => (hall n).1.2.1.c0
  have t1 := fun n => (hall n).1.2.1.c1
  have x0 := fun n => (hall n).1.2.2.1.c0
  have x1 := fun n => (hall n).1.2.2.1.c1
  have p0 := fun n => (hall n).1.2.2.2.1.c0
  have p1 := fun n => (hall n).1.2.2.2.1.c1
  have z0 := fun n => (hall n).1.2.2.2.2.c0
  have z1 := fun n => (hall n).1.2.2.2.2.c1
  clear hall hback hs ht hx hn hB
  repeat (go_big_quiet_step (first
    | (go_at_call_of 18 (Value.int IntKind.u64 (W64 (hi128 t))); refine class_new HSTEP.out (C1.out _))
    | (go_at_call_of 15 (Value.int IntKind.u64 (W64 (hi128 k))); refine class_new HSTEP.out (C2.out _))
    | (go_at_call_of 15 (Value.int IntKind.u64 (W64 (hi128 n))); refine class_new HSTEP.out (C3.out _))
    | (go_at_call_of 18 (Value.int IntKind.u64 (W64 (hi128 y))); refine class_new HSTEP.out (C4.out _))))
  refine wpQuiet_nil ?_
  rintro w9 ⟨n1, hw1⟩
  have hS := HN.out.trans (HALL.out n1).2
  rw [← hw1] at hS
  clear HALL HSTEP hw1 s0 s1 t0 t1 x0 x1 p0 p1 z0 z1
  go_wp2
  go_ret
  exact ⟨rfl, hS⟩
theorem Pcg64Period_walk (W : World) (x0_0 : BitVec 64) (x0_1 : BitVec 64) (x1_0 : BitVec 64) (x1_1 : BitVec 64) (x2_0 : BitVec 64) (x2_1 : BitVec 64) (x3_0 : BitVec 64) (x3_1 : BitVec 64) :
    Calls Try.prog 5 #[.agg #[.int .u64 (W64 x0_0), .int .u64 (W64 x0_1)], .agg #[.int .u64 (W64 x1_0), .int .u64 (W64 x1_1)], .agg #[.int .u64 (W64 x2_0), .int .u64 (W64 x2_1)], .agg #[.int .u64 (W64 x3_0), .int .u64 (W64 x3_1)]] W fun e w' => e = .returned (.bool true) ∧ Below W.heap.size W w' := by
  obtain ⟨s, hs⟩ : ∃ s, join128 x0_0 x0_1 = s := ⟨_, rfl⟩
  obtain ⟨t, ht⟩ : ∃ x, join128 x1_0 x1_1 = x := ⟨_, rfl⟩
  obtain ⟨x, hx⟩ : ∃ n, join128 x2_0 x2_1 = n := ⟨_, rfl⟩
  obtain ⟨n, hn⟩ : ∃ m, join128 x3_0 x3_1 = m := ⟨_, rfl⟩
  obtain ⟨q0, hq0, hN0⟩ := aff_surj T14 (x ||| 1#128) T14_form (c14_form x) s t
  obtain ⟨k, hk⟩ : ∃ N : BitVec 128, N.toNat = q0 := ⟨BitVec.ofNat 128 q0, by rw [BitVec.toNat_ofNat]; exact Nat.mod_eq_of_lt hq0⟩
  rw [← hk] at hN0
  have c2 := fun w => advance14 s x k w
  rw [hN0] at c2
  have h := period_try W s t x n _ k _ rfl (zero_iff s x n).symm (Lib.hid fun w => steps14k s t x k hN0 w) (Lib.hid c2) (Lib.hid fun w => advance14 s x n w) (Lib.hid fun w => steps14k s _ x n rfl w)
  rw [← hs, ← ht, ← hx, ← hn] at h
  simp only [hi_join, lo_join] at h
  exact h
end Go.Proofs.Ytfaobdmoifnglaa
