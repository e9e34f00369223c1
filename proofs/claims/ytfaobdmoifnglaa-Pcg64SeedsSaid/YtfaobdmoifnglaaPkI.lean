/- The walk of the statement Pcg64Seeds: for all numbers. -/
import Derived.Test.YtfaobdmoifnglaaPkH
namespace Go.Proofs.Ytfaobdmoifnglaa
open Go.RowKit Go.Bv
set_option linter.unusedVariables false
set_option maxHeartbeats 2000000 in
theorem seeds_try (W : World) (s t r i : BitVec 128) (hbit : lo128 i % 2#64 = 1#64)
    (C1 : Hid (∀ w : World, Calls Try.prog 19 #[.agg #[.int .u64 (W64 (hi128 s)), .int .u64 (W64 (lo128 s))], .agg #[.int .u64 (W64 (hi128 t)), .int .u64 (W64 (lo128 t))]] w fun e w' => e = .returned (.tuple #[.agg #[.int .u64 (W64 (hi128 r)), .int .u64 (W64 (lo128 r))], .agg #[.int .u64 (W64 (hi128 i)), .int .u64 (W64 (lo128 i))]]) ∧ New w w'))
    (C2 : Hid (∀ w : World, Calls Try.prog 20 #[.agg #[.int .u64 (W64 (hi128 s)), .int .u64 (W64 (lo128 s))], .agg #[.int .u64 (W64 (hi128 t)), .int .u64 (W64 (lo128 t))]] w fun e w' => e = .returned (.tuple #[.agg #[.int .u64 (W64 (hi128 r)), .int .u64 (W64 (lo128 r))], .agg #[.int .u64 (W64 (hi128 i)), .int .u64 (W64 (lo128 i))]]) ∧ New w w')) :
    Calls Try.prog 6 #[.agg #[.int .u64 (W64 (hi128 s)), .int .u64 (W64 (lo128 s))], .agg #[.int .u64 (W64 (hi128 t)), .int .u64 (W64 (lo128 t))]] W fun e w' => e = .returned (.bool true) ∧ Below W.heap.size W w' := by
  have heqr := fun w => equ_x w r r
  have heqi := fun w => equ_x w i i
  simp only [BEq.rfl] at heqr heqi
  go_enter Try.func6, Try.ntmps6
  go_wp2_with fail
  obtain ⟨h1, h2, h3⟩ := two_blocks W (.cells #[.int .u64 (W64 (hi128 s)), .int .u64 (W64 (lo128 s))] 24) (.cells #[.int .u64 (W64 (hi128 t)), .int .u64 (W64 (lo128 t))] 24)
  generalize (W.alloc (.cells #[.int .u64 (W64 (hi128 s)), .int .u64 (W64 (lo128 s))] 24)).alloc (.cells #[.int .u64 (W64 (hi128 t)), .int .u64 (W64 (lo128 t))] 24) = w0 at h1 h2 h3 ⊢
  refine (awake14 _).mono ?_
  rintro e w ⟨rfl, hn1⟩
  have H1 := Lib.hid ((show B2 _ _ _ s from h1).stay hn1)
  have H2 := Lib.hid ((show B2 _ _ _ t from h2).stay hn1)
  have HN := Lib.hid (h3.trans hn1)
  clear h1 h2 h3 hn1
  have s0 := H1.out.c0
  have s1 := H1.out.c1
  have x0 := H2.out.c0
  have x1 := H2.out.c1
  go_wp2_with fail
  refine (C1.out _).mono ?_
  rintro e w1 ⟨rfl, hn1⟩
  obtain ⟨h4, h5, hn2⟩ := two_blocks w1 (.cells #[.int .u64 (W64 (hi128 r)), .int .u64 (W64 (lo128 r))] 24) (.cells #[.int .u64 (W64 (hi128 i)), .int .u64 (W64 (lo128 i))] 24)
  have hn2 := hn1.trans hn2
  have s0 := (H1.out.stay hn2).c0
  have s1 := (H1.out.stay hn2).c1
  have x0 := (H2.out.stay hn2).c0
  have x1 := (H2.out.stay hn2).c1
  go_wp2_with fail
  generalize w1.heap.size = b5 at *
  generalize (w1.alloc (.cells #[.int .u64 (W64 (hi128 r)), .int .u64 (W64 (lo128 r))] 24)).alloc (.cells #[.int .u64 (W64 (hi128 i)), .int .u64 (W64 (lo128 i))] 24) = w2 at *
  refine (C2.out _).mono ?_
  rintro e w3 ⟨rfl, hn3⟩
  obtain ⟨h7, h8, hn4⟩ := two_blocks w3 (.cells #[.int .u64 (W64 (hi128 r)), .int .u64 (W64 (lo128 r))] 24) (.cells #[.int .u64 (W64 (hi128 i)), .int .u64 (W64 (lo128 i))] 24)
  have hn4 := hn3.trans hn4
  have p0 := ((show B2 _ _ _ r from h4).stay hn4).c0
  have p1 := ((show B2 _ _ _ r from h4).stay hn4).c1
  have q0 := ((show B2 _ _ _ i from h5).stay hn4).c0
  have q1 := ((show B2 _ _ _ i from h5).stay hn4).c1
  have HN := Lib.hid (HN.out.trans (hn2.trans hn4))
  clear h4 h5 h7 h8 hn4 hn3 hn2 hn1 s0 s1 x0 x1 H1 H2
  go_wp2
  go_ret
  exact ⟨rfl, HN.out⟩
theorem Pcg64Seeds_walk (W : World) (x0_0 : BitVec 64) (x0_1 : BitVec 64) (x1_0 : BitVec 64) (x1_1 : BitVec 64) :
    Calls Try.prog 6 #[.agg #[.int .u64 (W64 x0_0), .int .u64 (W64 x0_1)], .agg #[.int .u64 (W64 x1_0), .int .u64 (W64 x1_1)]] W fun e w' => e = .returned (.bool true) ∧ Below W.heap.size W w' := by
  obtain ⟨s, hs⟩ : ∃ s, join128 x0_0 x0_1 = s := ⟨_, rfl⟩
  obtain ⟨x, hx⟩ : ∃ x, join128 x1_0 x1_1 = x := ⟨_, rfl⟩
  have h := seeds_try W s x _ _ (seed_bit x) (Lib.hid fun w => seed14 s x w) (Lib.hid fun w => seedr14 s x w)
  rw [← hs, ← hx, hi_join, lo_join, hi_join, lo_join] at h
  exact h
end Go.Proofs.Ytfaobdmoifnglaa
