/- The contract of the document's own Mod; the walk of the statement MersFolds: for all numbers. -/
import Derived.Test.YtadaaihbeapibaaMerC
import Derived.Test.YtadaaihbeapibaaBitD
import Derived.Test.YtadaaihbeapibaaClass
namespace Go.Proofs.Ytadaaihbeapibaa
open Go.RowKit Go.Bv
set_option linter.unusedVariables false
set_option maxHeartbeats 2000000 in
theorem rmod_any (X : BitVec 128) (n : BitVec 64) (w : World) :
    Calls Try.prog 32 #[.agg #[.int .u64 (W64 (hi128 X)), .int .u64 (W64 (lo128 X))], .int .u64 (W64 n)] w fun e w' => e = .returned (.int .u64 (W64 (md X.toNat n))) ∧ New w w' := by
  have hB := heap_alloc_new w (.cells #[.int .u64 (W64 (hi128 X)), .int .u64 (W64 (lo128 X))] 35)
  have hn0 := (New.refl w).alloc (.cells #[.int .u64 (W64 (hi128 X)), .int .u64 (W64 (lo128 X))] 35)
  by_cases h : n = 0#64
  · subst h
    rw [md_zero, lo_zero]
    clear hB
    go_enter Try.func32, Try.ntmps32
    go_wp2
    go_ret
    exact ⟨rfl, hn0⟩
  · have hb : (n == 0#64) = false := by rw [beq_eq_false_iff_ne]; exact h
    have hp := pos_of_ne h
    have hO2 := fun w => of2_own (hi128 X) (lo128 X) w
    rw [two_x] at hO2
    have HO2 := Lib.hid hO2
    have HO := Lib.hid (fun w => of_own n 64 64 (by omega) rfl w)
    have HR : Hid (BitVec.ofNat 64 (X.toNat % n.toNat) = md X.toNat n) := Lib.hid (by
      apply md_eq h; rw [BitVec.toNat_ofNat]
      exact Nat.mod_eq_of_lt (by have := Nat.mod_lt X.toNat hp; have := n.isLt; omega))
    have HRL : Hid (X.toNat % n.toNat < 2 ^ 129) := Lib.hid (by have := Nat.mod_lt X.toNat hp; have := n.isLt; omega)
    have HP := Lib.hid hp
    have x0 := (show B2 _ _ _ X from hB).c0
    have x1 := (show B2 _ _ _ X from hB).c1
    clear hO2 h hp hB
    go_enter Try.func32, Try.ntmps32
    go_wp2_with fail
    generalize w.alloc (.cells #[.int .u64 (W64 (hi128 X)), .int .u64 (W64 (lo128 X))] 35) = w0 at *
    refine (HO2.out _).mono ?_
    rintro e w1 ⟨v1, rfl, hown1, hn1⟩
    obtain ⟨a1, c1, rfl, hz1⟩ := bits_row hown1 (by omega)
    go_wp2_with fail
    refine (HO.out _).mono ?_
    rintro e w2 ⟨v2, rfl, hown2, hn2⟩
    obtain ⟨a2, c2, rfl, hz2⟩ := bits_row hown2 (by omega)
    go_wp2_with fail
    refine (bdiv_own X.toNat n.toNat 128 64 _ _ _ _ 128 (by omega) (by omega) (by omega) _ (hz1.stay hn2) X.isLt hz2 n.isLt HP.out).mono ?_
    rintro e w3 ⟨v3, v4, rfl, hown3, hown4, hn3⟩
    obtain ⟨a4, c4, rfl, hz4⟩ := bits_row hown4 (by omega)
    go_wp2_with fail
    refine (word_any (X.toNat % n.toNat) 129 _ 0 _ _ hz4 HRL.out (by omega)).mono ?_
    rintro e w5 ⟨rfl, rfl⟩
    go_wp2
    go_ret
    exact ⟨ret64 HR.out, ((hn0.trans hn1).trans hn2).trans hn3⟩
set_option maxHeartbeats 2000000 in
theorem folds_try (W : World) (k : Int) (X : BitVec 128) (n r : BitVec 64)
    (CF : Hid (∀ w : World, Calls Try.prog 31 #[.int .i64 k, .agg #[.int .u64 (W64 (hi128 X)), .int .u64 (W64 (lo128 X))]] w fun e w' => e = .returned (.int .u64 (W64 r)) ∧ New w w'))
    (CP : Hid (∀ w : World, Calls Try.prog 25 #[.int .i64 k] w fun e w' => e = .returned (.int .u64 (W64 n)) ∧ w' = w))
    (CM : Hid (∀ w : World, Calls Try.prog 32 #[.agg #[.int .u64 (W64 (hi128 X)), .int .u64 (W64 (lo128 X))], .int .u64 (W64 n)] w fun e w' => e = .returned (.int .u64 (W64 r)) ∧ New w w')) :
    Calls Try.prog 7 #[.int .i64 k, .agg #[.int .u64 (W64 (hi128 X)), .int .u64 (W64 (lo128 X))]] W fun e w' => e = .returned (.bool true) ∧ Below W.heap.size W w' := by
  have h1 := heap_alloc_new W (.cells #[.int .u64 (W64 (hi128 X)), .int .u64 (W64 (lo128 X))] 35)
  have h2 := (New.refl W).alloc (.cells #[.int .u64 (W64 (hi128 X)), .int .u64 (W64 (lo128 X))] 35)
  go_enter Try.func7, Try.ntmps7
  go_wp2_with fail
  generalize W.alloc (.cells #[.int .u64 (W64 (hi128 X)), .int .u64 (W64 (lo128 X))] 35) = w0 at *
  refine (awake04 _).mono ?_
  rintro e w ⟨rfl, hn1⟩
  have hx := (show B2 _ _ _ X from h1).stay hn1
  have HN := Lib.hid (h2.trans hn1)
  clear h1 h2 hn1
  go_wp2_with fail
  refine wp_region_class (fun w' => B2 w' W.heap.size 35 X ∧ New w w') (by kernel_rfl) (by kernel_rfl) ⟨hx.stay (New.refl _).drew, (New.refl _).drew⟩ ?_
  intro I _ f hall hback
  have HSTEP : Hid (∀ n w', New (f n) w' → ∃ m, w' = f m) := Lib.hid fun n w' hn => hback w' ⟨(hall n).1.stay hn, (hall n).2.trans hn⟩
  have HALL := Lib.hid hall
  have s0 := fun n => (hall n).1.c0
  have s1 := fun n => (hall n).1.c1
  clear hall hback hx
  repeat (go_big_quiet_step (first
    | (go_at_call 31; refine class_new HSTEP.out (CF.out _))
    | (go_at_call 25; refine class_same (CP.out _))
    | (go_at_call 32; refine class_new HSTEP.out (CM.out _))))
  refine wpQuiet_nil ?_
  rintro w9 ⟨n1, hw1⟩
  have hS := HN.out.trans (HALL.out n1).2
  rw [← hw1] at hS
  clear HALL HSTEP hw1 s0 s1
  go_wp2
  go_ret
  exact ⟨rfl, hS⟩
theorem MersFolds_walk (W : World) (a0 : Int) (w0 : (Lit.int .i64 a0).wf = true) (x1_0 : BitVec 64) (x1_1 : BitVec 64) :
    Calls Try.prog 7 #[.int .i64 a0, .agg #[.int .u64 (W64 x1_0), .int .u64 (W64 x1_1)]] W fun e w' => e = .returned (.bool true) ∧ Below W.heap.size W w' := by
  obtain ⟨X, hX⟩ : ∃ x, join128 x1_0 x1_1 = x := ⟨_, rfl⟩
  have h := folds_try W a0 X (pM a0) _ (Lib.hid fun w => fold_any X a0 w) (Lib.hid fun w => rp_any a0 w) (Lib.hid fun w => rmod_any X (pM a0) w)
  rw [← hX, hi_join, lo_join] at h
  exact h
end Go.Proofs.Ytadaaihbeapibaa
