/- The walks of the statements Mers89Reckons, Mers89Powers and Mers89Inverts: for all numbers. -/
import Derived.Test.YtadaaihbeapibaaMeiI
namespace Go.Bv
open Go Go.RowKit
theorem sub_back (x y : BitVec 128) : m89 ((m89 (x.toNat + (p89 - m89 y.toNat).toNat)).toNat + y.toNat) = m89 x.toNat := by
  apply m89_congr
  have h1 := m89_lt y.toNat
  rw [m89_nat, Nat.mod_add_mod, BitVec.toNat_sub_of_le (by rw [BitVec.le_def, p89_nat]; omega), p89_nat]
  rw [m89_nat] at h1 ⊢
  omega
theorem pow_sum (a b e : Nat) : m89 (a ^ (b + e)) = m89 ((m89 (a ^ b)).toNat * (m89 (a ^ e)).toNat) := by
  apply m89_congr
  rw [m89_nat, m89_nat, Nat.pow_add, ← Nat.mul_mod]
theorem m89_ne {a : BitVec 128} (h : ¬ m89 a.toNat = 0#128) : a.toNat % Fer.P89 ≠ 0 := by
  intro h0
  apply h
  apply BitVec.eq_of_toNat_eq
  rw [m89_nat]; exact h0
theorem inv_one (a : BitVec 128) (h : ¬ m89 a.toNat = 0#128) (E : Nat) (hE : Fer.P89 - 2 = E) : m89 (a.toNat * (m89 (a.toNat ^ E)).toNat) = 1#128 := by
  have := Fer.gen89.inv (by decide +kernel) a.toNat (m89_ne h)
  rw [hE] at this
  apply BitVec.eq_of_toNat_eq
  rw [m89_nat, m89_nat]; exact this
theorem fermat_one (a : BitVec 128) (h : ¬ m89 a.toNat = 0#128) (E : Nat) (hE : Fer.P89 - 1 = E) : m89 (a.toNat ^ E) = 1#128 := by
  have := Fer.gen89.fermat a.toNat (m89_ne h)
  rw [hE] at this
  apply BitVec.eq_of_toNat_eq
  rw [m89_nat]; exact this
theorem mul_not (a b : BitVec 128) (h : ¬ m89 a.toNat = 0#128) (k : ¬ m89 b.toNat = 0#128) : ¬ m89 (a.toNat * b.toNat) = 0#128 := by
  have := Fer.gen89.mul_ne a.toNat b.toNat (m89_ne h) (m89_ne k)
  intro h0
  have e := congrArg BitVec.toNat h0
  rw [m89_nat] at e
  exact this e
end Go.Bv
namespace Go.Proofs.Ytadaaihbeapibaa
open Go.RowKit Go.Bv
set_option linter.unusedVariables false
set_option maxHeartbeats 4000000 in
theorem reckons89_try (W : World) (x y s t d r q : BitVec 128) (e : BitVec 64)
    (C1 : Hid (∀ w : World, Calls Try.prog 37 #[.agg #[.int .u64 (W64 (hi128 x)), .int .u64 (W64 (lo128 x))], .agg #[.int .u64 (W64 (hi128 y)), .int .u64 (W64 (lo128 y))]] w fun e w' => e = .returned (.agg #[.int .u64 (W64 (hi128 s)), .int .u64 (W64 (lo128 s))]) ∧ New w w'))
    (C2 : Hid (∀ w : World, Calls Try.prog 38 #[.agg #[.int .u64 (W64 (hi128 x)), .int .u64 (W64 (lo128 x))], .agg #[.int .u64 (W64 (hi128 y)), .int .u64 (W64 (lo128 y))]] w fun e w' => e = .returned (.agg #[.int .u64 (W64 (hi128 s)), .int .u64 (W64 (lo128 s))]) ∧ New w w'))
    (C3 : Hid (∀ w : World, Calls Try.prog 39 #[.agg #[.int .u64 (W64 (hi128 x)), .int .u64 (W64 (lo128 x))], .agg #[.int .u64 (W64 (hi128 y)), .int .u64 (W64 (lo128 y))]] w fun e w' => e = .returned (.agg #[.int .u64 (W64 (hi128 t)), .int .u64 (W64 (lo128 t))]) ∧ New w w'))
    (C4 : Hid (∀ w : World, Calls Try.prog 40 #[.agg #[.int .u64 (W64 (hi128 x)), .int .u64 (W64 (lo128 x))], .agg #[.int .u64 (W64 (hi128 y)), .int .u64 (W64 (lo128 y))]] w fun e w' => e = .returned (.agg #[.int .u64 (W64 (hi128 t)), .int .u64 (W64 (lo128 t))]) ∧ New w w'))
    (C5 : Hid (∀ w : World, Calls Try.prog 41 #[.agg #[.int .u64 (W64 (hi128 x)), .int .u64 (W64 (lo128 x))], .agg #[.int .u64 (W64 (hi128 y)), .int .u64 (W64 (lo128 y))]] w fun e w' => e = .returned (.agg #[.int .u64 (W64 (hi128 d)), .int .u64 (W64 (lo128 d))]) ∧ New w w'))
    (C6 : Hid (∀ w : World, Calls Try.prog 38 #[.agg #[.int .u64 (W64 (hi128 d)), .int .u64 (W64 (lo128 d))], .agg #[.int .u64 (W64 (hi128 y)), .int .u64 (W64 (lo128 y))]] w fun e w' => e = .returned (.agg #[.int .u64 (W64 (hi128 r)), .int .u64 (W64 (lo128 r))]) ∧ New w w'))
    (C7 : Hid (∀ w : World, Calls Try.prog 43 #[.agg #[.int .u64 (W64 (hi128 x)), .int .u64 (W64 (lo128 x))]] w fun e w' => ∃ v, e = .returned v ∧ (BV 128 v ∧ BR x.toNat 128 v w') ∧ New w w'))
    (C8 : Hid (∀ (w : World) (a : Option Addr) (c : Nat), ZRow w a 128 c (bitsOf x.toNat 128) → Calls Try.prog 42 #[.slice a 128 c] w fun e w' => e = .returned (.agg #[.int .u64 (W64 (hi128 r)), .int .u64 (W64 (lo128 r))]) ∧ New w w'))
    (C9 : Hid (∀ w : World, Calls Try.prog 44 #[.agg #[.int .u64 (W64 (hi128 d)), .int .u64 (W64 (lo128 d))]] w fun e w' => e = .returned (.bool true) ∧ New w w'))
    (C10 : Hid (decide (12 < W64 e) = false → ∀ w : World, Calls Try.prog 45 #[.agg #[.int .u64 (W64 (hi128 x)), .int .u64 (W64 (lo128 x))], .agg #[.int .u64 0, .int .u64 (W64 e)]] w fun e w' => e = .returned (.agg #[.int .u64 (W64 (hi128 q)), .int .u64 (W64 (lo128 q))]) ∧ New w w'))
    (C11 : Hid (decide (12 < W64 e) = false → ∀ w : World, Calls Try.prog 46 #[.agg #[.int .u64 (W64 (hi128 x)), .int .u64 (W64 (lo128 x))], .int .u64 (W64 e)] w fun e w' => e = .returned (.agg #[.int .u64 (W64 (hi128 q)), .int .u64 (W64 (lo128 q))]) ∧ New w w')) :
    Calls Try.prog 10 #[.agg #[.int .u64 (W64 (hi128 x)), .int .u64 (W64 (lo128 x))], .agg #[.int .u64 (W64 (hi128 y)), .int .u64 (W64 (lo128 y))], .int .u64 (W64 e)] W fun e w' => e = .returned (.bool true) ∧ Below W.heap.size W w' := by
  have heqs := fun w => equ_x w s s
  have heqt := fun w => equ_x w t t
  have heqr := fun w => equ_x w r r
  have heqq := fun w => equ_x w q q
  simp only [BEq.rfl] at heqs heqt heqr heqq
  go_enter Try.func10, Try.ntmps10
  go_wp2_with fail
  obtain ⟨h1, h2, h3⟩ := two_blocks W (.cells #[.int .u64 (W64 (hi128 x)), .int .u64 (W64 (lo128 x))] 35) (.cells #[.int .u64 (W64 (hi128 y)), .int .u64 (W64 (lo128 y))] 35)
  generalize (W.alloc (.cells #[.int .u64 (W64 (hi128 x)), .int .u64 (W64 (lo128 x))] 35)).alloc (.cells #[.int .u64 (W64 (hi128 y)), .int .u64 (W64 (lo128 y))] 35) = w0 at h1 h2 h3 ⊢
  refine (awake05 _).mono ?_
  rintro e' w ⟨rfl, hn1⟩
  have hx := (show B2 _ _ _ x from h1).stay hn1
  have hy := (show B2 _ _ _ y from h2).stay hn1
  have HN := Lib.hid (h3.trans hn1)
  clear h1 h2 h3 hn1
  go_wp2_with fail
  refine Grow.wp_region_growS (fun w' => (B2 w' W.heap.size 35 x ∧ B2 w' (W.heap.size + 1) 35 y) ∧ New w w') (fun k => [2, 5, 10, 13, 19, 21, 23, 24, 30, 31].contains k) (by kernel_rfl) (by kernel_rfl) (by kernel_rfl) ⟨⟨hx.stay (New.refl _).drew, hy.stay (New.refl _).drew⟩, (New.refl _).drew⟩ ?_
  intro I _ f hall hback
  have HALL := Lib.hid hall
  have HSTEP : Hid (∀ n w', New (f n) w' → ∃ m, w' = f m) := Lib.hid fun n w' hn => hback w' ⟨⟨(hall n).1.1.stay hn, (hall n).1.2.stay hn⟩, (hall n).2.trans hn⟩
  have s0 := fun n => (hall n).1.1.c0
  have s1 := fun n => (hall n).1.1.c1
  have t0 := fun n => (hall n).1.2.c0
  have t1 := fun n => (hall n).1.2.c1
  clear hall hback hx hy
  refine Grow.wpGrow_take 2 (by kernel_rfl) ?_
  simp only [List.take, List.drop, List.length]
  repeat (go_big_quiet_step (fail))
  refine wpQuiet_nil ?_
  refine Grow.wpGrow_one (.agg #[.int .u64 (W64 (hi128 s)), .int .u64 (W64 (lo128 s))]) rfl rfl (fun w1 hB hG => ?_) (fun A1 hA => ?_)
  · obtain ⟨n, rfl⟩ := hB
    go_simp
    refine (C1.out _).mono ?_
    rintro e w2 ⟨rfl, hn⟩
    first | exact ⟨_, rfl, HSTEP.out _ _ hn, rfl⟩ | exact ⟨rfl, HSTEP.out _ _ hn⟩
  simp [Act.put] at hA
  subst hA
  refine Grow.wpGrow_take 2 (by kernel_rfl) ?_
  simp only [List.take, List.drop, List.length]
  repeat (go_big_quiet_step (fail))
  refine wpQuiet_nil ?_
  refine Grow.wpGrow_one (.agg #[.int .u64 (W64 (hi128 s)), .int .u64 (W64 (lo128 s))]) rfl rfl (fun w1 hB hG => ?_) (fun A2 hA => ?_)
  · obtain ⟨n, rfl⟩ := hB
    go_simp
    refine (C2.out _).mono ?_
    rintro e w2 ⟨rfl, hn⟩
    first | exact ⟨_, rfl, HSTEP.out _ _ hn, rfl⟩ | exact ⟨rfl, HSTEP.out _ _ hn⟩
  simp [Act.put] at hA
  subst hA
  refine Grow.wpGrow_take 4 (by kernel_rfl) ?_
  simp only [List.take, List.drop, List.length]
  repeat (go_big_quiet_step (fail))
  refine wpQuiet_nil ?_
  refine Grow.wpGrow_one (.agg #[.int .u64 (W64 (hi128 t)), .int .u64 (W64 (lo128 t))]) rfl rfl (fun w1 hB hG => ?_) (fun A3 hA => ?_)
  · obtain ⟨n, rfl⟩ := hB
    go_simp
    refine (C3.out _).mono ?_
    rintro e w2 ⟨rfl, hn⟩
    first | exact ⟨_, rfl, HSTEP.out _ _ hn, rfl⟩ | exact ⟨rfl, HSTEP.out _ _ hn⟩
  simp [Act.put] at hA
  subst hA
  refine Grow.wpGrow_take 2 (by kernel_rfl) ?_
  simp only [List.take, List.drop, List.length]
  repeat (go_big_quiet_step (fail))
  refine wpQuiet_nil ?_
  refine Grow.wpGrow_one (.agg #[.int .u64 (W64 (hi128 t)), .int .u64 (W64 (lo128 t))]) rfl rfl (fun w1 hB hG => ?_) (fun A4 hA => ?_)
  · obtain ⟨n, rfl⟩ := hB
    go_simp
    refine (C4.out _).mono ?_
    rintro e w2 ⟨rfl, hn⟩
    first | exact ⟨_, rfl, HSTEP.out _ _ hn, rfl⟩ | exact ⟨rfl, HSTEP.out _ _ hn⟩
  simp [Act.put] at hA
  subst hA
  refine Grow.wpGrow_take 5 (by kernel_rfl) ?_
  simp only [List.take, List.drop, List.length]
  repeat (go_big_quiet_step (fail))
  refine wpQuiet_nil ?_
  refine Grow.wpGrow_one (.agg #[.int .u64 (W64 (hi128 d)), .int .u64 (W64 (lo128 d))]) rfl rfl (fun w1 hB hG => ?_) (fun A5 hA => ?_)
  · obtain ⟨n, rfl⟩ := hB
    go_simp
    refine (C5.out _).mono ?_
    rintro e w2 ⟨rfl, hn⟩
    first | exact ⟨_, rfl, HSTEP.out _ _ hn, rfl⟩ | exact ⟨rfl, HSTEP.out _ _ hn⟩
  simp [Act.put] at hA
  subst hA
  refine Grow.wpGrow_take 1 (by kernel_rfl) ?_
  simp only [List.take, List.drop, List.length]
  repeat (go_big_quiet_step (fail))
  refine wpQuiet_nil ?_
  refine Grow.wpGrow_one (.agg #[.int .u64 (W64 (hi128 r)), .int .u64 (W64 (lo128 r))]) rfl rfl (fun w1 hB hG => ?_) (fun A6 hA => ?_)
  · obtain ⟨n, rfl⟩ := hB
    go_simp
    refine (C6.out _).mono ?_
    rintro e w2 ⟨rfl, hn⟩
    first | exact ⟨_, rfl, HSTEP.out _ _ hn, rfl⟩ | exact ⟨rfl, HSTEP.out _ _ hn⟩
  simp [Act.put] at hA
  subst hA
  refine Grow.wpGrow_take 1 (by kernel_rfl) ?_
  simp only [List.take, List.drop, List.length]
  repeat (go_big_quiet_step (fail))
  refine wpQuiet_nil ?_
  refine Grow.wpGrow_call (BV 128) (BR x.toNat 128) rfl rfl (BV.some _) (fun w1 hB hG => ?_) (fun v7 A7 hv7 hA => ?_)
  · obtain ⟨n, rfl⟩ := hB
    go_simp
    refine (C7.out _).mono ?_
    rintro e w2 ⟨v, rfl, hv, hn⟩
    obtain ⟨hva, hvb⟩ := hv
    exact ⟨_, rfl, HSTEP.out _ _ hn, hva, hvb⟩
  simp [Act.put] at hA
  subst hA
  obtain ⟨a1, c1, rfl⟩ := hv7
  refine Grow.wpGrow_one (.agg #[.int .u64 (W64 (hi128 r)), .int .u64 (W64 (lo128 r))]) rfl rfl (fun w1 hB hG => ?_) (fun A8 hA => ?_)
  · obtain ⟨n, rfl⟩ := hB
    go_simp
    refine (C8.out _ _ _ hG.2.row).mono ?_
    rintro e w2 ⟨rfl, hn⟩
    first | exact ⟨_, rfl, HSTEP.out _ _ hn, rfl, hG.2.stay hn⟩ | exact ⟨rfl, HSTEP.out _ _ hn, hG.2.stay hn⟩
  simp [Act.put] at hA
  subst hA
  refine Grow.wpGrow_take 5 (by kernel_rfl) ?_
  simp only [List.take, List.drop, List.length]
  repeat (go_big_quiet_step (fail))
  refine wpQuiet_nil ?_
  refine Grow.wpGrow_one (.agg #[.int .u64 (W64 (hi128 d)), .int .u64 (W64 (lo128 d))]) rfl rfl (fun w1 hB hG => ?_) (fun A9 hA => ?_)
  · obtain ⟨n, rfl⟩ := hB
    go_simp
    refine (C5.out _).mono ?_
    rintro e w2 ⟨rfl, hn⟩
    first | exact ⟨_, rfl, HSTEP.out _ _ hn, rfl, hG.2.stay hn⟩ | exact ⟨rfl, HSTEP.out _ _ hn, hG.2.stay hn⟩
  simp [Act.put] at hA
  subst hA
  refine Grow.wpGrow_one (.bool true) rfl rfl (fun w1 hB hG => ?_) (fun A10 hA => ?_)
  · obtain ⟨n, rfl⟩ := hB
    go_simp
    refine (C9.out _).mono ?_
    rintro e w2 ⟨rfl, hn⟩
    first | exact ⟨_, rfl, HSTEP.out _ _ hn, rfl, hG.2.stay hn⟩ | exact ⟨rfl, HSTEP.out _ _ hn, hG.2.stay hn⟩
  simp [Act.put] at hA
  subst hA
  refine Grow.wpGrow_take 2 (by kernel_rfl) ?_
  simp only [List.take, List.drop, List.length]
  repeat (go_big_quiet_step (fail))
  refine wpQuiet_nil ?_
  refine Grow.wpGrow_nil ?_
  rintro w9 ⟨n9, rfl⟩ hG
  have hx := (HALL.out n9).1.1
  have HS9 := Lib.hid (HN.out.trans (HALL.out n9).2)
  clear HALL HSTEP s0 s1 t0 t1 hG
  generalize f n9 = w9 at *
  go_wp2_with fail
  rcases hd1 : decide (12 < W64 e)
  · have C12 := Lib.hid (C10.out hd1)
    have C13 := Lib.hid (C11.out hd1)
    refine wp_region_class (fun w' => B2 w' W.heap.size 35 x ∧ New w9 w') (by kernel_rfl) (by kernel_rfl) ⟨hx.stay (New.refl _).drew, (New.refl _).drew⟩ ?_
    intro I _ f hall hback
    have HSTEP : Hid (∀ n w', New (f n) w' → ∃ m, w' = f m) := Lib.hid fun n w' hn => hback w' ⟨(hall n).1.stay hn, (hall n).2.trans hn⟩
    have HALL := Lib.hid hall
    have s0 := fun n => (hall n).1.c0
    have s1 := fun n => (hall n).1.c1
    clear hall hback hx
    repeat (go_big_quiet_step (first
      | (go_at_call 45; refine class_new HSTEP.out (C12.out _))
      | (go_at_call 46; refine class_new HSTEP.out (C13.out _))))
    refine wpQuiet_nil ?_
    rintro w8 ⟨n1, hw1⟩
    have hS := HS9.out.trans (HALL.out n1).2
    rw [← hw1] at hS
    clear HALL HSTEP hw1 s0 s1
    go_wp2
    go_ret
    exact ⟨rfl, hS⟩
  · refine wp_region_class (fun w' => B2 w' W.heap.size 35 x ∧ New w9 w') (by kernel_rfl) (by kernel_rfl) ⟨hx.stay (New.refl _).drew, (New.refl _).drew⟩ ?_
    intro I _ f hall hback
    have HALL := Lib.hid hall
    have s0 := fun n => (hall n).1.c0
    clear hall hback hx
    repeat (go_big_quiet_step (fail))
    refine wpQuiet_nil ?_
    rintro w8 ⟨n1, hw1⟩
    have hS := HS9.out.trans (HALL.out n1).2
    rw [← hw1] at hS
    clear HALL hw1 s0
    go_wp2
    go_ret
    exact ⟨rfl, hS⟩
theorem Mers89Reckons_walk (W : World) (x0_0 : BitVec 64) (x0_1 : BitVec 64) (x1_0 : BitVec 64) (x1_1 : BitVec 64) (a2 : Int) (w2 : (Lit.int .u64 a2).wf = true) :
    Calls Try.prog 10 #[.agg #[.int .u64 (W64 x0_0), .int .u64 (W64 x0_1)], .agg #[.int .u64 (W64 x1_0), .int .u64 (W64 x1_1)], .int .u64 a2] W fun e w' => e = .returned (.bool true) ∧ Below W.heap.size W w' := by
  obtain ⟨x, hx⟩ : ∃ s, join128 x0_0 x0_1 = s := ⟨_, rfl⟩
  obtain ⟨y, hy⟩ : ∃ s, join128 x1_0 x1_1 = s := ⟨_, rfl⟩
  obtain ⟨k, rfl⟩ := wf64 w2
  have c6 := fun w => radd_89 (m89 (x.toNat + (p89 - m89 y.toNat).toNat)) y w
  rw [sub_back] at c6
  have c9 := fun w => is_89 (m89 (x.toNat + (p89 - m89 y.toNat).toNat)) w
  rw [decide_eq_true (m89_lt _)] at c9
  have c10 : decide (12 < W64 k) = false → ∀ w : World, Calls Try.prog 45 #[.agg #[.int .u64 (W64 (hi128 x)), .int .u64 (W64 (lo128 x))], .agg #[.int .u64 0, .int .u64 (W64 k)]] w fun e w' => e = .returned (.agg #[.int .u64 (W64 (hi128 (m89 (x.toNat ^ k.toNat)))), .int .u64 (W64 (lo128 (m89 (x.toNat ^ k.toNat))))]) ∧ New w w' := by
    intro h w
    have h := pow_89 x (BitVec.ofNat 128 k.toNat) w
    have he := k.isLt
    rw [hi_ofNat, lo_ofNat, Nat.div_eq_of_lt (by omega), BitVec.toNat_ofNat, Nat.mod_eq_of_lt (by omega), show W64 (BitVec.ofNat 64 0) = 0 from lo_zero, BitVec.ofNat_toNat, BitVec.setWidth_eq] at h
    exact h
  have c11 : decide (12 < W64 k) = false → ∀ w : World, Calls Try.prog 46 #[.agg #[.int .u64 (W64 (hi128 x)), .int .u64 (W64 (lo128 x))], .int .u64 (W64 k)] w fun e w' => e = .returned (.agg #[.int .u64 (W64 (hi128 (m89 (x.toNat ^ k.toNat)))), .int .u64 (W64 (lo128 (m89 (x.toNat ^ k.toNat))))]) ∧ New w w' := by
    intro h w
    rw [decide_eq_false_iff_not] at h
    exact rpow_89 x k k.toNat rfl (by unfold W64 at h; omega) w
  have h := reckons89_try W x y _ _ _ _ _ k (Lib.hid fun w => add_89 x y w) (Lib.hid fun w => radd_89 x y w) (Lib.hid fun w => mul_89 x y w) (Lib.hid fun w => rmul_89 x y w) (Lib.hid fun w => sub_89 x y w) (Lib.hid c6)
    (Lib.hid fun w => of2_g x w) (Lib.hid fun w a c h => rmod_89 x.toNat 128 c 128 a (by omega) (by omega) (by omega) w h x.isLt) (Lib.hid c9) (Lib.hid c10) (Lib.hid c11)
  rw [← hx, ← hy] at h
  simp only [hi_join, lo_join] at h
  exact h
end Go.Proofs.Ytadaaihbeapibaa
