/- The walk of the statement Mers89Inverts: for all numbers. -/
import Derived.Test.YtadaaihbeapibaaMeiK
namespace Go.Bv
open Go Go.RowKit
theorem less_nat : (BitVec.ofNat 128 618970019642690137449562110).toNat = 618970019642690137449562110 := by decide +kernel
theorem less_hi : W64 (hi128 (BitVec.ofNat 128 618970019642690137449562110)) = 33554431 := by unfold W64; decide +kernel
end Go.Bv
namespace Go.Proofs.Ytadaaihbeapibaa
open Go.RowKit Go.Bv
set_option linter.unusedVariables false
/-- the bits of the prime less 1 -/
theorem less_g (w : World) (a b : Option Addr) (ca cb : Nat) (ha : ZRow w a 128 ca (bitsOf 618970019642690137449562111 128)) (hb : ZRow w b 1 cb (bitsOf 1 1)) :
    Calls Try.prog 51 #[.slice a 128 ca, .slice b 1 cb, .int .i64 128] w fun e w' => ∃ v, e = .returned v ∧ (CV 128 v ∧ CR 618970019642690137449562110 128 v w') ∧ New w w' := by
  refine (bsub_own 618970019642690137449562111 1 128 1 ca cb a b 128 128 rfl (by omega) w ha (by omega) hb (by omega) (618970019642690137449562110 + 2 ^ 128) (by omega)).mono ?_
  rintro e w' ⟨v, rfl, hown, hn⟩
  rw [bits_over] at hown
  obtain ⟨a, c, rfl, hz⟩ := bits_row hown (by omega)
  exact ⟨_, rfl, CR.mk hz, hn⟩
theorem one_g (w : World) : Calls Try.prog 48 #[.int .u64 1, .int .i64 1] w fun e w' => ∃ v, e = .returned v ∧ (BV 1 v ∧ BR 1 1 v w') ∧ New w w' := by
  have h := of_own 1#64 1 1 (by omega) rfl w
  rw [show W64 1#64 = 1 from W64_lit 1 (by omega)] at h
  refine h.mono ?_
  rintro e w' ⟨v, rfl, hown, hn⟩
  obtain ⟨a, c, rfl, hz⟩ := bits_row hown (by omega)
  exact ⟨_, rfl, BR.mk hz, hn⟩
theorem rp_g (w : World) : Calls Try.prog 52 #[] w fun e w' => ∃ v, e = .returned v ∧ (BV 128 v ∧ BR 618970019642690137449562111 128 v w') ∧ New w w' := by
  refine (rp_89 w).mono ?_
  rintro e w' ⟨v, rfl, hown, hn⟩
  obtain ⟨a, c, rfl, hz⟩ := bits_row hown (by omega)
  exact ⟨_, rfl, BR.mk hz, hn⟩
set_option maxHeartbeats 4000000 in
theorem inverts89_none (W : World) (x y i : BitVec 128) (hi0 : W64 (hi128 i) = 0) (hi1 : W64 (lo128 i) = 0)
    (CI : Hid (∀ w : World, Calls Try.prog 50 #[.agg #[.int .u64 (W64 (hi128 x)), .int .u64 (W64 (lo128 x))]] w fun e w' => e = .returned (.tuple #[.agg #[.int .u64 (W64 (hi128 i)), .int .u64 (W64 (lo128 i))], .bool false]) ∧ New w w'))
    (CO : Hid (∀ w : World, Calls Try.prog 43 #[.agg #[.int .u64 (W64 (hi128 x)), .int .u64 (W64 (lo128 x))]] w fun e w' => ∃ v, e = .returned v ∧ (BV 128 v ∧ BR x.toNat 128 v w') ∧ New w w'))
    (CM : Hid (∀ (w : World) (a : Option Addr) (c : Nat), ZRow w a 128 c (bitsOf x.toNat 128) → Calls Try.prog 42 #[.slice a 128 c] w fun e w' => e = .returned (.agg #[.int .u64 0, .int .u64 0]) ∧ New w w')) :
    Calls Try.prog 12 #[.agg #[.int .u64 (W64 (hi128 x)), .int .u64 (W64 (lo128 x))], .agg #[.int .u64 (W64 (hi128 y)), .int .u64 (W64 (lo128 y))]] W fun e w' => e = .returned (.bool true) ∧ Below W.heap.size W w' := by
  have heq0 := fun w => equ_x w 0#128 0#128
  rw [zhi, zlo, BEq.rfl] at heq0
  have HI0 := Lib.hid hi0
  have HI1 := Lib.hid hi1
  clear hi0 hi1
  go_enter Try.func12, Try.ntmps12
  go_wp2_with fail
  obtain ⟨h1, h2, h3⟩ := two_blocks W (.cells #[.int .u64 (W64 (hi128 x)), .int .u64 (W64 (lo128 x))] 35) (.cells #[.int .u64 (W64 (hi128 y)), .int .u64 (W64 (lo128 y))] 35)
  generalize (W.alloc (.cells #[.int .u64 (W64 (hi128 x)), .int .u64 (W64 (lo128 x))] 35)).alloc (.cells #[.int .u64 (W64 (hi128 y)), .int .u64 (W64 (lo128 y))] 35) = w0 at h1 h2 h3 ⊢
  refine (awake05 _).mono ?_
  rintro e w ⟨rfl, hn1⟩
  have hx := (show B2 _ _ _ x from h1).stay hn1
  have hy := (show B2 _ _ _ y from h2).stay hn1
  have HN := Lib.hid (h3.trans hn1)
  clear h1 h2 h3 hn1
  have hB := heap_alloc_new w (.cells #[.int .u64 0, .int .u64 0] 35)
  have hn2 := (New.refl w).alloc (.cells #[.int .u64 0, .int .u64 0] 35)
  have x0 := (hx.stay hn2).c0
  have x1 := (hx.stay hn2).c1
  have HX := Lib.hid (hx.stay hn2)
  have HY := Lib.hid (hy.stay hn2)
  have HNA := Lib.hid (HN.out.trans hn2)
  clear hx hy HN hn2
  go_wp2_with fail
  generalize w.heap.size = g5 at *
  generalize w.alloc (.cells #[.int .u64 0, .int .u64 0] 35) = w2 at *
  refine (CI.out _).mono ?_
  rintro e w3 ⟨rfl, hn3⟩
  have hB2 := heap_alloc_new w3 (.cells #[.int .u64 (W64 (hi128 i)), .int .u64 (W64 (lo128 i))] 35)
  have hn4 := hn3.alloc (.cells #[.int .u64 (W64 (hi128 i)), .int .u64 (W64 (lo128 i))] 35)
  have HX4 := Lib.hid (HX.out.stay hn4)
  have HY4 := Lib.hid (HY.out.stay hn4)
  have HZ4 := Lib.hid ((show Z2 _ _ _ from hB).stay hn4)
  have HN4 := Lib.hid (HNA.out.trans hn4)
  clear hB hn3 hn4 x0 x1 HX HY HNA
  go_wp2_with fail
  generalize w3.heap.size = g6 at *
  generalize w3.alloc (.cells #[.int .u64 (W64 (hi128 i)), .int .u64 (W64 (lo128 i))] 35) = w4 at *
  have HI4 := Lib.hid (show B2 _ _ _ i from hB2)
  clear hB2
  refine Grow.wp_region_growS (fun w' => (B2 w' W.heap.size 35 x ∧ B2 w' (W.heap.size + 1) 35 y ∧ Z2 w' g5 35 ∧ B2 w' g6 35 i) ∧ New w4 w') (fun k => [1, 2].contains k) (by kernel_rfl) (by kernel_rfl) (by kernel_rfl) ⟨⟨HX4.out.stay (New.refl _).drew, HY4.out.stay (New.refl _).drew, HZ4.out.stay (New.refl _).drew, HI4.out.stay (New.refl _).drew⟩, (New.refl _).drew⟩ ?_
  intro I _ f hall hback
  have HALL := Lib.hid hall
  have HSTEP : Hid (∀ n w', New (f n) w' → ∃ m, w' = f m) := Lib.hid fun n w' hn => hback w' ⟨⟨(hall n).1.1.stay hn, (hall n).1.2.1.stay hn, (hall n).1.2.2.1.stay hn, (hall n).1.2.2.2.stay hn⟩, (hall n).2.trans hn⟩
  have s0 := fun n => (hall n).1.1.c0
  have s1 := fun n => (hall n).1.1.c1
  have t0 := fun n => (hall n).1.2.1.c0
  have t1 := fun n => (hall n).1.2.1.c1
  have z0 := fun n => (hall n).1.2.2.1.c0
  have z1 := fun n => (hall n).1.2.2.1.c1
  have i0 := fun n => (hall n).1.2.2.2.c0
  have i1 := fun n => (hall n).1.2.2.2.c1
  clear hall hback
  refine Grow.wpGrow_take 1 (by kernel_rfl) ?_
  simp only [List.take, List.drop, List.length]
  repeat (go_big_quiet_step (fail))
  refine wpQuiet_nil ?_
  refine Grow.wpGrow_call (BV 128) (BR x.toNat 128) rfl rfl (BV.some _) (fun w1 hB hG => ?_) (fun v1 A1 hv1 hA => ?_)
  · obtain ⟨n, rfl⟩ := hB
    go_simp
    refine (CO.out _).mono ?_
    rintro e w2 ⟨v, rfl, hv, hn⟩
    obtain ⟨hva, hvb⟩ := hv
    exact ⟨_, rfl, HSTEP.out _ _ hn, hva, hvb⟩
  simp [Act.put] at hA
  subst hA
  obtain ⟨a1, c1, rfl⟩ := hv1
  refine Grow.wpGrow_one (.agg #[.int .u64 0, .int .u64 0]) rfl rfl (fun w1 hB hG => ?_) (fun A2 hA => ?_)
  · obtain ⟨n, rfl⟩ := hB
    go_simp
    refine (CM.out _ _ _ hG.2.row).mono ?_
    rintro e w2 ⟨rfl, hn⟩
    first | exact ⟨_, rfl, HSTEP.out _ _ hn, rfl, hG.2.stay hn⟩ | exact ⟨rfl, HSTEP.out _ _ hn, hG.2.stay hn⟩
  simp [Act.put] at hA
  subst hA
  refine Grow.wpGrow_take 2 (by kernel_rfl) ?_
  simp only [List.take, List.drop, List.length]
  repeat (go_big_quiet_step (fail))
  refine wpQuiet_nil ?_
  refine Grow.wpGrow_nil ?_
  rintro w9 ⟨n9, rfl⟩ hG
  have HX5 := Lib.hid (HALL.out n9).1.1
  have HY5 := Lib.hid (HALL.out n9).1.2.1
  have HZ5 := Lib.hid (HALL.out n9).1.2.2.1
  have HI5 := Lib.hid (HALL.out n9).1.2.2.2
  have HN5 := Lib.hid (HN4.out.trans (HALL.out n9).2)
  clear HALL HSTEP s0 s1 t0 t1 z0 z1 i0 i1 hG HX4 HY4 HZ4 HI4 HN4
  have i0 := HI5.out.c0
  have i1 := HI5.out.c1
  rw [HI0.out] at i0
  rw [HI1.out] at i1
  have z0 := HZ5.out.c0
  have z1 := HZ5.out.c1
  generalize f n9 = w5 at *
  go_wp2
  go_ret
  exact ⟨rfl, HN5.out⟩
set_option maxHeartbeats 4000000 in
theorem inverts89_zero (W : World) (x y i mx my l : BitVec 128) (h1 : (mx == 0#128) = false) (h2 : (my == 0#128) = true)
    (CI : Hid (∀ w : World, Calls Try.prog 50 #[.agg #[.int .u64 (W64 (hi128 x)), .int .u64 (W64 (lo128 x))]] w fun e w' => e = .returned (.tuple #[.agg #[.int .u64 (W64 (hi128 i)), .int .u64 (W64 (lo128 i))], .bool true]) ∧ New w w'))
    (CO : Hid (∀ w : World, Calls Try.prog 43 #[.agg #[.int .u64 (W64 (hi128 x)), .int .u64 (W64 (lo128 x))]] w fun e w' => ∃ v, e = .returned v ∧ (BV 128 v ∧ BR x.toNat 128 v w') ∧ New w w'))
    (CM : Hid (∀ (w : World) (a : Option Addr) (c : Nat), ZRow w a 128 c (bitsOf x.toNat 128) → Calls Try.prog 42 #[.slice a 128 c] w fun e w' => e = .returned (.agg #[.int .u64 (W64 (hi128 mx)), .int .u64 (W64 (lo128 mx))]) ∧ New w w'))
    (CO2 : Hid (∀ w : World, Calls Try.prog 43 #[.agg #[.int .u64 (W64 (hi128 y)), .int .u64 (W64 (lo128 y))]] w fun e w' => ∃ v, e = .returned v ∧ (BV 128 v ∧ BR y.toNat 128 v w') ∧ New w w'))
    (CM2 : Hid (∀ (w : World) (a : Option Addr) (c : Nat), ZRow w a 128 c (bitsOf y.toNat 128) → Calls Try.prog 42 #[.slice a 128 c] w fun e w' => e = .returned (.agg #[.int .u64 (W64 (hi128 my)), .int .u64 (W64 (lo128 my))]) ∧ New w w'))
    (CT : Hid (∀ (w : World) (a : Option Addr) (c : Nat), ZRow w a 128 c (bitsOf 618970019642690137449562110 128) → Calls Try.prog 49 #[.slice a 128 c] w fun e w' => e = .returned (.agg #[.int .u64 (W64 (hi128 l)), .int .u64 (W64 (lo128 l))]) ∧ New w w'))
    (CS : Hid (∀ w : World, Calls Try.prog 44 #[.agg #[.int .u64 (W64 (hi128 i)), .int .u64 (W64 (lo128 i))]] w fun e w' => e = .returned (.bool true) ∧ New w w'))
    (CR1 : Hid (∀ w : World, Calls Try.prog 40 #[.agg #[.int .u64 (W64 (hi128 x)), .int .u64 (W64 (lo128 x))], .agg #[.int .u64 (W64 (hi128 i)), .int .u64 (W64 (lo128 i))]] w fun e w' => e = .returned (.agg #[.int .u64 0, .int .u64 1]) ∧ New w w'))
    (CP : Hid (∀ w : World, Calls Try.prog 45 #[.agg #[.int .u64 (W64 (hi128 x)), .int .u64 (W64 (lo128 x))], .agg #[.int .u64 (W64 (hi128 l)), .int .u64 (W64 (lo128 l))]] w fun e w' => e = .returned (.agg #[.int .u64 0, .int .u64 1]) ∧ New w w')) :
    Calls Try.prog 12 #[.agg #[.int .u64 (W64 (hi128 x)), .int .u64 (W64 (lo128 x))], .agg #[.int .u64 (W64 (hi128 y)), .int .u64 (W64 (lo128 y))]] W fun e w' => e = .returned (.bool true) ∧ Below W.heap.size W w' := by
  have heqx := fun w => equ_x w mx 0#128
  have heqy := fun w => equ_x w my 0#128
  have heq1 := fun w => equ_x w 1#128 1#128
  rw [zhi, zlo, h1] at heqx
  rw [zhi, zlo, h2] at heqy
  rw [ohi, olo, BEq.rfl] at heq1
  clear h1 h2
  go_enter Try.func12, Try.ntmps12
  go_wp2_with fail
  obtain ⟨h1, h2, h3⟩ := two_blocks W (.cells #[.int .u64 (W64 (hi128 x)), .int .u64 (W64 (lo128 x))] 35) (.cells #[.int .u64 (W64 (hi128 y)), .int .u64 (W64 (lo128 y))] 35)
  generalize (W.alloc (.cells #[.int .u64 (W64 (hi128 x)), .int .u64 (W64 (lo128 x))] 35)).alloc (.cells #[.int .u64 (W64 (hi128 y)), .int .u64 (W64 (lo128 y))] 35) = w0 at h1 h2 h3 ⊢
  refine (awake05 _).mono ?_
  rintro e w ⟨rfl, hn1⟩
  have hx := (show B2 _ _ _ x from h1).stay hn1
  have hy := (show B2 _ _ _ y from h2).stay hn1
  have HN := Lib.hid (h3.trans hn1)
  clear h1 h2 h3 hn1
  have hB := heap_alloc_new w (.cells #[.int .u64 0, .int .u64 0] 35)
  have hn2 := (New.refl w).alloc (.cells #[.int .u64 0, .int .u64 0] 35)
  have x0 := (hx.stay hn2).c0
  have x1 := (hx.stay hn2).c1
  have HX := Lib.hid (hx.stay hn2)
  have HY := Lib.hid (hy.stay hn2)
  have HNA := Lib.hid (HN.out.trans hn2)
  clear hx hy HN hn2
  go_wp2_with fail
  generalize w.heap.size = g5 at *
  generalize w.alloc (.cells #[.int .u64 0, .int .u64 0] 35) = w2 at *
  refine (CI.out _).mono ?_
  rintro e w3 ⟨rfl, hn3⟩
  have hB2 := heap_alloc_new w3 (.cells #[.int .u64 (W64 (hi128 i)), .int .u64 (W64 (lo128 i))] 35)
  have hn4 := hn3.alloc (.cells #[.int .u64 (W64 (hi128 i)), .int .u64 (W64 (lo128 i))] 35)
  have HX4 := Lib.hid (HX.out.stay hn4)
  have HY4 := Lib.hid (HY.out.stay hn4)
  have HZ4 := Lib.hid ((show Z2 _ _ _ from hB).stay hn4)
  have HN4 := Lib.hid (HNA.out.trans hn4)
  clear hB hn3 hn4 x0 x1 HX HY HNA
  go_wp2_with fail
  generalize w3.heap.size = g6 at *
  generalize w3.alloc (.cells #[.int .u64 (W64 (hi128 i)), .int .u64 (W64 (lo128 i))] 35) = w4 at *
  have HI4 := Lib.hid (show B2 _ _ _ i from hB2)
  clear hB2
  refine Grow.wp_region_growS (fun w' => (B2 w' W.heap.size 35 x ∧ B2 w' (W.heap.size + 1) 35 y ∧ Z2 w' g5 35 ∧ B2 w' g6 35 i) ∧ New w4 w') (fun k => [1, 2].contains k) (by kernel_rfl) (by kernel_rfl) (by kernel_rfl) ⟨⟨HX4.out.stay (New.refl _).drew, HY4.out.stay (New.refl _).drew, HZ4.out.stay (New.refl _).drew, HI4.out.stay (New.refl _).drew⟩, (New.refl _).drew⟩ ?_
  intro I _ f hall hback
  have HALL := Lib.hid hall
  have HSTEP : Hid (∀ n w', New (f n) w' → ∃ m, w' = f m) := Lib.hid fun n w' hn => hback w' ⟨⟨(hall n).1.1.stay hn, (hall n).1.2.1.stay hn, (hall n).1.2.2.1.stay hn, (hall n).1.2.2.2.stay hn⟩, (hall n).2.trans hn⟩
  have s0 := fun n => (hall n).1.1.c0
  have s1 := fun n => (hall n).1.1.c1
  have t0 := fun n => (hall n).1.2.1.c0
  have t1 := fun n => (hall n).1.2.1.c1
  have z0 := fun n => (hall n).1.2.2.1.c0
  have z1 := fun n => (hall n).1.2.2.1.c1
  have i0 := fun n => (hall n).1.2.2.2.c0
  have i1 := fun n => (hall n).1.2.2.2.c1
  clear hall hback
  refine Grow.wpGrow_take 1 (by kernel_rfl) ?_
  simp only [List.take, List.drop, List.length]
  repeat (go_big_quiet_step (fail))
  refine wpQuiet_nil ?_
  refine Grow.wpGrow_call (BV 128) (BR x.toNat 128) rfl rfl (BV.some _) (fun w1 hB hG => ?_) (fun v1 A1 hv1 hA => ?_)
  · obtain ⟨n, rfl⟩ := hB
    go_simp
    refine (CO.out _).mono ?_
    rintro e w2 ⟨v, rfl, hv, hn⟩
    obtain ⟨hva, hvb⟩ := hv
    exact ⟨_, rfl, HSTEP.out _ _ hn, hva, hvb⟩
  simp [Act.put] at hA
  subst hA
  obtain ⟨a1, c1, rfl⟩ := hv1
  refine Grow.wpGrow_one (.agg #[.int .u64 (W64 (hi128 mx)), .int .u64 (W64 (lo128 mx))]) rfl rfl (fun w1 hB hG => ?_) (fun A2 hA => ?_)
  · obtain ⟨n, rfl⟩ := hB
    go_simp
    refine (CM.out _ _ _ hG.2.row).mono ?_
    rintro e w2 ⟨rfl, hn⟩
    first | exact ⟨_, rfl, HSTEP.out _ _ hn, rfl, hG.2.stay hn⟩ | exact ⟨rfl, HSTEP.out _ _ hn, hG.2.stay hn⟩
  simp [Act.put] at hA
  subst hA
  refine Grow.wpGrow_take 2 (by kernel_rfl) ?_
  simp only [List.take, List.drop, List.length]
  repeat (go_big_quiet_step (fail))
  refine wpQuiet_nil ?_
  refine Grow.wpGrow_nil ?_
  rintro w9 ⟨n9, rfl⟩ hG
  have HX5 := Lib.hid (HALL.out n9).1.1
  have HY5 := Lib.hid (HALL.out n9).1.2.1
  have HZ5 := Lib.hid (HALL.out n9).1.2.2.1
  have HI5 := Lib.hid (HALL.out n9).1.2.2.2
  have HN5 := Lib.hid (HN4.out.trans (HALL.out n9).2)
  clear HALL HSTEP s0 s1 t0 t1 z0 z1 i0 i1 hG HX4 HY4 HZ4 HI4 HN4
  generalize f n9 = w5 at *
  go_wp2_with fail
  refine (rp_g _).mono ?_
  rintro e w6 ⟨v6, rfl, ⟨⟨a6, c6, rfl⟩, hr6⟩, hn6⟩
  go_wp2_with fail
  refine (one_g _).mono ?_
  rintro e w7 ⟨v7, rfl, ⟨⟨a7, c7, rfl⟩, hr7⟩, hn7⟩
  go_wp2_with fail
  refine (less_g _ _ _ _ _ (hr6.row.stay hn7) hr7.row).mono ?_
  rintro e w8 ⟨v8, rfl, ⟨⟨a8, c8, k8, rfl⟩, hr8⟩, hn8⟩
  have hn58 := (hn6.trans hn7).trans hn8
  have HX4 := Lib.hid (HX5.out.stay hn58)
  have HY4 := Lib.hid (HY5.out.stay hn58)
  have HZ4 := Lib.hid (HZ5.out.stay hn58)
  have HI4 := Lib.hid (HI5.out.stay hn58)
  have HN8 := Lib.hid (HN5.out.trans hn58)
  have HR8 := Lib.hid hr8.row
  clear hn6 hn7 hn8 hn58 hr6 hr7 hr8 HX5 HY5 HZ5 HI5 HN5
  go_wp2_with fail
  refine Grow.wp_region_growS (fun w' => (B2 w' W.heap.size 35 x ∧ B2 w' (W.heap.size + 1) 35 y ∧ Z2 w' g5 35 ∧ B2 w' g6 35 i ∧ ZRow w' a8 128 c8 (bitsOf 618970019642690137449562110 128)) ∧ New w8 w') (fun k => [1, 2].contains k) (by kernel_rfl) (by kernel_rfl) (by kernel_rfl) ⟨⟨HX4.out.stay (New.refl _).drew, HY4.out.stay (New.refl _).drew, HZ4.out.stay (New.refl _).drew, HI4.out.stay (New.refl _).drew, HR8.out.stay (New.refl _).drew⟩, (New.refl _).drew⟩ ?_
  intro I _ f hall hback
  have HALL := Lib.hid hall
  have HSTEP : Hid (∀ n w', New (f n) w' → ∃ m, w' = f m) := Lib.hid fun n w' hn => hback w' ⟨⟨(hall n).1.1.stay hn, (hall n).1.2.1.stay hn, (hall n).1.2.2.1.stay hn, (hall n).1.2.2.2.1.stay hn, (hall n).1.2.2.2.2.stay hn⟩, (hall n).2.trans hn⟩
  have s0 := fun n => (hall n).1.1.c0
  have s1 := fun n => (hall n).1.1.c1
  have t0 := fun n => (hall n).1.2.1.c0
  have t1 := fun n => (hall n).1.2.1.c1
  have z0 := fun n => (hall n).1.2.2.1.c0
  have z1 := fun n => (hall n).1.2.2.1.c1
  have i0 := fun n => (hall n).1.2.2.2.1.c0
  have i1 := fun n => (hall n).1.2.2.2.1.c1
  clear hall hback
  refine Grow.wpGrow_take 1 (by kernel_rfl) ?_
  simp only [List.take, List.drop, List.length]
  repeat (go_big_quiet_step (fail))
  refine wpQuiet_nil ?_
  refine Grow.wpGrow_call (BV 128) (BR y.toNat 128) rfl rfl (BV.some _) (fun w1 hB hG => ?_) (fun v1 A1 hv1 hA => ?_)
  · obtain ⟨n, rfl⟩ := hB
    go_simp
    refine (CO2.out _).mono ?_
    rintro e w2 ⟨v, rfl, hv, hn⟩
    obtain ⟨hva, hvb⟩ := hv
    exact ⟨_, rfl, HSTEP.out _ _ hn, hva, hvb⟩
  simp [Act.put] at hA
  subst hA
  obtain ⟨a4, c4, rfl⟩ := hv1
  refine Grow.wpGrow_one (.agg #[.int .u64 (W64 (hi128 my)), .int .u64 (W64 (lo128 my))]) rfl rfl (fun w1 hB hG => ?_) (fun A2 hA => ?_)
  · obtain ⟨n, rfl⟩ := hB
    go_simp
    refine (CM2.out _ _ _ hG.2.row).mono ?_
    rintro e w2 ⟨rfl, hn⟩
    first | exact ⟨_, rfl, HSTEP.out _ _ hn, rfl, hG.2.stay hn⟩ | exact ⟨rfl, HSTEP.out _ _ hn, hG.2.stay hn⟩
  simp [Act.put] at hA
  subst hA
  refine Grow.wpGrow_take 3 (by kernel_rfl) ?_
  simp only [List.take, List.drop, List.length]
  repeat (go_big_quiet_step (fail))
  refine wpQuiet_nil ?_
  refine Grow.wpGrow_nil ?_
  rintro w9 ⟨n9, rfl⟩ hG
  have HX5 := Lib.hid (HALL.out n9).1.1
  have HY5 := Lib.hid (HALL.out n9).1.2.1
  have HZ5 := Lib.hid (HALL.out n9).1.2.2.1
  have HI5 := Lib.hid (HALL.out n9).1.2.2.2.1
  have HR9 := Lib.hid (HALL.out n9).1.2.2.2.2
  have HN5 := Lib.hid (HN8.out.trans (HALL.out n9).2)
  clear HALL HSTEP s0 s1 t0 t1 z0 z1 i0 i1 hG HX4 HY4 HZ4 HI4 HN8 HR8
  generalize f n9 = w9b at *
  go_wp2_with fail
  refine wp_region_class (fun w' => (B2 w' W.heap.size 35 x ∧ B2 w' (W.heap.size + 1) 35 y ∧ Z2 w' g5 35 ∧ B2 w' g6 35 i ∧ ZRow w' a8 128 c8 (bitsOf 618970019642690137449562110 128)) ∧ New w9b w') (by kernel_rfl) (by kernel_rfl) ⟨⟨HX5.out.stay (New.refl _).drew, HY5.out.stay (New.refl _).drew, HZ5.out.stay (New.refl _).drew, HI5.out.stay (New.refl _).drew, HR9.out.stay (New.refl _).drew⟩, (New.refl _).drew⟩ ?_
  intro I _ f hall hback
  have HSTEP : Hid (∀ n w', New (f n) w' → ∃ m, w' = f m) := Lib.hid fun n w' hn => hback w' ⟨⟨(hall n).1.1.stay hn, (hall n).1.2.1.stay hn, (hall n).1.2.2.1.stay hn, (hall n).1.2.2.2.1.stay hn, (hall n).1.2.2.2.2.stay hn⟩, (hall n).2.trans hn⟩
  have HALL := Lib.hid hall
  have s0 := fun n => (hall n).1.1.c0
  have s1 := fun n => (hall n).1.1.c1
  have t0 := fun n => (hall n).1.2.1.c0
  have t1 := fun n => (hall n).1.2.1.c1
  have z0 := fun n => (hall n).1.2.2.1.c0
  have z1 := fun n => (hall n).1.2.2.1.c1
  have i0 := fun n => (hall n).1.2.2.2.1.c0
  have i1 := fun n => (hall n).1.2.2.2.1.c1
  clear hall hback
  repeat (go_big_quiet_step (first
    | (go_at_call 44; refine class_new HSTEP.out (CS.out _))
    | (go_at_call 40; refine class_new HSTEP.out (CR1.out _))
    | (go_at_call 49; refine class_new HSTEP.out (CT.out _ _ _ (HALL.out _).1.2.2.2.2))
    | (go_at_call 45; refine class_new HSTEP.out (CP.out _))))
  refine wpQuiet_nil ?_
  rintro w8 ⟨n1, hw1⟩
  have hS := HN5.out.trans (HALL.out n1).2
  rw [← hw1] at hS
  clear HALL HSTEP hw1 s0 s1 t0 t1 z0 z1 i0 i1
  go_wp2
  go_ret
  exact ⟨rfl, hS⟩
set_option maxHeartbeats 4000000 in
theorem inverts89_more (W : World) (x y i mx my l xy : BitVec 128) (h1 : (mx == 0#128) = false) (h2 : (my == 0#128) = false) (h3 : (xy == 0#128) = false)
    (CI : Hid (∀ w : World, Calls Try.prog 50 #[.agg #[.int .u64 (W64 (hi128 x)), .int .u64 (W64 (lo128 x))]] w fun e w' => e = .returned (.tuple #[.agg #[.int .u64 (W64 (hi128 i)), .int .u64 (W64 (lo128 i))], .bool true]) ∧ New w w'))
    (CO : Hid (∀ w : World, Calls Try.prog 43 #[.agg #[.int .u64 (W64 (hi128 x)), .int .u64 (W64 (lo128 x))]] w fun e w' => ∃ v, e = .returned v ∧ (BV 128 v ∧ BR x.toNat 128 v w') ∧ New w w'))
    (CM : Hid (∀ (w : World) (a : Option Addr) (c : Nat), ZRow w a 128 c (bitsOf x.toNat 128) → Calls Try.prog 42 #[.slice a 128 c] w fun e w' => e = .returned (.agg #[.int .u64 (W64 (hi128 mx)), .int .u64 (W64 (lo128 mx))]) ∧ New w w'))
    (CO2 : Hid (∀ w : World, Calls Try.prog 43 #[.agg #[.int .u64 (W64 (hi128 y)), .int .u64 (W64 (lo128 y))]] w fun e w' => ∃ v, e = .returned v ∧ (BV 128 v ∧ BR y.toNat 128 v w') ∧ New w w'))
    (CM2 : Hid (∀ (w : World) (a : Option Addr) (c : Nat), ZRow w a 128 c (bitsOf y.toNat 128) → Calls Try.prog 42 #[.slice a 128 c] w fun e w' => e = .returned (.agg #[.int .u64 (W64 (hi128 my)), .int .u64 (W64 (lo128 my))]) ∧ New w w'))
    (CT : Hid (∀ (w : World) (a : Option Addr) (c : Nat), ZRow w a 128 c (bitsOf 618970019642690137449562110 128) → Calls Try.prog 49 #[.slice a 128 c] w fun e w' => e = .returned (.agg #[.int .u64 (W64 (hi128 l)), .int .u64 (W64 (lo128 l))]) ∧ New w w'))
    (CS : Hid (∀ w : World, Calls Try.prog 44 #[.agg #[.int .u64 (W64 (hi128 i)), .int .u64 (W64 (lo128 i))]] w fun e w' => e = .returned (.bool true) ∧ New w w'))
    (CR1 : Hid (∀ w : World, Calls Try.prog 40 #[.agg #[.int .u64 (W64 (hi128 x)), .int .u64 (W64 (lo128 x))], .agg #[.int .u64 (W64 (hi128 i)), .int .u64 (W64 (lo128 i))]] w fun e w' => e = .returned (.agg #[.int .u64 0, .int .u64 1]) ∧ New w w'))
    (CP : Hid (∀ w : World, Calls Try.prog 45 #[.agg #[.int .u64 (W64 (hi128 x)), .int .u64 (W64 (lo128 x))], .agg #[.int .u64 (W64 (hi128 l)), .int .u64 (W64 (lo128 l))]] w fun e w' => e = .returned (.agg #[.int .u64 0, .int .u64 1]) ∧ New w w'))
    (CU : Hid (∀ w : World, Calls Try.prog 39 #[.agg #[.int .u64 (W64 (hi128 x)), .int .u64 (W64 (lo128 x))], .agg #[.int .u64 (W64 (hi128 y)), .int .u64 (W64 (lo128 y))]] w fun e w' => e = .returned (.agg #[.int .u64 (W64 (hi128 xy)), .int .u64 (W64 (lo128 xy))]) ∧ New w w')) :
    Calls Try.prog 12 #[.agg #[.int .u64 (W64 (hi128 x)), .int .u64 (W64 (lo128 x))], .agg #[.int .u64 (W64 (hi128 y)), .int .u64 (W64 (lo128 y))]] W fun e w' => e = .returned (.bool true) ∧ Below W.heap.size W w' := by
  have heqx := fun w => equ_x w mx 0#128
  have heqy := fun w => equ_x w my 0#128
  have heq1 := fun w => equ_x w 1#128 1#128
  rw [zhi, zlo, h1] at heqx
  rw [zhi, zlo, h2] at heqy
  rw [ohi, olo, BEq.rfl] at heq1
  have heqxy := fun w => equ_x w xy 0#128
  rw [zhi, zlo, h3] at heqxy
  clear h3
  clear h1 h2
  go_enter Try.func12, Try.ntmps12
  go_wp2_with fail
  obtain ⟨h1, h2, h3⟩ := two_blocks W (.cells #[.int .u64 (W64 (hi128 x)), .int .u64 (W64 (lo128 x))] 35) (.cells #[.int .u64 (W64 (hi128 y)), .int .u64 (W64 (lo128 y))] 35)
  generalize (W.alloc (.cells #[.int .u64 (W64 (hi128 x)), .int .u64 (W64 (lo128 x))] 35)).alloc (.cells #[.int .u64 (W64 (hi128 y)), .int .u64 (W64 (lo128 y))] 35) = w0 at h1 h2 h3 ⊢
  refine (awake05 _).mono ?_
  rintro e w ⟨rfl, hn1⟩
  have hx := (show B2 _ _ _ x from h1).stay hn1
  have hy := (show B2 _ _ _ y from h2).stay hn1
  have HN := Lib.hid (h3.trans hn1)
  clear h1 h2 h3 hn1
  have hB := heap_alloc_new w (.cells #[.int .u64 0, .int .u64 0] 35)
  have hn2 := (New.refl w).alloc (.cells #[.int .u64 0, .int .u64 0] 35)
  have x0 := (hx.stay hn2).c0
  have x1 := (hx.stay hn2).c1
  have HX := Lib.hid (hx.stay hn2)
  have HY := Lib.hid (hy.stay hn2)
  have HNA := Lib.hid (HN.out.trans hn2)
  clear hx hy HN hn2
  go_wp2_with fail
  generalize w.heap.size = g5 at *
  generalize w.alloc (.cells #[.int .u64 0, .int .u64 0] 35) = w2 at *
  refine (CI.out _).mono ?_
  rintro e w3 ⟨rfl, hn3⟩
  have hB2 := heap_alloc_new w3 (.cells #[.int .u64 (W64 (hi128 i)), .int .u64 (W64 (lo128 i))] 35)
  have hn4 := hn3.alloc (.cells #[.int .u64 (W64 (hi128 i)), .int .u64 (W64 (lo128 i))] 35)
  have HX4 := Lib.hid (HX.out.stay hn4)
  have HY4 := Lib.hid (HY.out.stay hn4)
  have HZ4 := Lib.hid ((show Z2 _ _ _ from hB).stay hn4)
  have HN4 := Lib.hid (HNA.out.trans hn4)
  clear hB hn3 hn4 x0 x1 HX HY HNA
  go_wp2_with fail
  generalize w3.heap.size = g6 at *
  generalize w3.alloc (.cells #[.int .u64 (W64 (hi128 i)), .int .u64 (W64 (lo128 i))] 35) = w4 at *
  have HI4 := Lib.hid (show B2 _ _ _ i from hB2)
  clear hB2
  refine Grow.wp_region_growS (fun w' => (B2 w' W.heap.size 35 x ∧ B2 w' (W.heap.size + 1) 35 y ∧ Z2 w' g5 35 ∧ B2 w' g6 35 i) ∧ New w4 w') (fun k => [1, 2].contains k) (by kernel_rfl) (by kernel_rfl) (by kernel_rfl) ⟨⟨HX4.out.stay (New.refl _).drew, HY4.out.stay (New.refl _).drew, HZ4.out.stay (New.refl _).drew, HI4.out.stay (New.refl _).drew⟩, (New.refl _).drew⟩ ?_
  intro I _ f hall hback
  have HALL := Lib.hid hall
  have HSTEP : Hid (∀ n w', New (f n) w' → ∃ m, w' = f m) := Lib.hid fun n w' hn => hback w' ⟨⟨(hall n).1.1.stay hn, (hall n).1.2.1.stay hn, (hall n).1.2.2.1.stay hn, (hall n).1.2.2.2.stay hn⟩, (hall n).2.trans hn⟩
  have s0 := fun n => (hall n).1.1.c0
  have s1 := fun n => (hall n).1.1.c1
  have t0 := fun n => (hall n).1.2.1.c0
  have t1 := fun n => (hall n).1.2.1.c1
  have z0 := fun n => (hall n).1.2.2.1.c0
  have z1 := fun n => (hall n).1.2.2.1.c1
  have i0 := fun n => (hall n).1.2.2.2.c0
  have i1 := fun n => (hall n).1.2.2.2.c1
  clear hall hback
  refine Grow.wpGrow_take 1 (by kernel_rfl) ?_
  simp only [List.take, List.drop, List.length]
  repeat (go_big_quiet_step (fail))
  refine wpQuiet_nil ?_
  refine Grow.wpGrow_call (BV 128) (BR x.toNat 128) rfl rfl (BV.some _) (fun w1 hB hG => ?_) (fun v1 A1 hv1 hA => ?_)
  · obtain ⟨n, rfl⟩ := hB
    go_simp
    refine (CO.out _).mono ?_
    rintro e w2 ⟨v, rfl, hv, hn⟩
    obtain ⟨hva, hvb⟩ := hv
    exact ⟨_, rfl, HSTEP.out _ _ hn, hva, hvb⟩
  simp [Act.put] at hA
  subst hA
  obtain ⟨a1, c1, rfl⟩ := hv1
  refine Grow.wpGrow_one (.agg #[.int .u64 (W64 (hi128 mx)), .int .u64 (W64 (lo128 mx))]) rfl rfl (fun w1 hB hG => ?_) (fun A2 hA => ?_)
  · obtain ⟨n, rfl⟩ := hB
    go_simp
    refine (CM.out _ _ _ hG.2.row).mono ?_
    rintro e w2 ⟨rfl, hn⟩
    first | exact ⟨_, rfl, HSTEP.out _ _ hn, rfl, hG.2.stay hn⟩ | exact ⟨rfl, HSTEP.out _ _ hn, hG.2.stay hn⟩
  simp [Act.put] at hA
  subst hA
  refine Grow.wpGrow_take 2 (by kernel_rfl) ?_
  simp only [List.take, List.drop, List.length]
  repeat (go_big_quiet_step (fail))
  refine wpQuiet_nil ?_
  refine Grow.wpGrow_nil ?_
  rintro w9 ⟨n9, rfl⟩ hG
  have HX5 := Lib.hid (HALL.out n9).1.1
  have HY5 := Lib.hid (HALL.out n9).1.2.1
  have HZ5 := Lib.hid (HALL.out n9).1.2.2.1
  have HI5 := Lib.hid (HALL.out n9).1.2.2.2
  have HN5 := Lib.hid (HN4.out.trans (HALL.out n9).2)
  clear HALL HSTEP s0 s1 t0 t1 z0 z1 i0 i1 hG HX4 HY4 HZ4 HI4 HN4
  generalize f n9 = w5 at *
  go_wp2_with fail
  refine (rp_g _).mono ?_
  rintro e w6 ⟨v6, rfl, ⟨⟨a6, c6, rfl⟩, hr6⟩, hn6⟩
  go_wp2_with fail
  refine (one_g _).mono ?_
  rintro e w7 ⟨v7, rfl, ⟨⟨a7, c7, rfl⟩, hr7⟩, hn7⟩
  go_wp2_with fail
  refine (less_g _ _ _ _ _ (hr6.row.stay hn7) hr7.row).mono ?_
  rintro e w8 ⟨v8, rfl, ⟨⟨a8, c8, k8, rfl⟩, hr8⟩, hn8⟩
  have hn58 := (hn6.trans hn7).trans hn8
  have HX4 := Lib.hid (HX5.out.stay hn58)
  have HY4 := Lib.hid (HY5.out.stay hn58)
  have HZ4 := Lib.hid (HZ5.out.stay hn58)
  have HI4 := Lib.hid (HI5.out.stay hn58)
  have HN8 := Lib.hid (HN5.out.trans hn58)
  have HR8 := Lib.hid hr8.row
  clear hn6 hn7 hn8 hn58 hr6 hr7 hr8 HX5 HY5 HZ5 HI5 HN5
  go_wp2_with fail
  refine Grow.wp_region_growS (fun w' => (B2 w' W.heap.size 35 x ∧ B2 w' (W.heap.size + 1) 35 y ∧ Z2 w' g5 35 ∧ B2 w' g6 35 i ∧ ZRow w' a8 128 c8 (bitsOf 618970019642690137449562110 128)) ∧ New w8 w') (fun k => [1, 2].contains k) (by kernel_rfl) (by kernel_rfl) (by kernel_rfl) ⟨⟨HX4.out.stay (New.refl _).drew, HY4.out.stay (New.refl _).drew, HZ4.out.stay (New.refl _).drew, HI4.out.stay (New.refl _).drew, HR8.out.stay (New.refl _).drew⟩, (New.refl _).drew⟩ ?_
  intro I _ f hall hback
  have HALL := Lib.hid hall
  have HSTEP : Hid (∀ n w', New (f n) w' → ∃ m, w' = f m) := Lib.hid fun n w' hn => hback w' ⟨⟨(hall n).1.1.stay hn, (hall n).1.2.1.stay hn, (hall n).1.2.2.1.stay hn, (hall n).1.2.2.2.1.stay hn, (hall n).1.2.2.2.2.stay hn⟩, (hall n).2.trans hn⟩
  have s0 := fun n => (hall n).1.1.c0
  have s1 := fun n => (hall n).1.1.c1
  have t0 := fun n => (hall n).1.2.1.c0
  have t1 := fun n => (hall n).1.2.1.c1
  have z0 := fun n => (hall n).1.2.2.1.c0
  have z1 := fun n => (hall n).1.2.2.1.c1
  have i0 := fun n => (hall n).1.2.2.2.1.c0
  have i1 := fun n => (hall n).1.2.2.2.1.c1
  clear hall hback
  refine Grow.wpGrow_take 1 (by kernel_rfl) ?_
  simp only [List.take, List.drop, List.length]
  repeat (go_big_quiet_step (fail))
  refine wpQuiet_nil ?_
  refine Grow.wpGrow_call (BV 128) (BR y.toNat 128) rfl rfl (BV.some _) (fun w1 hB hG => ?_) (fun v1 A1 hv1 hA => ?_)
  · obtain ⟨n, rfl⟩ := hB
    go_simp
    refine (CO2.out _).mono ?_
    rintro e w2 ⟨v, rfl, hv, hn⟩
    obtain ⟨hva, hvb⟩ := hv
    exact ⟨_, rfl, HSTEP.out _ _ hn, hva, hvb⟩
  simp [Act.put] at hA
  subst hA
  obtain ⟨a4, c4, rfl⟩ := hv1
  refine Grow.wpGrow_one (.agg #[.int .u64 (W64 (hi128 my)), .int .u64 (W64 (lo128 my))]) rfl rfl (fun w1 hB hG => ?_) (fun A2 hA => ?_)
  · obtain ⟨n, rfl⟩ := hB
    go_simp
    refine (CM2.out _ _ _ hG.2.row).mono ?_
    rintro e w2 ⟨rfl, hn⟩
    first | exact ⟨_, rfl, HSTEP.out _ _ hn, rfl, hG.2.stay hn⟩ | exact ⟨rfl, HSTEP.out _ _ hn, hG.2.stay hn⟩
  simp [Act.put] at hA
  subst hA
  refine Grow.wpGrow_take 3 (by kernel_rfl) ?_
  simp only [List.take, List.drop, List.length]
  repeat (go_big_quiet_step (fail))
  refine wpQuiet_nil ?_
  refine Grow.wpGrow_nil ?_
  rintro w9 ⟨n9, rfl⟩ hG
  have HX5 := Lib.hid (HALL.out n9).1.1
  have HY5 := Lib.hid (HALL.out n9).1.2.1
  have HZ5 := Lib.hid (HALL.out n9).1.2.2.1
  have HI5 := Lib.hid (HALL.out n9).1.2.2.2.1
  have HR9 := Lib.hid (HALL.out n9).1.2.2.2.2
  have HN5 := Lib.hid (HN8.out.trans (HALL.out n9).2)
  clear HALL HSTEP s0 s1 t0 t1 z0 z1 i0 i1 hG HX4 HY4 HZ4 HI4 HN8 HR8
  generalize f n9 = w9b at *
  go_wp2_with fail
  refine wp_region_class (fun w' => (B2 w' W.heap.size 35 x ∧ B2 w' (W.heap.size + 1) 35 y ∧ Z2 w' g5 35 ∧ B2 w' g6 35 i ∧ ZRow w' a8 128 c8 (bitsOf 618970019642690137449562110 128)) ∧ New w9b w') (by kernel_rfl) (by kernel_rfl) ⟨⟨HX5.out.stay (New.refl _).drew, HY5.out.stay (New.refl _).drew, HZ5.out.stay (New.refl _).drew, HI5.out.stay (New.refl _).drew, HR9.out.stay (New.refl _).drew⟩, (New.refl _).drew⟩ ?_
  intro I _ f hall hback
  have HSTEP : Hid (∀ n w', New (f n) w' → ∃ m, w' = f m) := Lib.hid fun n w' hn => hback w' ⟨⟨(hall n).1.1.stay hn, (hall n).1.2.1.stay hn, (hall n).1.2.2.1.stay hn, (hall n).1.2.2.2.1.stay hn, (hall n).1.2.2.2.2.stay hn⟩, (hall n).2.trans hn⟩
  have HALL := Lib.hid hall
  have s0 := fun n => (hall n).1.1.c0
  have s1 := fun n => (hall n).1.1.c1
  have t0 := fun n => (hall n).1.2.1.c0
  have t1 := fun n => (hall n).1.2.1.c1
  have z0 := fun n => (hall n).1.2.2.1.c0
  have z1 := fun n => (hall n).1.2.2.1.c1
  have i0 := fun n => (hall n).1.2.2.2.1.c0
  have i1 := fun n => (hall n).1.2.2.2.1.c1
  clear hall hback
  repeat (go_big_quiet_step (first
    | (go_at_call 44; refine class_new HSTEP.out (CS.out _))
    | (go_at_call 40; refine class_new HSTEP.out (CR1.out _))
    | (go_at_call 49; refine class_new HSTEP.out (CT.out _ _ _ (HALL.out _).1.2.2.2.2))
    | (go_at_call 45; refine class_new HSTEP.out (CP.out _))
    | (go_at_call 39; refine class_new HSTEP.out (CU.out _))))
  refine wpQuiet_nil ?_
  rintro w8 ⟨n1, hw1⟩
  have hS := HN5.out.trans (HALL.out n1).2
  rw [← hw1] at hS
  clear HALL HSTEP hw1 s0 s1 t0 t1 z0 z1 i0 i1
  go_wp2
  go_ret
  exact ⟨rfl, hS⟩
theorem Mers89Inverts_walk (W : World) (x0_0 : BitVec 64) (x0_1 : BitVec 64) (x1_0 : BitVec 64) (x1_1 : BitVec 64) :
    Calls Try.prog 12 #[.agg #[.int .u64 (W64 x0_0), .int .u64 (W64 x0_1)], .agg #[.int .u64 (W64 x1_0), .int .u64 (W64 x1_1)]] W fun e w' => e = .returned (.bool true) ∧ Below W.heap.size W w' := by
  obtain ⟨x, hx⟩ : ∃ s, join128 x0_0 x0_1 = s := ⟨_, rfl⟩
  obtain ⟨y, hy⟩ : ∃ s, join128 x1_0 x1_1 = s := ⟨_, rfl⟩
  suffices h : Calls Try.prog 12 #[.agg #[.int .u64 (W64 (hi128 x)), .int .u64 (W64 (lo128 x))], .agg #[.int .u64 (W64 (hi128 y)), .int .u64 (W64 (lo128 y))]] W fun e w' => e = .returned (.bool true) ∧ Below W.heap.size W w' by
    rw [← hx, ← hy] at h
    simp only [hi_join, lo_join] at h
    exact h
  have ci := fun w => inv_89 x w
  have cm := fun w a c h => rmod_89 x.toNat 128 c 128 a (by omega) (by omega) (by omega) w h x.isLt
  have cm2 := fun w a c h => rmod_89 y.toNat 128 c 128 a (by omega) (by omega) (by omega) w h y.isLt
  by_cases h0 : m89 x.toNat = 0#128
  · simp only [if_pos h0] at ci
    rw [show (m89 x.toNat != 0#128) = false by rw [h0]; rfl] at ci
    simp only [h0, zhi, zlo] at cm
    exact inverts89_none W x y 0#128 zhi zlo (Lib.hid ci) (Lib.hid fun w => of2_g x w) (Lib.hid cm)
  · simp only [if_neg h0] at ci
    rw [show (m89 x.toNat != 0#128) = true by rw [bne_iff_ne]; exact h0] at ci
    have h1 : (m89 x.toNat == 0#128) = false := beq_false_of_ne h0
    have hinv := inv_one x h0 618970019642690137449562109 (by decide +kernel)
    have hfer := fermat_one x h0 618970019642690137449562110 (by decide +kernel)
    have cis := fun w => is_89 (m89 (x.toNat ^ 618970019642690137449562109)) w
    have cr := fun w => rmul_89 x (m89 (x.toNat ^ 618970019642690137449562109)) w
    have cp := fun w => pow_89 x (BitVec.ofNat 128 618970019642690137449562110) w
    rw [decide_eq_true (m89_lt _)] at cis
    rw [hinv, ohi, olo] at cr
    rw [less_nat, hfer, ohi, olo] at cp
    have cu := fun w => mul_89 x y w
    have hmn := mul_not x y h0
    obtain ⟨i, hi⟩ : ∃ i, m89 (x.toNat ^ 618970019642690137449562109) = i := ⟨_, rfl⟩
    rw [hi] at cis cr
    simp only [hi] at ci
    have ct := fun w a c h => to2_g 618970019642690137449562110 _ rfl (by omega) a c w h
    by_cases h2 : m89 y.toNat = 0#128
    · exact inverts89_zero W x y i _ _ _ h1 (by rw [h2]; rfl) (Lib.hid ci) (Lib.hid fun w => of2_g x w) (Lib.hid cm) (Lib.hid fun w => of2_g y w) (Lib.hid cm2) (Lib.hid ct) (Lib.hid cis) (Lib.hid cr) (Lib.hid cp)
    · exact inverts89_more W x y i _ _ _ _ h1 (beq_false_of_ne h2) (beq_false_of_ne (hmn h2)) (Lib.hid ci) (Lib.hid fun w => of2_g x w) (Lib.hid cm) (Lib.hid fun w => of2_g y w) (Lib.hid cm2) (Lib.hid ct) (Lib.hid cis) (Lib.hid cr) (Lib.hid cp) (Lib.hid cu)
end Go.Proofs.Ytadaaihbeapibaa
