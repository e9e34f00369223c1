/- The statement GensGoes: for every state and every number. -/
import Derived.Test.YtfaobdmoifnglaaGreatGsY
import Derived.Test.YtfaobdmoifnglaaGreatWords
import Derived.Test.YtfaobdmoifnglaaGreatClass
namespace Go.Proofs.YtfaobdmoifnglaaGreat
open Go.RowKit Go.Bv
set_option linter.unusedVariables false
set_option maxRecDepth 100000
set_option maxHeartbeats 4000000 in
theorem goes_bad (W : World) (k : Int) (q : W4) (n : Int) (hn60 : ¬ 60 < n) (hk : ¬ chkK k q = 0) :
    Calls Tryz.prog 5 #[.agg (stc k q), .int .i64 n] W fun e w' => e = .returned (.bool true) ∧ Below W.heap.size W w' := by
  have HNX := Lib.hid (fun w => next_no k q hk w)
  have HST := Lib.hid (fun w => step_no k q hk w)
  have HWD := Lib.hid (fun w => words_no k q n hk w)
  have HRC := Lib.hid (fun w => rcheck_any k q w)
  have hq := eqSt_zero
  obtain ⟨c, hc⟩ : ∃ c, chkK k q = c := ⟨_, rfl⟩
  rw [hc] at HNX HST HWD HRC hk
  have hcz : (c != 0) = true := by simpa using hk
  have hcc : (c == c) = true := by simp
  have hb0 := heap_alloc_new W (.cells (stc k q) 25)
  have HB0 := Lib.hid hb0
  have HN0 := Lib.hid ((New.refl W).alloc (.cells (stc k q) 25))
  clear hc hk hb0
  go_enter Tryz.func5, Tryz.ntmps5
  go_wp2_with fail
  refine (awake15 _).mono ?_
  rintro e w1 ⟨rfl, n1⟩
  have hb := (n1.block _ (lt_of_block HB0.out)).trans HB0.out
  have x0 := cell_of_row _ _ 0 _ _ _ hb
  have x1 := cell_of_row _ _ 1 _ _ _ hb
  have x2 := cell_of_row _ _ 2 _ _ _ hb
  have x3 := cell_of_row _ _ 3 _ _ _ hb
  have x4 := cell_of_row _ _ 4 _ _ _ hb
  have HB1 := Lib.hid hb
  have HN1 := Lib.hid (HN0.out.trans n1)
  clear hb n1
  go_wp2_with fail
  refine (HNX.out _).mono ?_
  rintro e w2 ⟨rfl, n2⟩
  have m2 := n2.alloc (.cells zst 25)
  have hb := (m2.block _ (lt_of_block HB1.out)).trans HB1.out
  have x0 := cell_of_row _ _ 0 _ _ _ hb
  have x1 := cell_of_row _ _ 1 _ _ _ hb
  have x2 := cell_of_row _ _ 2 _ _ _ hb
  have x3 := cell_of_row _ _ 3 _ _ _ hb
  have x4 := cell_of_row _ _ 4 _ _ _ hb
  have HB2 := Lib.hid hb
  have HN2 := Lib.hid (HN1.out.trans m2)
  have HC2_2 := Lib.hid (heap_alloc_new w2 (.cells zst 25))
  clear hb n2 m2
  go_wp2_with fail
  refine (HST.out _).mono ?_
  rintro e w3 ⟨rfl, n3⟩
  have m3 := n3.alloc (.cells zst 25)
  have hb := (m3.block _ (lt_of_block HB2.out)).trans HB2.out
  have x0 := cell_of_row _ _ 0 _ _ _ hb
  have x1 := cell_of_row _ _ 1 _ _ _ hb
  have x2 := cell_of_row _ _ 2 _ _ _ hb
  have x3 := cell_of_row _ _ 3 _ _ _ hb
  have x4 := cell_of_row _ _ 4 _ _ _ hb
  have HB3 := Lib.hid hb
  have HN3 := Lib.hid (HN2.out.trans m3)
  have HC3_3 := Lib.hid (heap_alloc_new w3 (.cells zst 25))
  have HC2_3 := Lib.hid ((m3.block _ (lt_of_block HC2_2.out)).trans HC2_2.out)
  clear hb n3 m3
  go_wp2_with fail
  refine (HWD.out _).mono ?_
  rintro e w4 ⟨rfl, n4⟩
  have m4 := n4.alloc (.cells zst 25)
  have hb := (m4.block _ (lt_of_block HB3.out)).trans HB3.out
  have x0 := cell_of_row _ _ 0 _ _ _ hb
  have x1 := cell_of_row _ _ 1 _ _ _ hb
  have x2 := cell_of_row _ _ 2 _ _ _ hb
  have x3 := cell_of_row _ _ 3 _ _ _ hb
  have x4 := cell_of_row _ _ 4 _ _ _ hb
  have HB4 := Lib.hid hb
  have HN4 := Lib.hid (HN3.out.trans m4)
  have HC4_4 := Lib.hid (heap_alloc_new w4 (.cells zst 25))
  have HC2_4 := Lib.hid ((m4.block _ (lt_of_block HC2_3.out)).trans HC2_3.out)
  have HC3_4 := Lib.hid ((m4.block _ (lt_of_block HC3_3.out)).trans HC3_3.out)
  clear hb n4 m4
  go_wp2_with fail
  refine (HRC.out _).mono ?_
  rintro e w5 ⟨rfl, n5⟩
  have m5 := n5.alloc (.cells zst 25)
  have hb := (m5.block _ (lt_of_block HB4.out)).trans HB4.out
  have x0 := cell_of_row _ _ 0 _ _ _ hb
  have x1 := cell_of_row _ _ 1 _ _ _ hb
  have x2 := cell_of_row _ _ 2 _ _ _ hb
  have x3 := cell_of_row _ _ 3 _ _ _ hb
  have x4 := cell_of_row _ _ 4 _ _ _ hb
  have HB5 := Lib.hid hb
  have HN5 := Lib.hid (HN4.out.trans m5)
  have HC5_5 := Lib.hid (heap_alloc_new w5 (.cells zst 25))
  have HC2_5 := Lib.hid ((m5.block _ (lt_of_block HC2_4.out)).trans HC2_4.out)
  have HC3_5 := Lib.hid ((m5.block _ (lt_of_block HC3_4.out)).trans HC3_4.out)
  have HC4_5 := Lib.hid ((m5.block _ (lt_of_block HC4_4.out)).trans HC4_4.out)
  clear hb n5 m5
  have y2_0 := cell_of_row _ _ 0 _ _ _ HC2_5.out
  have y2_1 := cell_of_row _ _ 1 _ _ _ HC2_5.out
  have y2_2 := cell_of_row _ _ 2 _ _ _ HC2_5.out
  have y2_3 := cell_of_row _ _ 3 _ _ _ HC2_5.out
  have y2_4 := cell_of_row _ _ 4 _ _ _ HC2_5.out
  have y3_0 := cell_of_row _ _ 0 _ _ _ HC3_5.out
  have y3_1 := cell_of_row _ _ 1 _ _ _ HC3_5.out
  have y3_2 := cell_of_row _ _ 2 _ _ _ HC3_5.out
  have y3_3 := cell_of_row _ _ 3 _ _ _ HC3_5.out
  have y3_4 := cell_of_row _ _ 4 _ _ _ HC3_5.out
  have y4_0 := cell_of_row _ _ 0 _ _ _ HC4_5.out
  have y4_1 := cell_of_row _ _ 1 _ _ _ HC4_5.out
  have y4_2 := cell_of_row _ _ 2 _ _ _ HC4_5.out
  have y4_3 := cell_of_row _ _ 3 _ _ _ HC4_5.out
  have y4_4 := cell_of_row _ _ 4 _ _ _ HC4_5.out
  have y5_0 := cell_of_row _ _ 0 _ _ _ HC5_5.out
  have y5_1 := cell_of_row _ _ 1 _ _ _ HC5_5.out
  have y5_2 := cell_of_row _ _ 2 _ _ _ HC5_5.out
  have y5_3 := cell_of_row _ _ 3 _ _ _ HC5_5.out
  have y5_4 := cell_of_row _ _ 4 _ _ _ HC5_5.out
  go_wp2
  go_ret
  exact ⟨rfl, HN5.out⟩
set_option maxHeartbeats 8000000 in
theorem goes_ok (W : World) (k : Int) (q : W4) (n : Int) (hn60 : ¬ 60 < n) (hk : chkK k q = 0) :
    Calls Tryz.prog 5 #[.agg (stc k q), .int .i64 n] W fun e w' => e = .returned (.bool true) ∧ Below W.heap.size W w' := by
  obtain ⟨m, hm, hnm⟩ : ∃ m : Nat, m ≤ 60 ∧ ((n < 0 ∧ m = 0) ∨ n = (m : Int)) := by
    by_cases h : n < 0
    · exact ⟨0, by omega, Or.inl ⟨h, rfl⟩⟩
    · exact ⟨n.toNat, by omega, Or.inr (by omega)⟩
  have HNX := Lib.hid (fun w => next_of k q _ _ hk (nx_all hk) w)
  have HST := Lib.hid (fun w => step_of k q _ hk (st_all hk) w)
  have HWD := Lib.hid (fun w => words_of k q hk n m hnm (by omega) w)
  have HRC := Lib.hid (fun w => rcheck_any k q w)
  have HRN := Lib.hid (fun w => rnx_any hk w)
  have HRW := Lib.hid (fun w => rwords_of k q hk n m hnm (by omega) w)
  have HRS := Lib.hid (fun w => rst_any hk w)
  rw [hk] at HRC
  have HQR : Hid (∀ (w : World) (ob : Nat), CR w ob m (wdK k q) → QRow w (some ⟨ob, 0, none⟩) m m (wlK k q m)) := Lib.hid (fun w ob h => h.row (by omega) (Nat.le_refl _) (by omega))
  obtain ⟨x, hx⟩ : ∃ x, ouK k q = x := ⟨_, rfl⟩
  obtain ⟨qn, hqn⟩ : ∃ z, nxK k q = z := ⟨_, rfl⟩
  obtain ⟨qs, hqs⟩ : ∃ z, stK k q = z := ⟨_, rfl⟩
  obtain ⟨qw, hqw⟩ : ∃ z, wsK k q m = z := ⟨_, rfl⟩
  obtain ⟨L, hL⟩ : ∃ z, wlK k q m = z := ⟨_, rfl⟩
  obtain ⟨lf, hlf⟩ : ∃ z, wdK k q = z := ⟨_, rfl⟩
  rw [hx, hqn] at HNX HRN
  rw [hqs] at HST HRS
  rw [hqw, hlf] at HWD
  rw [hqw, hL] at HRW
  rw [hL, hlf] at HQR
  have e1 := fun w => eqSt_self w k qn
  have e2 := fun w => eqSt_self w k qs
  have e3 := fun w => eqSt_self w k qw
  have hb0 := heap_alloc_new W (.cells (stc k q) 25)
  have HB0 := Lib.hid hb0
  have HN0 := Lib.hid ((New.refl W).alloc (.cells (stc k q) 25))
  clear hx hqn hqs hqw hL hlf hb0 hk hnm
  go_enter Tryz.func5, Tryz.ntmps5
  go_wp2_with fail
  refine (awake15 _).mono ?_
  rintro e w1 ⟨rfl, n1⟩
  have hb := (n1.block _ (lt_of_block HB0.out)).trans HB0.out
  have x0 := cell_of_row _ _ 0 _ _ _ hb
  have x1 := cell_of_row _ _ 1 _ _ _ hb
  have x2 := cell_of_row _ _ 2 _ _ _ hb
  have x3 := cell_of_row _ _ 3 _ _ _ hb
  have x4 := cell_of_row _ _ 4 _ _ _ hb
  have HB1 := Lib.hid hb
  have HN1 := Lib.hid (HN0.out.trans n1)
  clear hb n1
  go_wp2_with fail
  refine (HNX.out _).mono ?_
  rintro e w2 ⟨rfl, n2⟩
  have m2 := n2.alloc (.cells (stc k qn) 25)
  have hb := (m2.block _ (lt_of_block HB1.out)).trans HB1.out
  have x0 := cell_of_row _ _ 0 _ _ _ hb
  have x1 := cell_of_row _ _ 1 _ _ _ hb
  have x2 := cell_of_row _ _ 2 _ _ _ hb
  have x3 := cell_of_row _ _ 3 _ _ _ hb
  have x4 := cell_of_row _ _ 4 _ _ _ hb
  have HB2 := Lib.hid hb
  have HN2 := Lib.hid (HN1.out.trans m2)
  have HC2_2 := Lib.hid (heap_alloc_new w2 (.cells (stc k qn) 25))
  clear hb n2 m2
  go_wp2_with fail
  refine (HST.out _).mono ?_
  rintro e w3 ⟨rfl, n3⟩
  have m3 := n3.alloc (.cells (stc k qs) 25)
  have hb := (m3.block _ (lt_of_block HB2.out)).trans HB2.out
  have x0 := cell_of_row _ _ 0 _ _ _ hb
  have x1 := cell_of_row _ _ 1 _ _ _ hb
  have x2 := cell_of_row _ _ 2 _ _ _ hb
  have x3 := cell_of_row _ _ 3 _ _ _ hb
  have x4 := cell_of_row _ _ 4 _ _ _ hb
  have HB3 := Lib.hid hb
  have HN3 := Lib.hid (HN2.out.trans m3)
  have HC3_3 := Lib.hid (heap_alloc_new w3 (.cells (stc k qs) 25))
  have HC2_3 := Lib.hid ((m3.block _ (lt_of_block HC2_2.out)).trans HC2_2.out)
  clear hb n3 m3
  go_wp2_with fail
  refine (HWD.out _).mono ?_
  rintro e w4 ⟨ob, rfl, hcr, n4⟩
  have HR4 := Lib.hid ((HQR.out _ _ hcr).stay ((New.refl w4).alloc (.cells (stc k qw) 25)))
  clear hcr
  have m4 := n4.alloc (.cells (stc k qw) 25)
  have hb := (m4.block _ (lt_of_block HB3.out)).trans HB3.out
  have x0 := cell_of_row _ _ 0 _ _ _ hb
  have x1 := cell_of_row _ _ 1 _ _ _ hb
  have x2 := cell_of_row _ _ 2 _ _ _ hb
  have x3 := cell_of_row _ _ 3 _ _ _ hb
  have x4 := cell_of_row _ _ 4 _ _ _ hb
  have HB4 := Lib.hid hb
  have HN4 := Lib.hid (HN3.out.trans m4)
  have HC4_4 := Lib.hid (heap_alloc_new w4 (.cells (stc k qw) 25))
  have HC2_4 := Lib.hid ((m4.block _ (lt_of_block HC2_3.out)).trans HC2_3.out)
  have HC3_4 := Lib.hid ((m4.block _ (lt_of_block HC3_3.out)).trans HC3_3.out)
  clear hb n4 m4
  go_wp2_with fail
  refine (HRC.out _).mono ?_
  rintro e w5 ⟨rfl, n5⟩
  have hb := (n5.block _ (lt_of_block HB4.out)).trans HB4.out
  have x0 := cell_of_row _ _ 0 _ _ _ hb
  have x1 := cell_of_row _ _ 1 _ _ _ hb
  have x2 := cell_of_row _ _ 2 _ _ _ hb
  have x3 := cell_of_row _ _ 3 _ _ _ hb
  have x4 := cell_of_row _ _ 4 _ _ _ hb
  have HB5 := Lib.hid hb
  have HN5 := Lib.hid (HN4.out.trans n5)
  have HC2_5 := Lib.hid ((n5.block _ (lt_of_block HC2_4.out)).trans HC2_4.out)
  have HC3_5 := Lib.hid ((n5.block _ (lt_of_block HC3_4.out)).trans HC3_4.out)
  have HC4_5 := Lib.hid ((n5.block _ (lt_of_block HC4_4.out)).trans HC4_4.out)
  have HR5 := Lib.hid (HR4.out.stay n5)
  clear hb n5
  go_wp2_with fail
  refine (HRN.out _).mono ?_
  rintro e w6 ⟨rfl, n6⟩
  have HR6 := Lib.hid (HR5.out.stay (n6.alloc (.cells (stc k qn) 25)))
  have m6 := n6.alloc (.cells (stc k qn) 25)
  have hb := (m6.block _ (lt_of_block HB5.out)).trans HB5.out
  have x0 := cell_of_row _ _ 0 _ _ _ hb
  have x1 := cell_of_row _ _ 1 _ _ _ hb
  have x2 := cell_of_row _ _ 2 _ _ _ hb
  have x3 := cell_of_row _ _ 3 _ _ _ hb
  have x4 := cell_of_row _ _ 4 _ _ _ hb
  have HB6 := Lib.hid hb
  have HN6 := Lib.hid (HN5.out.trans m6)
  have HC6_6 := Lib.hid (heap_alloc_new w6 (.cells (stc k qn) 25))
  have HC2_6 := Lib.hid ((m6.block _ (lt_of_block HC2_5.out)).trans HC2_5.out)
  have HC3_6 := Lib.hid ((m6.block _ (lt_of_block HC3_5.out)).trans HC3_5.out)
  have HC4_6 := Lib.hid ((m6.block _ (lt_of_block HC4_5.out)).trans HC4_5.out)
  clear hb n6 m6
  go_wp2_with fail
  refine (HRW.out _).mono ?_
  rintro e w7 ⟨a, c, rfl, hrow, n7⟩
  have HS7 := Lib.hid (hrow.stay ((New.refl w7).alloc (.cells (stc k qw) 25)))
  have HR7 := Lib.hid (HR6.out.stay (n7.alloc (.cells (stc k qw) 25)))
  clear hrow
  have m7 := n7.alloc (.cells (stc k qw) 25)
  have hb := (m7.block _ (lt_of_block HB6.out)).trans HB6.out
  have x0 := cell_of_row _ _ 0 _ _ _ hb
  have x1 := cell_of_row _ _ 1 _ _ _ hb
  have x2 := cell_of_row _ _ 2 _ _ _ hb
  have x3 := cell_of_row _ _ 3 _ _ _ hb
  have x4 := cell_of_row _ _ 4 _ _ _ hb
  have HB7 := Lib.hid hb
  have HN7 := Lib.hid (HN6.out.trans m7)
  have HC7_7 := Lib.hid (heap_alloc_new w7 (.cells (stc k qw) 25))
  have HC2_7 := Lib.hid ((m7.block _ (lt_of_block HC2_6.out)).trans HC2_6.out)
  have HC3_7 := Lib.hid ((m7.block _ (lt_of_block HC3_6.out)).trans HC3_6.out)
  have HC4_7 := Lib.hid ((m7.block _ (lt_of_block HC4_6.out)).trans HC4_6.out)
  have HC6_7 := Lib.hid ((m7.block _ (lt_of_block HC6_6.out)).trans HC6_6.out)
  clear hb n7 m7
  clear x0 x1 x2 x3 x4
  go_wp2_with fail
  generalize hw8 : World.alloc w7 _ = w8 at *
  obtain ⟨g2, hg2⟩ : ∃ z, w2.heap.size = z := ⟨_, rfl⟩
  obtain ⟨g3, hg3⟩ : ∃ z, w3.heap.size = z := ⟨_, rfl⟩
  obtain ⟨g4, hg4⟩ : ∃ z, w4.heap.size = z := ⟨_, rfl⟩
  obtain ⟨g6, hg6⟩ : ∃ z, w6.heap.size = z := ⟨_, rfl⟩
  obtain ⟨g7, hg7⟩ : ∃ z, w7.heap.size = z := ⟨_, rfl⟩
  rw [hg2, hg3, hg4, hg6, hg7]
  rw [hg2] at HC2_7
  rw [hg3] at HC3_7
  rw [hg4] at HC4_7
  rw [hg6] at HC6_7
  rw [hg7] at HC7_7
  clear hg2 hg3 hg4 hg6 hg7 hw8
  refine wp_region_class (fun w' => (w'.heap[W.heap.size]? = some (.cells (stc k q) 25 (0, 0)) ∧ w'.heap[g2]? = some (.cells (stc k qn) 25 (0, 0)) ∧ w'.heap[g3]? = some (.cells (stc k qs) 25 (0, 0)) ∧ w'.heap[g4]? = some (.cells (stc k qw) 25 (0, 0)) ∧ w'.heap[g6]? = some (.cells (stc k qn) 25 (0, 0)) ∧ w'.heap[g7]? = some (.cells (stc k qw) 25 (0, 0)) ∧ QRow w' (some ⟨ob, 0, none⟩) m m L ∧ QRow w' a m c L) ∧ New W w') (by kernel_rfl) (by kernel_rfl) ⟨⟨HB7.out, HC2_7.out, HC3_7.out, HC4_7.out, HC6_7.out, HC7_7.out, HR7.out.stay (New.refl _).drew, HS7.out.stay (New.refl _).drew⟩, HN7.out.drew⟩ ?_
  intro I _ f hall hback
  have hst : ∀ {o : Obj} {b : Nat} {w w' : World}, w.heap[b]? = some o → New w w' → w'.heap[b]? = some o := fun h hn => (hn.block _ (lt_of_block h)).trans h
  have HSTEP : Hid (∀ n w', New (f n) w' → ∃ m, w' = f m) := Lib.hid fun n w' hn => hback w' ⟨⟨hst (hall n).1.1 hn, hst (hall n).1.2.1 hn, hst (hall n).1.2.2.1 hn, hst (hall n).1.2.2.2.1 hn, hst (hall n).1.2.2.2.2.1 hn, hst (hall n).1.2.2.2.2.2.1 hn, (hall n).1.2.2.2.2.2.2.1.stay hn, (hall n).1.2.2.2.2.2.2.2.stay hn⟩, (hall n).2.trans hn⟩
  have HALL := Lib.hid fun n => (hall n).2
  have HWR : Hid (∀ n, Calls Tryz.prog 24 #[.slice (some ⟨ob, 0, none⟩) m m, .slice a m c] (f n) fun e w' => e = .returned (.bool true) ∧ New (f n) w') := Lib.hid fun n => (words_ref _ _ _ _ _ _ _ _ (f n) (f n) (hall n).1.2.2.2.2.2.2.1 (hall n).1.2.2.2.2.2.2.2 (New.refl _)).mono (by rw [beq_self_eq_true]; rintro e w' ⟨rfl, h1, -⟩; exact ⟨rfl, h1⟩)
  have s0_0 := fun n => cell_of_row _ _ 0 _ _ _ ((hall n).1.1)
  have s0_1 := fun n => cell_of_row _ _ 1 _ _ _ ((hall n).1.1)
  have s0_2 := fun n => cell_of_row _ _ 2 _ _ _ ((hall n).1.1)
  have s0_3 := fun n => cell_of_row _ _ 3 _ _ _ ((hall n).1.1)
  have s0_4 := fun n => cell_of_row _ _ 4 _ _ _ ((hall n).1.1)
  have s1_0 := fun n => cell_of_row _ _ 0 _ _ _ ((hall n).1.2.1)
  have s1_1 := fun n => cell_of_row _ _ 1 _ _ _ ((hall n).1.2.1)
  have s1_2 := fun n => cell_of_row _ _ 2 _ _ _ ((hall n).1.2.1)
  have s1_3 := fun n => cell_of_row _ _ 3 _ _ _ ((hall n).1.2.1)
  have s1_4 := fun n => cell_of_row _ _ 4 _ _ _ ((hall n).1.2.1)
  have s2_0 := fun n => cell_of_row _ _ 0 _ _ _ ((hall n).1.2.2.1)
  have s2_1 := fun n => cell_of_row _ _ 1 _ _ _ ((hall n).1.2.2.1)
  have s2_2 := fun n => cell_of_row _ _ 2 _ _ _ ((hall n).1.2.2.1)
  have s2_3 := fun n => cell_of_row _ _ 3 _ _ _ ((hall n).1.2.2.1)
  have s2_4 := fun n => cell_of_row _ _ 4 _ _ _ ((hall n).1.2.2.1)
  have s3_0 := fun n => cell_of_row _ _ 0 _ _ _ ((hall n).1.2.2.2.1)
  have s3_1 := fun n => cell_of_row _ _ 1 _ _ _ ((hall n).1.2.2.2.1)
  have s3_2 := fun n => cell_of_row _ _ 2 _ _ _ ((hall n).1.2.2.2.1)
  have s3_3 := fun n => cell_of_row _ _ 3 _ _ _ ((hall n).1.2.2.2.1)
  have s3_4 := fun n => cell_of_row _ _ 4 _ _ _ ((hall n).1.2.2.2.1)
  have s4_0 := fun n => cell_of_row _ _ 0 _ _ _ ((hall n).1.2.2.2.2.1)
  have s4_1 := fun n => cell_of_row _ _ 1 _ _ _ ((hall n).1.2.2.2.2.1)
  have s4_2 := fun n => cell_of_row _ _ 2 _ _ _ ((hall n).1.2.2.2.2.1)
  have s4_3 := fun n => cell_of_row _ _ 3 _ _ _ ((hall n).1.2.2.2.2.1)
  have s4_4 := fun n => cell_of_row _ _ 4 _ _ _ ((hall n).1.2.2.2.2.1)
  have s5_0 := fun n => cell_of_row _ _ 0 _ _ _ ((hall n).1.2.2.2.2.2.1)
  have s5_1 := fun n => cell_of_row _ _ 1 _ _ _ ((hall n).1.2.2.2.2.2.1)
  have s5_2 := fun n => cell_of_row _ _ 2 _ _ _ ((hall n).1.2.2.2.2.2.1)
  have s5_3 := fun n => cell_of_row _ _ 3 _ _ _ ((hall n).1.2.2.2.2.2.1)
  have s5_4 := fun n => cell_of_row _ _ 4 _ _ _ ((hall n).1.2.2.2.2.2.1)
  clear hall hback hst
  repeat (go_big_quiet_step (first
    | (go_at_call 23; refine class_new HSTEP.out (HRS.out _))
    | (go_at_call 24; refine class_new HSTEP.out (HWR.out _))))
  refine wpQuiet_nil ?_
  rintro w9 ⟨n1, hw1⟩
  have hS := HALL.out n1
  rw [← hw1] at hS
  have HN := Lib.hid hS
  clear HALL HSTEP hw1 hS HWR s0_0 s0_1 s0_2 s0_3 s0_4 s1_0 s1_1 s1_2 s1_3 s1_4 s2_0 s2_1 s2_2 s2_3 s2_4 s3_0 s3_1 s3_2 s3_3 s3_4 s4_0 s4_1 s4_2 s4_3 s4_4 s5_0 s5_1 s5_2 s5_3 s5_4
  go_wp2
  go_ret
  exact ⟨rfl, HN.out⟩
set_option maxHeartbeats 2000000 in
theorem GensGoes_walk (W : World) (x0_0 : Int) (b0_0 : -9223372036854775808 ≤ x0_0 ∧ x0_0 ≤ 9223372036854775807) (x0_1 : BitVec 64) (x0_2 : BitVec 64) (x0_3 : BitVec 64) (x0_4 : BitVec 64) (a1 : Int) (w1 : (Lit.int .i64 a1).wf = true) :
    Calls Tryz.prog 5 #[.agg #[.int .i64 x0_0, .int .u64 (W64 x0_1), .int .u64 (W64 x0_2), .int .u64 (W64 x0_3), .int .u64 (W64 x0_4)], .int .i64 a1] W fun e w' => e = .returned (.bool true) ∧ Below W.heap.size W w' := by
  by_cases h60 : 60 < a1
  · have HN0 := Lib.hid ((New.refl W).alloc (.cells (stc x0_0 ⟨x0_1, x0_2, x0_3, x0_4⟩) 25))
    clear w1 b0_0
    go_enter Tryz.func5, Tryz.ntmps5
    go_wp2_with fail
    refine (awake15 _).mono ?_
    rintro e w1 ⟨rfl, n1⟩
    have HN := Lib.hid (HN0.out.trans n1)
    clear n1 HN0
    go_wp2
    go_ret
    exact ⟨rfl, HN.out⟩
  · by_cases hk : chkK x0_0 ⟨x0_1, x0_2, x0_3, x0_4⟩ = 0
    · exact goes_ok W x0_0 ⟨x0_1, x0_2, x0_3, x0_4⟩ a1 h60 hk
    · exact goes_bad W x0_0 ⟨x0_1, x0_2, x0_3, x0_4⟩ a1 h60 hk
end Go.Proofs.YtfaobdmoifnglaaGreat
