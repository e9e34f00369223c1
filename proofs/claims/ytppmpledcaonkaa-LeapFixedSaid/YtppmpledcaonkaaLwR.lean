/- The walk of the statement LeapRound. -/
import Derived.Test.YtppmpledcaonkaaLwP
namespace Go.Proofs.Ytppmpledcaonkaa
open Go Go.RowKit Go.Bv Go.G2
set_option linter.unusedVariables false
theorem half_max (d0 d1 d2 d3 : BitVec 64) (k : Nat) (hk : k ≤ 1) (h : four 0#64 0#64 1#64 0#64 + k * 2 ^ 256 = four d0 d1 d2 d3 + four 1#64 0#64 0#64 0#64) : d0 = 18446744073709551615#64 ∧ d1 = 18446744073709551615#64 ∧ d2 = 0#64 ∧ d3 = 0#64 := by
  rw [show four 0#64 0#64 1#64 0#64 = 340282366920938463463374607431768211456 from by decide +kernel, show four 1#64 0#64 0#64 0#64 = 1 from rfl] at h
  refine four_inj ?_
  rw [four_half]
  have h2 := four_lt d0 d1 d2 d3
  have h3 : k = 0 ∨ k = 1 := by omega
  rcases h3 with rfl | rfl <;> omega
set_option maxRecDepth 100000 in
theorem sub_half (w : World) : Calls Try.prog 53 #[.agg #[.int .u64 0, .int .u64 0, .int .u64 1, .int .u64 0], .agg #[.int .u64 1, .int .u64 0, .int .u64 0, .int .u64 0]] w fun e w' => ∃ ov, e = .returned (.tuple #[.agg #[.int .u64 18446744073709551615, .int .u64 18446744073709551615, .int .u64 0, .int .u64 0], .bool ov]) ∧ New w w' := by
  have h := wsub4 0#64 0#64 1#64 0#64 1#64 0#64 0#64 0#64 w
  refine Calls.mono h ?_
  rintro e w' ⟨d0, d1, d2, d3, k, rfl, ⟨hk, he⟩, hn⟩
  obtain ⟨rfl, rfl, rfl, rfl⟩ := half_max d0 d1 d2 d3 k hk he
  exact ⟨_, rfl, hn⟩
set_option maxRecDepth 100000 in
theorem power_128 (w : World) : Calls Try.prog 50 #[.int .i64 128] w fun e w' => e = .returned (.agg #[.int .u64 0, .int .u64 0, .int .u64 1, .int .u64 0]) ∧ New w w' := by
  have h := power_q 128 (by omega) w
  rw [show pwN 128 = 340282366920938463463374607431768211456 from by decide +kernel] at h
  exact h
theorem round4_it (s : V4) : LV4.it 115792089237316195423570985008687907853269984665640564039457584007913129639935 s = s := full_of LV4 (by decide) bl_pol4 kill4 round4 s
set_option maxRecDepth 100000 in
set_option maxHeartbeats 4000000 in
theorem LeapRound_any (W : World) (s : V4) (k : Int) (t : V2) (n : Int) (hn : n ≤ 9223372036854775807) :
    Calls Try.prog 12 #[.agg #[.int .u64 (W64 s.a), .int .u64 (W64 s.b), .int .u64 (W64 s.c), .int .u64 (W64 s.d)], .int .i64 k, .agg #[.int .u64 (W64 t.a), .int .u64 (W64 t.b)], .int .i64 n] W fun e w' => e = .returned (.bool true) ∧ New W w' := by
  obtain ⟨L, hL⟩ := kd_all k
  have hj4 : ∀ w, Calls Try.prog 45 #[.agg #[.int .u64 (W64 (s).a), .int .u64 (W64 (s).b), .int .u64 (W64 (s).c), .int .u64 (W64 (s).d)], .agg #[.int .u64 18446744073709551615, .int .u64 18446744073709551615, .int .u64 18446744073709551615, .int .u64 18446744073709551615]] w fun e w' => e = .returned (.agg #[.int .u64 (W64 (s).a), .int .u64 (W64 (s).b), .int .u64 (W64 (s).c), .int .u64 (W64 (s).d)]) ∧ New w w' := fun w => by
    have h := jump4_q s 18446744073709551615#64 18446744073709551615#64 18446744073709551615#64 18446744073709551615#64 w
    rw [four_max, round4_it] at h
    exact h
  have hj2 : ∀ w, Calls Try.prog 43 #[.int .i64 k, .agg #[.int .u64 (W64 (t).a), .int .u64 (W64 (t).b)], .agg #[.int .u64 18446744073709551615, .int .u64 18446744073709551615, .int .u64 0, .int .u64 0]] w fun e w' => e = .returned (.agg #[.int .u64 (W64 (t).a), .int .u64 (W64 (t).b)]) ∧ New w w' := fun w => by
    have h := hL.jump t 18446744073709551615#64 18446744073709551615#64 0#64 0#64 w
    rw [four_half, hL.round] at h
    exact h
  have heq4 := fun w => eq4_same w s
  have heq2 := fun w => eq2_same w t
  have HJ4 := Lib.hid hj4
  have HJ2 := Lib.hid hj2
  have HSA := Lib.hid sub_all
  have HSH := Lib.hid sub_half
  have HP8 := Lib.hid power_128
  have HPA := Lib.hid (fun w => power_q n hn w)
  have HSL := Lib.hid (fun (h0 : 0 ≤ n) w => shl_w n hn h0 w)
  have HPZ : Hid (¬ (0 ≤ n ∧ n < 256) → pwN n = 0) := Lib.hid (fun h => by unfold pwN; rw [if_neg h])
  clear hj4 hj2 hL hn
  obtain ⟨W9, hW9, xHS, xHT, nW9⟩ : ∃ W9, (W.alloc (.cells #[.int .u64 (W64 s.a), .int .u64 (W64 s.b), .int .u64 (W64 s.c), .int .u64 (W64 s.d)] 44)).alloc (.cells #[.int .u64 (W64 t.a), .int .u64 (W64 t.b)] 53) = W9 ∧ W9.heap[W.heap.size]? = some (.cells #[.int .u64 (W64 s.a), .int .u64 (W64 s.b), .int .u64 (W64 s.c), .int .u64 (W64 s.d)] 44 (0, 0)) ∧ W9.heap[W.heap.size + 1]? = some (.cells #[.int .u64 (W64 t.a), .int .u64 (W64 t.b)] 53 (0, 0)) ∧ New W W9 := by
    refine ⟨_, rfl, ?_, ?_, (((New.refl _).alloc _).alloc _)⟩
    · have h := heap_alloc_new (W) (.cells #[.int .u64 (W64 s.a), .int .u64 (W64 s.b), .int .u64 (W64 s.c), .int .u64 (W64 s.d)] 44)
      replace h := (((New.refl (W.alloc (.cells #[.int .u64 (W64 s.a), .int .u64 (W64 s.b), .int .u64 (W64 s.c), .int .u64 (W64 s.d)] 44))).alloc (.cells #[.int .u64 (W64 t.a), .int .u64 (W64 t.b)] 53)).block _ (lt_of_block h)).trans h
      simpa using h
    · have h := heap_alloc_new (W.alloc (.cells #[.int .u64 (W64 s.a), .int .u64 (W64 s.b), .int .u64 (W64 s.c), .int .u64 (W64 s.d)] 44)) (.cells #[.int .u64 (W64 t.a), .int .u64 (W64 t.b)] 53)
      simpa using h
  have HW9 := Lib.hid hW9
  have NW9 := Lib.hid nW9
  have HS := Lib.hid xHS
  have HT := Lib.hid xHT
  clear hW9 nW9 xHS xHT
  go_enter Try.func12, Try.ntmps12
  go_wp2_with fail
  rw [HW9.out]
  clear HW9
  refine (awake12 _).mono ?_
  rintro e w1 ⟨rfl, hn1⟩
  replace HS := Lib.hid ((hn1.block _ (lt_of_block HS.out)).trans HS.out)
  replace HT := Lib.hid ((hn1.block _ (lt_of_block HT.out)).trans HT.out)
  have HN := Lib.hid (NW9.out.trans hn1)
  clear hn1 NW9
  go_wp2_with fail
  refine (HSA.out _).mono ?_
  rintro e w2 ⟨ov, rfl, hn2⟩
  replace HS := Lib.hid ((hn2.block _ (lt_of_block HS.out)).trans HS.out)
  replace HT := Lib.hid ((hn2.block _ (lt_of_block HT.out)).trans HT.out)
  replace HN := Lib.hid (HN.out.trans hn2)
  have hn3 : New w2 (w2.alloc (.cells #[.int .u64 18446744073709551615, .int .u64 18446744073709551615, .int .u64 18446744073709551615, .int .u64 18446744073709551615] 45)) := (New.refl _).alloc _
  have hb3 := heap_alloc_new w2 (.cells #[.int .u64 18446744073709551615, .int .u64 18446744073709551615, .int .u64 18446744073709551615, .int .u64 18446744073709551615] 45)
  obtain ⟨W3, hW3⟩ : ∃ z, w2.alloc (.cells #[.int .u64 18446744073709551615, .int .u64 18446744073709551615, .int .u64 18446744073709551615, .int .u64 18446744073709551615] 45) = z := ⟨_, rfl⟩
  rw [hW3] at hn3 hb3
  obtain ⟨bm, hbm⟩ : ∃ b, w2.heap.size = b := ⟨_, rfl⟩
  rw [hbm] at hb3
  have HW3 := Lib.hid hW3
  have HBM := Lib.hid hbm
  have HM := Lib.hid hb3
  replace HS := Lib.hid ((hn3.block _ (lt_of_block HS.out)).trans HS.out)
  replace HT := Lib.hid ((hn3.block _ (lt_of_block HT.out)).trans HT.out)
  replace HN := Lib.hid (HN.out.trans hn3)
  clear hn2 hn3 hb3 hW3 hbm HSA
  go_wp2_with fail
  rw [HW3.out, HBM.out]
  clear HW3 HBM
  refine (HP8.out _).mono ?_
  rintro e w4 ⟨rfl, hn4⟩
  replace HS := Lib.hid ((hn4.block _ (lt_of_block HS.out)).trans HS.out)
  replace HT := Lib.hid ((hn4.block _ (lt_of_block HT.out)).trans HT.out)
  replace HM := Lib.hid ((hn4.block _ (lt_of_block HM.out)).trans HM.out)
  replace HN := Lib.hid (HN.out.trans hn4)
  clear hn4 HP8
  go_wp2_with fail
  refine (HSH.out _).mono ?_
  rintro e w5 ⟨ov2, rfl, hn5⟩
  replace HS := Lib.hid ((hn5.block _ (lt_of_block HS.out)).trans HS.out)
  replace HT := Lib.hid ((hn5.block _ (lt_of_block HT.out)).trans HT.out)
  replace HM := Lib.hid ((hn5.block _ (lt_of_block HM.out)).trans HM.out)
  replace HN := Lib.hid (HN.out.trans hn5)
  clear hn5 HSH
  have HS5 := Lib.hid HS.out
  have HT5 := Lib.hid HT.out
  have HM5 := Lib.hid HM.out
  have HN5 := Lib.hid HN.out
  obtain ⟨W6, hW6, x6, y6, n6⟩ : ∃ W6, (w5.alloc (.cells #[.int .u64 18446744073709551615, .int .u64 18446744073709551615, .int .u64 0, .int .u64 0] 45)).alloc (.cells #[.int .u64 0, .int .u64 0, .int .u64 0, .int .u64 0] 45) = W6 ∧ W6.heap[w5.heap.size]? = some (.cells #[.int .u64 18446744073709551615, .int .u64 18446744073709551615, .int .u64 0, .int .u64 0] 45 (0, 0)) ∧ W6.heap[w5.heap.size + 1]? = some (.cells #[.int .u64 0, .int .u64 0, .int .u64 0, .int .u64 0] 45 (0, 0)) ∧ New w5 W6 := by
    refine ⟨_, rfl, ?_, ?_, ((New.refl _).alloc _).alloc _⟩
    · have h := heap_alloc_new w5 (.cells #[.int .u64 18446744073709551615, .int .u64 18446744073709551615, .int .u64 0, .int .u64 0] 45)
      exact (((New.refl _).alloc _).block _ (lt_of_block h)).trans h
    · have h := heap_alloc_new (w5.alloc (.cells #[.int .u64 18446744073709551615, .int .u64 18446744073709551615, .int .u64 0, .int .u64 0] 45)) (.cells #[.int .u64 0, .int .u64 0, .int .u64 0, .int .u64 0] 45)
      simpa using h
  obtain ⟨bh, hbh⟩ : ∃ b, w5.heap.size = b := ⟨_, rfl⟩
  rw [hbh] at x6 y6
  have HBH := Lib.hid hbh
  have HW6 := Lib.hid hW6
  have HH := Lib.hid x6
  have HP := Lib.hid y6
  replace HS := Lib.hid ((n6.block _ (lt_of_block HS.out)).trans HS.out)
  replace HT := Lib.hid ((n6.block _ (lt_of_block HT.out)).trans HT.out)
  replace HM := Lib.hid ((n6.block _ (lt_of_block HM.out)).trans HM.out)
  replace HN := Lib.hid (HN.out.trans n6)
  have HLE : Hid (W.heap.size ≤ bh + 1) := Lib.hid (by have := HN5.out.le; omega)
  have HNE : Hid (W.heap.size ≠ bh + 1 ∧ W.heap.size + 1 ≠ bh + 1 ∧ bm ≠ bh + 1) := Lib.hid (by
    have q1 := lt_of_block HS5.out
    have q2 := lt_of_block HT5.out
    have q3 := lt_of_block HM5.out
    omega)
  clear hW6 x6 y6 n6 hbh HS5 HT5 HM5 HN5
  by_cases hin : 0 ≤ n ∧ n < 256
  · obtain ⟨h1, h2⟩ := hin
    have hsl := HSL.out h1
    have hpa := HPA.out
    obtain ⟨x0, hx0⟩ : ∃ x, BitVec.ofNat 64 (pwN n) = x := ⟨_, rfl⟩
    obtain ⟨x1, hx1⟩ : ∃ x, BitVec.ofNat 64 (pwN n / 2 ^ 64) = x := ⟨_, rfl⟩
    obtain ⟨x2, hx2⟩ : ∃ x, BitVec.ofNat 64 (pwN n / 2 ^ 128) = x := ⟨_, rfl⟩
    obtain ⟨x3, hx3⟩ : ∃ x, BitVec.ofNat 64 (pwN n / 2 ^ 192) = x := ⟨_, rfl⟩
    rw [hx0, hx1, hx2, hx3] at hsl hpa
    have HSL2 := Lib.hid hsl
    have HPW := Lib.hid hpa
    have heqp : ∀ w, (Op.equalIn 10000 45 (.agg #[.int .u64 (W64 x0), .int .u64 (W64 x1), .int .u64 (W64 x2), .int .u64 (W64 x3)]) (.agg #[.int .u64 (W64 x0), .int .u64 (W64 x1), .int .u64 (W64 x2), .int .u64 (W64 x3)])).run Try.prog w = .ok true w := fun w => by rw [eqV256]; simp
    clear hsl hpa hx0 hx1 hx2 hx3 HSL HPA HPZ
    go_wp2_with fail
    rw [HBH.out]
    rw [HW6.out]
    clear HW6
    refine (HSL2.out _).mono ?_
    rintro e w7 ⟨rfl, hn7⟩
    have hz := (hn7.block _ (lt_of_block HP.out)).trans HP.out
    have m0 := cell_of_row _ _ 0 _ _ _ hz
    have m1 := cell_of_row _ _ 1 _ _ _ hz
    have m2 := cell_of_row _ _ 2 _ _ _ hz
    have m3 := cell_of_row _ _ 3 _ _ _ hz
    have mf : ∀ i, w7.frozen? ⟨bh + 1, i, none⟩ = false := fun i => frozen_of_row _ _ i _ _ hz
    have HN7 := Lib.hid hn7
    have hwx : ∃ W8, (((w7.setCell ⟨bh + 1, 0, none⟩ (.int .u64 (W64 x0))).setCell ⟨bh + 1, 1, none⟩ (.int .u64 (W64 x1))).setCell ⟨bh + 1, 2, none⟩ (.int .u64 (W64 x2))).setCell ⟨bh + 1, 3, none⟩ (.int .u64 (W64 x3)) = W8 ∧ W8.heap[bh + 1]? = some (.cells #[.int .u64 (W64 x0), .int .u64 (W64 x1), .int .u64 (W64 x2), .int .u64 (W64 x3)] 45 (0, 0)) ∧ ∀ b o, b ≠ bh + 1 → W6.heap[b]? = some o → W8.heap[b]? = some o := by
      refine ⟨_, rfl, heap_setCell_same _ _ _ _ _ _ (heap_setCell_same _ _ _ _ _ _ (heap_setCell_same _ _ _ _ _ _ (heap_setCell_same _ _ _ _ _ _ hz))), fun b o hb ho => ?_⟩
      have h9 := (HN7.out.block _ (lt_of_block ho)).trans ho
      exact (heap_setCell_other _ _ _ _ hb).trans ((heap_setCell_other _ _ _ _ hb).trans ((heap_setCell_other _ _ _ _ hb).trans ((heap_setCell_other _ _ _ _ hb).trans h9)))
    obtain ⟨W8, hW8, hp8, hoth⟩ := hwx
    have hn8 : New W W8 := by
      rw [← hW8]
      have h9 := HN.out.trans HN7.out
      have hle : W.heap.size ≤ bh + 1 := HLE.out
      exact (((h9.setCell hle _).setCell hle _).setCell hle _).setCell hle _
    replace HS := Lib.hid (hoth _ _ HNE.out.1 HS.out)
    replace HT := Lib.hid (hoth _ _ HNE.out.2.1 HT.out)
    replace HM := Lib.hid (hoth _ _ HNE.out.2.2 HM.out)
    replace HH := Lib.hid (hoth _ _ (by omega) HH.out)
    replace HP := Lib.hid hp8
    replace HN := Lib.hid hn8
    have HW8 := Lib.hid hW8
    clear hn7 hz hW8 hp8 hoth hn8 HSL2
    go_wp2_with fail
    rw [HW8.out]
    clear HW8 m0 m1 m2 m3 mf
    refine wp_region_class (fun w' => (w'.heap[W.heap.size]? = some (.cells #[.int .u64 (W64 s.a), .int .u64 (W64 s.b), .int .u64 (W64 s.c), .int .u64 (W64 s.d)] 44 (0, 0)) ∧ w'.heap[W.heap.size + 1]? = some (.cells #[.int .u64 (W64 t.a), .int .u64 (W64 t.b)] 53 (0, 0)) ∧ w'.heap[bm]? = some (.cells #[.int .u64 18446744073709551615, .int .u64 18446744073709551615, .int .u64 18446744073709551615, .int .u64 18446744073709551615] 45 (0, 0)) ∧ w'.heap[bh]? = some (.cells #[.int .u64 18446744073709551615, .int .u64 18446744073709551615, .int .u64 0, .int .u64 0] 45 (0, 0)) ∧ w'.heap[bh + 1]? = some (.cells #[.int .u64 (W64 x0), .int .u64 (W64 x1), .int .u64 (W64 x2), .int .u64 (W64 x3)] 45 (0, 0))) ∧ New W8 w') (by kernel_rfl) (by kernel_rfl) ⟨⟨((New.refl W8).drew.block _ (lt_of_block HS.out)).trans HS.out, ((New.refl W8).drew.block _ (lt_of_block HT.out)).trans HT.out, ((New.refl W8).drew.block _ (lt_of_block HM.out)).trans HM.out, ((New.refl W8).drew.block _ (lt_of_block HH.out)).trans HH.out, ((New.refl W8).drew.block _ (lt_of_block HP.out)).trans HP.out⟩, (New.refl _).drew⟩ ?_
    intro I _ f hall hback
    have HSTEP : Hid (∀ n w', New (f n) w' → ∃ m, w' = f m) := Lib.hid fun n w' hn => hback w' ⟨⟨(hn.block _ (lt_of_block ((hall n).1.1))).trans ((hall n).1.1), (hn.block _ (lt_of_block ((hall n).1.2.1))).trans ((hall n).1.2.1), (hn.block _ (lt_of_block ((hall n).1.2.2.1))).trans ((hall n).1.2.2.1), (hn.block _ (lt_of_block ((hall n).1.2.2.2.1))).trans ((hall n).1.2.2.2.1), (hn.block _ (lt_of_block ((hall n).1.2.2.2.2))).trans ((hall n).1.2.2.2.2)⟩, (hall n).2.trans hn⟩
    have HALL := Lib.hid fun n => (hall n).2
    have s0 := fun n => cell_of_row _ _ 0 _ _ _ ((hall n).1.1)
    have s1 := fun n => cell_of_row _ _ 1 _ _ _ ((hall n).1.1)
    have s2 := fun n => cell_of_row _ _ 2 _ _ _ ((hall n).1.1)
    have s3 := fun n => cell_of_row _ _ 3 _ _ _ ((hall n).1.1)
    have s4 := fun n => cell_of_row _ _ 0 _ _ _ ((hall n).1.2.1)
    have s5 := fun n => cell_of_row _ _ 1 _ _ _ ((hall n).1.2.1)
    have s6 := fun n => cell_of_row _ _ 0 _ _ _ ((hall n).1.2.2.1)
    have s7 := fun n => cell_of_row _ _ 1 _ _ _ ((hall n).1.2.2.1)
    have s8 := fun n => cell_of_row _ _ 2 _ _ _ ((hall n).1.2.2.1)
    have s9 := fun n => cell_of_row _ _ 3 _ _ _ ((hall n).1.2.2.1)
    have s10 := fun n => cell_of_row _ _ 0 _ _ _ ((hall n).1.2.2.2.1)
    have s11 := fun n => cell_of_row _ _ 1 _ _ _ ((hall n).1.2.2.2.1)
    have s12 := fun n => cell_of_row _ _ 2 _ _ _ ((hall n).1.2.2.2.1)
    have s13 := fun n => cell_of_row _ _ 3 _ _ _ ((hall n).1.2.2.2.1)
    have s14 := fun n => cell_of_row _ _ 0 _ _ _ ((hall n).1.2.2.2.2)
    have s15 := fun n => cell_of_row _ _ 1 _ _ _ ((hall n).1.2.2.2.2)
    have s16 := fun n => cell_of_row _ _ 2 _ _ _ ((hall n).1.2.2.2.2)
    have s17 := fun n => cell_of_row _ _ 3 _ _ _ ((hall n).1.2.2.2.2)
    clear hall hback
    repeat (go_big_quiet_step (first
      | (go_at_call 45; refine class_new HSTEP.out (HJ4.out _))
      | (go_at_call 43; refine class_new HSTEP.out (HJ2.out _))
      | (go_at_call 50; refine class_new HSTEP.out (HPW.out _))))
    refine wpQuiet_nil ?_
    rintro w9 ⟨n1, hw1⟩
    have hS := HALL.out n1
    rw [← hw1] at hS
    replace HS := Lib.hid ((hS.block _ (lt_of_block HS.out)).trans HS.out)
    replace HT := Lib.hid ((hS.block _ (lt_of_block HT.out)).trans HT.out)
    replace HM := Lib.hid ((hS.block _ (lt_of_block HM.out)).trans HM.out)
    replace HH := Lib.hid ((hS.block _ (lt_of_block HH.out)).trans HH.out)
    replace HP := Lib.hid ((hS.block _ (lt_of_block HP.out)).trans HP.out)
    replace HN := Lib.hid (HN.out.trans hS)
    clear HALL HSTEP hw1 hS s0 s1 s2 s3 s4 s5 s6 s7 s8 s9 s10 s11 s12 s13 s14 s15 s16 s17
    go_wp2
    go_ret
    exact ⟨rfl, HN.out⟩
  · have hpa := HPA.out
    rw [HPZ.out hin] at hpa
    have HPW : Hid (∀ w, Calls Try.prog 50 #[.int .i64 n] w fun e w' => e = .returned (.agg #[.int .u64 0, .int .u64 0, .int .u64 0, .int .u64 0]) ∧ New w w') := Lib.hid hpa
    have heqp : ∀ w, (Op.equalIn 10000 45 (.agg #[.int .u64 0, .int .u64 0, .int .u64 0, .int .u64 0]) (.agg #[.int .u64 0, .int .u64 0, .int .u64 0, .int .u64 0])).run Try.prog w = .ok true w := fun w => eqV256 w 0#64 0#64 0#64 0#64 0#64 0#64 0#64 0#64
    clear hpa HPA HPZ HSL
    by_cases h1 : 0 ≤ n
    · have h2 : ¬ n < 256 := fun h => hin ⟨h1, h⟩
      clear hin
      go_wp2_with fail
      rw [HBH.out]
      rw [HW6.out]
      clear HW6
      refine wp_region_class (fun w' => (w'.heap[W.heap.size]? = some (.cells #[.int .u64 (W64 s.a), .int .u64 (W64 s.b), .int .u64 (W64 s.c), .int .u64 (W64 s.d)] 44 (0, 0)) ∧ w'.heap[W.heap.size + 1]? = some (.cells #[.int .u64 (W64 t.a), .int .u64 (W64 t.b)] 53 (0, 0)) ∧ w'.heap[bm]? = some (.cells #[.int .u64 18446744073709551615, .int .u64 18446744073709551615, .int .u64 18446744073709551615, .int .u64 18446744073709551615] 45 (0, 0)) ∧ w'.heap[bh]? = some (.cells #[.int .u64 18446744073709551615, .int .u64 18446744073709551615, .int .u64 0, .int .u64 0] 45 (0, 0)) ∧ w'.heap[bh + 1]? = some (.cells #[.int .u64 0, .int .u64 0, .int .u64 0, .int .u64 0] 45 (0, 0))) ∧ New W6 w') (by kernel_rfl) (by kernel_rfl) ⟨⟨((New.refl W6).drew.block _ (lt_of_block HS.out)).trans HS.out, ((New.refl W6).drew.block _ (lt_of_block HT.out)).trans HT.out, ((New.refl W6).drew.block _ (lt_of_block HM.out)).trans HM.out, ((New.refl W6).drew.block _ (lt_of_block HH.out)).trans HH.out, ((New.refl W6).drew.block _ (lt_of_block HP.out)).trans HP.out⟩, (New.refl _).drew⟩ ?_
      intro I _ f hall hback
      have HSTEP : Hid (∀ n w', New (f n) w' → ∃ m, w' = f m) := Lib.hid fun n w' hn => hback w' ⟨⟨(hn.block _ (lt_of_block ((hall n).1.1))).trans ((hall n).1.1), (hn.block _ (lt_of_block ((hall n).1.2.1))).trans ((hall n).1.2.1), (hn.block _ (lt_of_block ((hall n).1.2.2.1))).trans ((hall n).1.2.2.1), (hn.block _ (lt_of_block ((hall n).1.2.2.2.1))).trans ((hall n).1.2.2.2.1), (hn.block _ (lt_of_block ((hall n).1.2.2.2.2))).trans ((hall n).1.2.2.2.2)⟩, (hall n).2.trans hn⟩
      have HALL := Lib.hid fun n => (hall n).2
      have s0 := fun n => cell_of_row _ _ 0 _ _ _ ((hall n).1.1)
      have s1 := fun n => cell_of_row _ _ 1 _ _ _ ((hall n).1.1)
      have s2 := fun n => cell_of_row _ _ 2 _ _ _ ((hall n).1.1)
      have s3 := fun n => cell_of_row _ _ 3 _ _ _ ((hall n).1.1)
      have s4 := fun n => cell_of_row _ _ 0 _ _ _ ((hall n).1.2.1)
      have s5 := fun n => cell_of_row _ _ 1 _ _ _ ((hall n).1.2.1)
      have s6 := fun n => cell_of_row _ _ 0 _ _ _ ((hall n).1.2.2.1)
      have s7 := fun n => cell_of_row _ _ 1 _ _ _ ((hall n).1.2.2.1)
      have s8 := fun n => cell_of_row _ _ 2 _ _ _ ((hall n).1.2.2.1)
      have s9 := fun n => cell_of_row _ _ 3 _ _ _ ((hall n).1.2.2.1)
      have s10 := fun n => cell_of_row _ _ 0 _ _ _ ((hall n).1.2.2.2.1)
      have s11 := fun n => cell_of_row _ _ 1 _ _ _ ((hall n).1.2.2.2.1)
      have s12 := fun n => cell_of_row _ _ 2 _ _ _ ((hall n).1.2.2.2.1)
      have s13 := fun n => cell_of_row _ _ 3 _ _ _ ((hall n).1.2.2.2.1)
      have s14 := fun n => cell_of_row _ _ 0 _ _ _ ((hall n).1.2.2.2.2)
      have s15 := fun n => cell_of_row _ _ 1 _ _ _ ((hall n).1.2.2.2.2)
      have s16 := fun n => cell_of_row _ _ 2 _ _ _ ((hall n).1.2.2.2.2)
      have s17 := fun n => cell_of_row _ _ 3 _ _ _ ((hall n).1.2.2.2.2)
      clear hall hback
      repeat (go_big_quiet_step (first
        | (go_at_call 45; refine class_new HSTEP.out (HJ4.out _))
        | (go_at_call 43; refine class_new HSTEP.out (HJ2.out _))
        | (go_at_call 50; refine class_new HSTEP.out (HPW.out _))))
      refine wpQuiet_nil ?_
      rintro w9 ⟨n1, hw1⟩
      have hS := HALL.out n1
      rw [← hw1] at hS
      replace HS := Lib.hid ((hS.block _ (lt_of_block HS.out)).trans HS.out)
      replace HT := Lib.hid ((hS.block _ (lt_of_block HT.out)).trans HT.out)
      replace HM := Lib.hid ((hS.block _ (lt_of_block HM.out)).trans HM.out)
      replace HH := Lib.hid ((hS.block _ (lt_of_block HH.out)).trans HH.out)
      replace HP := Lib.hid ((hS.block _ (lt_of_block HP.out)).trans HP.out)
      replace HN := Lib.hid (HN.out.trans hS)
      clear HALL HSTEP hw1 hS s0 s1 s2 s3 s4 s5 s6 s7 s8 s9 s10 s11 s12 s13 s14 s15 s16 s17
      go_wp2
      go_ret
      exact ⟨rfl, HN.out⟩
    · clear hin
      go_wp2_with fail
      rw [HBH.out]
      rw [HW6.out]
      clear HW6
      refine wp_region_class (fun w' => (w'.heap[W.heap.size]? = some (.cells #[.int .u64 (W64 s.a), .int .u64 (W64 s.b), .int .u64 (W64 s.c), .int .u64 (W64 s.d)] 44 (0, 0)) ∧ w'.heap[W.heap.size + 1]? = some (.cells #[.int .u64 (W64 t.a), .int .u64 (W64 t.b)] 53 (0, 0)) ∧ w'.heap[bm]? = some (.cells #[.int .u64 18446744073709551615, .int .u64 18446744073709551615, .int .u64 18446744073709551615, .int .u64 18446744073709551615] 45 (0, 0)) ∧ w'.heap[bh]? = some (.cells #[.int .u64 18446744073709551615, .int .u64 18446744073709551615, .int .u64 0, .int .u64 0] 45 (0, 0)) ∧ w'.heap[bh + 1]? = some (.cells #[.int .u64 0, .int .u64 0, .int .u64 0, .int .u64 0] 45 (0, 0))) ∧ New W6 w') (by kernel_rfl) (by kernel_rfl) ⟨⟨((New.refl W6).drew.block _ (lt_of_block HS.out)).trans HS.out, ((New.refl W6).drew.block _ (lt_of_block HT.out)).trans HT.out, ((New.refl W6).drew.block _ (lt_of_block HM.out)).trans HM.out, ((New.refl W6).drew.block _ (lt_of_block HH.out)).trans HH.out, ((New.refl W6).drew.block _ (lt_of_block HP.out)).trans HP.out⟩, (New.refl _).drew⟩ ?_
      intro I _ f hall hback
      have HSTEP : Hid (∀ n w', New (f n) w' → ∃ m, w' = f m) := Lib.hid fun n w' hn => hback w' ⟨⟨(hn.block _ (lt_of_block ((hall n).1.1))).trans ((hall n).1.1), (hn.block _ (lt_of_block ((hall n).1.2.1))).trans ((hall n).1.2.1), (hn.block _ (lt_of_block ((hall n).1.2.2.1))).trans ((hall n).1.2.2.1), (hn.block _ (lt_of_block ((hall n).1.2.2.2.1))).trans ((hall n).1.2.2.2.1), (hn.block _ (lt_of_block ((hall n).1.2.2.2.2))).trans ((hall n).1.2.2.2.2)⟩, (hall n).2.trans hn⟩
      have HALL := Lib.hid fun n => (hall n).2
      have s0 := fun n => cell_of_row _ _ 0 _ _ _ ((hall n).1.1)
      have s1 := fun n => cell_of_row _ _ 1 _ _ _ ((hall n).1.1)
      have s2 := fun n => cell_of_row _ _ 2 _ _ _ ((hall n).1.1)
      have s3 := fun n => cell_of_row _ _ 3 _ _ _ ((hall n).1.1)
      have s4 := fun n => cell_of_row _ _ 0 _ _ _ ((hall n).1.2.1)
      have s5 := fun n => cell_of_row _ _ 1 _ _ _ ((hall n).1.2.1)
      have s6 := fun n => cell_of_row _ _ 0 _ _ _ ((hall n).1.2.2.1)
      have s7 := fun n => cell_of_row _ _ 1 _ _ _ ((hall n).1.2.2.1)
      have s8 := fun n => cell_of_row _ _ 2 _ _ _ ((hall n).1.2.2.1)
      have s9 := fun n => cell_of_row _ _ 3 _ _ _ ((hall n).1.2.2.1)
      have s10 := fun n => cell_of_row _ _ 0 _ _ _ ((hall n).1.2.2.2.1)
      have s11 := fun n => cell_of_row _ _ 1 _ _ _ ((hall n).1.2.2.2.1)
      have s12 := fun n => cell_of_row _ _ 2 _ _ _ ((hall n).1.2.2.2.1)
      have s13 := fun n => cell_of_row _ _ 3 _ _ _ ((hall n).1.2.2.2.1)
      have s14 := fun n => cell_of_row _ _ 0 _ _ _ ((hall n).1.2.2.2.2)
      have s15 := fun n => cell_of_row _ _ 1 _ _ _ ((hall n).1.2.2.2.2)
      have s16 := fun n => cell_of_row _ _ 2 _ _ _ ((hall n).1.2.2.2.2)
      have s17 := fun n => cell_of_row _ _ 3 _ _ _ ((hall n).1.2.2.2.2)
      clear hall hback
      repeat (go_big_quiet_step (first
        | (go_at_call 45; refine class_new HSTEP.out (HJ4.out _))
        | (go_at_call 43; refine class_new HSTEP.out (HJ2.out _))
        | (go_at_call 50; refine class_new HSTEP.out (HPW.out _))))
      refine wpQuiet_nil ?_
      rintro w9 ⟨n1, hw1⟩
      have hS := HALL.out n1
      rw [← hw1] at hS
      replace HS := Lib.hid ((hS.block _ (lt_of_block HS.out)).trans HS.out)
      replace HT := Lib.hid ((hS.block _ (lt_of_block HT.out)).trans HT.out)
      replace HM := Lib.hid ((hS.block _ (lt_of_block HM.out)).trans HM.out)
      replace HH := Lib.hid ((hS.block _ (lt_of_block HH.out)).trans HH.out)
      replace HP := Lib.hid ((hS.block _ (lt_of_block HP.out)).trans HP.out)
      replace HN := Lib.hid (HN.out.trans hS)
      clear HALL HSTEP hw1 hS s0 s1 s2 s3 s4 s5 s6 s7 s8 s9 s10 s11 s12 s13 s14 s15 s16 s17
      go_wp2
      go_ret
      exact ⟨rfl, HN.out⟩
theorem LeapRound_walk (W : World) (x0_0 : BitVec 64) (x0_1 : BitVec 64) (x0_2 : BitVec 64) (x0_3 : BitVec 64) (a1 : Int) (w1 : (Lit.int .i64 a1).wf = true) (x2_0 : BitVec 64) (x2_1 : BitVec 64) (a3 : Int) (w3 : (Lit.int .i64 a3).wf = true) :
    Calls Try.prog 12 #[.agg #[.int .u64 (W64 x0_0), .int .u64 (W64 x0_1), .int .u64 (W64 x0_2), .int .u64 (W64 x0_3)], .int .i64 a1, .agg #[.int .u64 (W64 x2_0), .int .u64 (W64 x2_1)], .int .i64 a3] W fun e w' => e = .returned (.bool true) ∧ Below W.heap.size W w' :=
  LeapRound_any W ⟨x0_0, x0_1, x0_2, x0_3⟩ a1 ⟨x2_0, x2_1⟩ a3 (wfi64 w3).2
end Go.Proofs.Ytppmpledcaonkaa
