/- The walk of the statement LeapBy. -/
import Derived.Test.YtppmpledcaonkaaLqG
namespace Go.Proofs.Ytppmpledcaonkaa
open Go Go.RowKit Go.Bv Go.G2
set_option linter.unusedVariables false
set_option maxRecDepth 100000 in
set_option maxHeartbeats 4000000 in
theorem LeapBy_any (W : World) (a : Option Addr) (a0len c : Nat) (l : List (BitVec 64)) (ha : QRow W a a0len c l) (hn : a0len ≤ 6) (s : V4) (k : Int) (t : V2) :
    Calls Try.prog 8 #[.slice a a0len c, .agg #[.int .u64 (W64 s.a), .int .u64 (W64 s.b), .int .u64 (W64 s.c), .int .u64 (W64 s.d)], .int .i64 k, .agg #[.int .u64 (W64 t.a), .int .u64 (W64 t.b)]] W fun e w' => e = .returned (.bool true) ∧ New W w' := by
  have HA := Lib.hid ha
  have HLN : Hid (a0len = l.length) := Lib.hid ha.len_eq.symm
  have HKA := Lib.hid (k_all k)
  have hb4 : ∀ w, New W w → Calls Try.prog 39 #[.slice a a0len c, .agg #[.int .u64 (W64 (s).a), .int .u64 (W64 (s).b), .int .u64 (W64 (s).c), .int .u64 (W64 (s).d)]] w fun e w' => e = .returned (.agg #[.int .u64 (W64 (LV4.act (vW l) s).a), .int .u64 (W64 (LV4.act (vW l) s).b), .int .u64 (W64 (LV4.act (vW l) s).c), .int .u64 (W64 (LV4.act (vW l) s).d)]) ∧ New w w' := fun w hn' => by4_q a a0len c l s w (ha.stay hn') (by omega)
  have hr4 : ∀ ao co w, LRow w ao (64 * a0len) co (bO (vW l) (64 * a0len)) → Calls Try.prog 40 #[.slice ao (64 * a0len : Nat) co, .agg #[.int .u64 (W64 (s).a), .int .u64 (W64 (s).b), .int .u64 (W64 (s).c), .int .u64 (W64 (s).d)]] w fun e w' => e = .returned (.agg #[.int .u64 (W64 (LV4.act (vW l) s).a), .int .u64 (W64 (LV4.act (vW l) s).b), .int .u64 (W64 (LV4.act (vW l) s).c), .int .u64 (W64 (LV4.act (vW l) s).d)]) ∧ New w w' := fun ao co w h => by
    have h2 := by4_r ao _ co _ s w h (by omega)
    rw [vB_bO_all (by have := vW_lt l; rw [ha.len_eq] at this; exact this)] at h2
    exact h2
  obtain ⟨x, hx⟩ : ∃ x, LV4.act (vW l) s = x := ⟨_, rfl⟩
  rw [hx] at hb4 hr4
  have heq4 := fun w => eq4_same w x
  have hof : ∀ w, New W w → Calls Try.prog 38 #[.slice a a0len c] w fun e w' => ∃ a' c', e = .returned (.slice a' (64 * a0len : Nat) c') ∧ LRow w' a' (64 * a0len) c' (bO (vW l) (64 * a0len)) ∧ New w w' := fun w hn' => of12_r a a0len c l w (ha.stay hn') (by omega)
  have hk2 : ∀ (plus : Bool) (L : Lin V2), Ky k plus L → (∀ w, New W w → Calls Try.prog 42 #[.int .i64 k, .slice a a0len c, .agg #[.int .u64 (W64 (t).a), .int .u64 (W64 (t).b)]] w fun e w' => e = .returned (.agg #[.int .u64 (W64 (L.act (vW l) t).a), .int .u64 (W64 (L.act (vW l) t).b)]) ∧ New w w') ∧ (∀ ao co w, LRow w ao (64 * a0len) co (bO (vW l) (64 * a0len)) → Calls Try.prog 44 #[.int .i64 k, .slice ao (64 * a0len : Nat) co, .agg #[.int .u64 (W64 (t).a), .int .u64 (W64 (t).b)]] w fun e w' => e = .returned (.agg #[.int .u64 (W64 (L.act (vW l) t).a), .int .u64 (W64 (L.act (vW l) t).b)]) ∧ New w w') := fun plus L hK => by
    refine ⟨fun w hn' => hK.by2 a a0len c l t w (ha.stay hn') (by omega), fun ao co w h => ?_⟩
    have h2 := by2_r L hK.lx hK.lz k hK.kd.stepr ao _ co _ t w h (by omega)
    rw [vB_bO_all (by have := vW_lt l; rw [ha.len_eq] at this; exact this)] at h2
    exact h2
  obtain ⟨D, hD⟩ : ∃ D, 64 * a0len = D := ⟨_, rfl⟩
  rw [hD] at hof hr4 hk2
  obtain ⟨B, hB⟩ : ∃ B, bO (vW l) D = B := ⟨_, rfl⟩
  rw [hB] at hof hr4 hk2
  have HB4 := Lib.hid hb4
  have HR4 := Lib.hid hr4
  have HOF := Lib.hid hof
  have HK2 := Lib.hid hk2
  have hsm : ¬ (6 : Int) < (a0len : Int) := by omega
  clear hb4 hr4 hof hk2 hx hD hB ha
  obtain ⟨W9, hW9, xHS, xHT, nW9⟩ : ∃ W9, (W.alloc (.cells #[.int .u64 (W64 s.a), .int .u64 (W64 s.b), .int .u64 (W64 s.c), .int .u64 (W64 s.d)] 44)).alloc (.cells #[.int .u64 (W64 t.a), .int .u64 (W64 t.b)] 53) = W9 ∧ W9.heap[W.heap.size]? = some (.cells #[.int .u64 (W64 s.a), .int .u64 (W64 s.b), .int .u64 (W64 s.c), .int .u64 (W64 s.d)] 44 (0, 0)) ∧ W9.heap[W.heap.size + 1]? = some (.cells #[.int .u64 (W64 t.a), .int .u64 (W64 t.b)] 53 (0, 0)) ∧ New W W9 := by
    refine ⟨_, rfl, ?_, ?_, (((New.refl _).alloc _).alloc _)⟩
    · have h := heap_alloc_new (W) (.cells #[.int .u64 (W64 s.a), .int .u64 (W64 s.b), .int .u64 (W64 s.c), .int .u64 (W64 s.d)] 44)
      replace h := (((New.refl (W.alloc (.cells #[.int .u64 (W64 s.a), .int .u64 (W64 s.b), .int .u64 (W64 s.c), .int .u64 (W64 s.d)] 44))).alloc (.cells #[.int .u64 (W64 t.a), .int .u64 (W64 t.b)] 53)).block _ (lt_of_block h)).trans h
      simpa using h
    · have h := heap_alloc_new (W.alloc (.cells #[.int .u64 (W64 s.a), .int .u64 (W64 s.b), .int .u64 (W64 s.c), .int .u64 (W64 s.d)] 44)) (.cells #[.int .u64 (W64 t.a), .int .u64 (W64 t.b)] 53)
      simpa using h
  have HW9 := Lib.hid hW9
  have NW9 := Lib.hid nW9
  have HS := Lib.hid xHS
  have HT := Lib.hid xHT
  clear hW9 nW9 xHS xHT
  go_enter Try.func8, Try.ntmps8
  go_wp2_with fail
  rw [HW9.out]
  clear HW9
  refine (awake12 _).mono ?_
  rintro e w1 ⟨rfl, hn1⟩
  replace HS := Lib.hid ((hn1.block _ (lt_of_block HS.out)).trans HS.out)
  replace HT := Lib.hid ((hn1.block _ (lt_of_block HT.out)).trans HT.out)
  have HN := Lib.hid (NW9.out.trans hn1)
  clear hn1 NW9
  go_wp2_with fail
  refine (HOF.out _ HN.out).mono ?_
  rintro e w2 ⟨ao, co, rfl, hlo, hn2⟩
  replace HS := Lib.hid ((hn2.block _ (lt_of_block HS.out)).trans HS.out)
  replace HT := Lib.hid ((hn2.block _ (lt_of_block HT.out)).trans HT.out)
  replace HN := Lib.hid (HN.out.trans hn2)
  have HLO := Lib.hid hlo
  clear hlo hn2 HOF
  have HB4W := Lib.hid (fun w (hn' : New w2 w) => HB4.out w (HN.out.trans hn'))
  have HR4W := Lib.hid (fun w (hn' : New w2 w) => HR4.out ao co w (HLO.out.stay hn'))
  have HNQ := Lib.hid (New.refl w2)
  go_wp2_with fail
  refine wp_region_class (fun w' => (w'.heap[W.heap.size]? = some (.cells #[.int .u64 (W64 s.a), .int .u64 (W64 s.b), .int .u64 (W64 s.c), .int .u64 (W64 s.d)] 44 (0, 0)) ∧ w'.heap[W.heap.size + 1]? = some (.cells #[.int .u64 (W64 t.a), .int .u64 (W64 t.b)] 53 (0, 0))) ∧ New w2 w') (by kernel_rfl) (by kernel_rfl) ⟨⟨((New.refl w2).drew.block _ (lt_of_block HS.out)).trans HS.out, ((New.refl w2).drew.block _ (lt_of_block HT.out)).trans HT.out⟩, (New.refl _).drew⟩ ?_
  intro I _ f hall hback
  have HSTEP : Hid (∀ n w', New (f n) w' → ∃ m, w' = f m) := Lib.hid fun n w' hn => hback w' ⟨⟨(hn.block _ (lt_of_block ((hall n).1.1))).trans ((hall n).1.1), (hn.block _ (lt_of_block ((hall n).1.2))).trans ((hall n).1.2)⟩, (hall n).2.trans hn⟩
  have HALL := Lib.hid fun n => (hall n).2
  have s0 := fun n => cell_of_row _ _ 0 _ _ _ ((hall n).1.1)
  have s1 := fun n => cell_of_row _ _ 1 _ _ _ ((hall n).1.1)
  have s2 := fun n => cell_of_row _ _ 2 _ _ _ ((hall n).1.1)
  have s3 := fun n => cell_of_row _ _ 3 _ _ _ ((hall n).1.1)
  have s4 := fun n => cell_of_row _ _ 0 _ _ _ ((hall n).1.2)
  have s5 := fun n => cell_of_row _ _ 1 _ _ _ ((hall n).1.2)
  clear hall hback
  repeat (go_big_quiet_step (first
    | (go_at_call 39; refine class_new HSTEP.out (HB4W.out _ (HALL.out _)))
    | (go_at_call 40; refine class_new HSTEP.out (HR4W.out _ (HALL.out _)))))
  refine wpQuiet_nil ?_
  rintro w9 ⟨n1, hw1⟩
  have hS := HALL.out n1
  rw [← hw1] at hS
  replace HS := Lib.hid ((hS.block _ (lt_of_block HS.out)).trans HS.out)
  replace HT := Lib.hid ((hS.block _ (lt_of_block HT.out)).trans HT.out)
  replace HNQ := Lib.hid (HNQ.out.trans hS)
  clear HALL HSTEP hw1 hS s0 s1 s2 s3 s4 s5
  obtain ⟨wz, hwz⟩ : ∃ z, w9 = z := ⟨_, rfl⟩
  rw [hwz] at HNQ HS HT ⊢
  clear hwz
  replace HN := Lib.hid (HN.out.trans HNQ.out)
  replace HLO := Lib.hid (HLO.out.stay HNQ.out)
  clear HNQ heq4 HB4 HR4 HB4W HR4W
  rcases HKA.out with ⟨h5, h6⟩ | ⟨plus, L, hK⟩
  · have HR := Lib.hid (fun w => right_no k h5 h6 w)
    have HB2 := Lib.hid (fun w => by2_o k h5 h6 a a0len c t w)
    have HJ2 : Hid (∀ w, Calls Try.prog 43 #[.int .i64 k, .agg #[.int .u64 (W64 (t).a), .int .u64 (W64 (t).b)], .agg #[.int .u64 5, .int .u64 0, .int .u64 0, .int .u64 0]] w fun e w' => e = .returned (.agg #[.int .u64 (W64 (t).a), .int .u64 (W64 (t).b)]) ∧ New w w') := Lib.hid (fun w => jump2_o k h5 h6 t 5#64 0#64 0#64 0#64 w)
    have heq2 := fun w => eq2_same w t
    clear HKA h5 h6 HK2
    go_wp2_with fail
    refine (HR.out _).mono ?_
    rintro e w6 ⟨rfl, hw⟩
    replace hw := hw.symm
    subst hw
    clear HR
    go_wp2_with fail
    refine wp_region_class (fun w' => (w'.heap[W.heap.size + 1]? = some (.cells #[.int .u64 (W64 t.a), .int .u64 (W64 t.b)] 53 (0, 0))) ∧ New wz w') (by kernel_rfl) (by kernel_rfl) ⟨((New.refl wz).drew.block _ (lt_of_block HT.out)).trans HT.out, (New.refl _).drew⟩ ?_
    intro I _ f hall hback
    have HSTEP : Hid (∀ n w', New (f n) w' → ∃ m, w' = f m) := Lib.hid fun n w' hn => hback w' ⟨(hn.block _ (lt_of_block (hall n).1)).trans (hall n).1, (hall n).2.trans hn⟩
    have HALL := Lib.hid fun n => (hall n).2
    have s0 := fun n => cell_of_row _ _ 0 _ _ _ ((hall n).1)
    have s1 := fun n => cell_of_row _ _ 1 _ _ _ ((hall n).1)
    clear hall hback
    repeat (go_big_quiet_step (first
      | (go_at_call 42; refine class_new HSTEP.out (HB2.out _))
      | (go_at_call 43; refine class_new HSTEP.out (HJ2.out _))))
    refine wpQuiet_nil ?_
    rintro w9 ⟨n1, hw1⟩
    have hS := HALL.out n1
    rw [← hw1] at hS
    replace HT := Lib.hid ((hS.block _ (lt_of_block HT.out)).trans HT.out)
    replace HN := Lib.hid (HN.out.trans hS)
    clear HALL HSTEP hw1 hS s0 s1
    go_wp2
    go_ret
    exact ⟨rfl, HN.out⟩
  · have HR := Lib.hid (fun w => right_yes k hK.yes w)
    obtain ⟨hb2, hr2⟩ := HK2.out plus L hK
    obtain ⟨y, hy⟩ : ∃ y, L.act (vW l) t = y := ⟨_, rfl⟩
    rw [hy] at hb2 hr2
    have HB2 := Lib.hid (fun w (hn' : New wz w) => hb2 w (HN.out.trans hn'))
    have HR2 := Lib.hid (fun w (hn' : New wz w) => hr2 ao co w (HLO.out.stay hn'))
    have heq2 := fun w => eq2_same w y
    clear HKA hb2 hr2 hy HK2 hK
    go_wp2_with fail
    refine (HR.out _).mono ?_
    rintro e w6 ⟨rfl, hw⟩
    replace hw := hw.symm
    subst hw
    clear HR
    go_wp2_with fail
    refine wp_region_class (fun w' => (w'.heap[W.heap.size + 1]? = some (.cells #[.int .u64 (W64 t.a), .int .u64 (W64 t.b)] 53 (0, 0))) ∧ New wz w') (by kernel_rfl) (by kernel_rfl) ⟨((New.refl wz).drew.block _ (lt_of_block HT.out)).trans HT.out, (New.refl _).drew⟩ ?_
    intro I _ f hall hback
    have HSTEP : Hid (∀ n w', New (f n) w' → ∃ m, w' = f m) := Lib.hid fun n w' hn => hback w' ⟨(hn.block _ (lt_of_block (hall n).1)).trans (hall n).1, (hall n).2.trans hn⟩
    have HALL := Lib.hid fun n => (hall n).2
    have s0 := fun n => cell_of_row _ _ 0 _ _ _ ((hall n).1)
    have s1 := fun n => cell_of_row _ _ 1 _ _ _ ((hall n).1)
    clear hall hback
    repeat (go_big_quiet_step (first
      | (go_at_call 42; refine class_new HSTEP.out (HB2.out _ (HALL.out _)))
      | (go_at_call 44; refine class_new HSTEP.out (HR2.out _ (HALL.out _)))))
    refine wpQuiet_nil ?_
    rintro w9 ⟨n1, hw1⟩
    have hS := HALL.out n1
    rw [← hw1] at hS
    replace HT := Lib.hid ((hS.block _ (lt_of_block HT.out)).trans HT.out)
    replace HN := Lib.hid (HN.out.trans hS)
    clear HALL HSTEP hw1 hS s0 s1
    go_wp2
    go_ret
    exact ⟨rfl, HN.out⟩
set_option maxRecDepth 100000 in
theorem LeapBy_long (W : World) (a : Option Addr) (n c : Nat) (hn : 6 < n) (hm : n ≤ 17592186044416) (s : V4) (k : Int) (t : V2) :
    Calls Try.prog 8 #[.slice a n c, .agg #[.int .u64 (W64 s.a), .int .u64 (W64 s.b), .int .u64 (W64 s.c), .int .u64 (W64 s.d)], .int .i64 k, .agg #[.int .u64 (W64 t.a), .int .u64 (W64 t.b)]] W fun e w' => e = .returned (.bool true) ∧ New W w' := by
  have hn2 : (6 : Int) < (n : Int) := by omega
  have hn3 : New W ((W.alloc (.cells #[.int .u64 (W64 s.a), .int .u64 (W64 s.b), .int .u64 (W64 s.c), .int .u64 (W64 s.d)] 44)).alloc (.cells #[.int .u64 (W64 t.a), .int .u64 (W64 t.b)] 53)) := ((New.refl W).alloc _).alloc _
  obtain ⟨W9, hW9⟩ : ∃ z, (W.alloc (.cells #[.int .u64 (W64 s.a), .int .u64 (W64 s.b), .int .u64 (W64 s.c), .int .u64 (W64 s.d)] 44)).alloc (.cells #[.int .u64 (W64 t.a), .int .u64 (W64 t.b)] 53) = z := ⟨_, rfl⟩
  rw [hW9] at hn3
  have HW9 := Lib.hid hW9
  have HN := Lib.hid hn3
  clear hW9 hn3 hn
  go_enter Try.func8, Try.ntmps8
  go_wp2_with fail
  rw [HW9.out]
  clear HW9
  refine (awake12 _).mono ?_
  rintro e w1 ⟨rfl, hn1⟩
  have HN1 := Lib.hid (HN.out.trans hn1)
  clear hn1
  go_wp2
  go_ret
  exact ⟨rfl, HN1.out⟩
theorem LeapBy_walk (W : World) (a0 : Option Addr) (n0 m0 : Nat) (z0 : List Int) (w0 : IRow .u64 W a0 n0 m0 z0) (r0 : m0 * 8 ≤ 140737488351232) (x1_0 : BitVec 64) (x1_1 : BitVec 64) (x1_2 : BitVec 64) (x1_3 : BitVec 64) (a2 : Int) (w2 : (Lit.int .i64 a2).wf = true) (x3_0 : BitVec 64) (x3_1 : BitVec 64) :
    Calls Try.prog 8 #[.slice a0 n0 m0, .agg #[.int .u64 (W64 x1_0), .int .u64 (W64 x1_1), .int .u64 (W64 x1_2), .int .u64 (W64 x1_3)], .int .i64 a2, .agg #[.int .u64 (W64 x3_0), .int .u64 (W64 x3_1)]] W fun e w' => e = .returned (.bool true) ∧ Below W.heap.size W w' := by
  obtain ⟨l0, hl0⟩ := w0.words r0
  by_cases hn : n0 ≤ 6
  · exact LeapBy_any W a0 n0 m0 l0 hl0 hn ⟨x1_0, x1_1, x1_2, x1_3⟩ a2 ⟨x3_0, x3_1⟩
  · exact LeapBy_long W a0 n0 m0 (by omega) (by have := hl0.most; omega) ⟨x1_0, x1_1, x1_2, x1_3⟩ a2 ⟨x3_0, x3_1⟩
end Go.Proofs.Ytppmpledcaonkaa
