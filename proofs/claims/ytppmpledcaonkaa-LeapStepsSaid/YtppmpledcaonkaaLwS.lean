/- The walk of the statement LeapSteps. -/
import Derived.Test.YtppmpledcaonkaaLqG
namespace Go.Proofs.Ytppmpledcaonkaa
open Go Go.RowKit Go.Bv Go.G2
set_option linter.unusedVariables false
set_option maxRecDepth 100000 in
set_option maxHeartbeats 4000000 in
theorem LeapSteps_any (W : World) (s : V4) (k : Int) (t : V2) (n : Int) :
    Calls Try.prog 9 #[.agg #[.int .u64 (W64 s.a), .int .u64 (W64 s.b), .int .u64 (W64 s.c), .int .u64 (W64 s.d)], .int .i64 k, .agg #[.int .u64 (W64 t.a), .int .u64 (W64 t.b)], .int .i64 n] W fun e w' => e = .returned (.bool true) ∧ New W w' := by
  have HM : Hid (0 ≤ n → n ≤ 400 → ∃ m : Nat, n = (m : Int) ∧ m ≤ 400) := Lib.hid (fun h1 h2 => ⟨n.toNat, by omega, by omega⟩)
  obtain ⟨L, hL⟩ := kd_all k
  have HL := Lib.hid hL
  clear hL
  obtain ⟨W9, hW9, xHS, xHT, nW9⟩ : ∃ W9, (W.alloc (.cells #[.int .u64 (W64 s.a), .int .u64 (W64 s.b), .int .u64 (W64 s.c), .int .u64 (W64 s.d)] 44)).alloc (.cells #[.int .u64 (W64 t.a), .int .u64 (W64 t.b)] 53) = W9 ∧ W9.heap[W.heap.size]? = some (.cells #[.int .u64 (W64 s.a), .int .u64 (W64 s.b), .int .u64 (W64 s.c), .int .u64 (W64 s.d)] 44 (0, 0)) ∧ W9.heap[W.heap.size + 1]? = some (.cells #[.int .u64 (W64 t.a), .int .u64 (W64 t.b)] 53 (0, 0)) ∧ New W W9 := by
    refine ⟨_, rfl, ?_, ?_, (((New.refl _).alloc _).alloc _)⟩
    · have h := heap_alloc_new (W) (.cells #[.int .u64 (W64 s.a), .int .u64 (W64 s.b), .int .u64 (W64 s.c), .int .u64 (W64 s.d)] 44)
      replace h := (((New.refl (W.alloc (.cells #[.int .u64 (W64 s.a), .int .u64 (W64 s.b), .int .u64 (W64 s.c), .int .u64 (W64 s.d)] 44))).alloc (.cells #[.int .u64 (W64 t.a), .int .u64 (W64 t.b)] 53)).block _ (lt_of_block h)).trans h
      simpa using h
    · have h := heap_alloc_new (W.alloc (.cells #[.int .u64 (W64 s.a), .int .u64 (W64 s.b), .int .u64 (W64 s.c), .int .u64 (W64 s.d)] 44)) (.cells #[.int .u64 (W64 t.a), .int .u64 (W64 t.b)] 53)
      simpa using h
  have HW9 := Lib.hid hW9
  have NW9 := Lib.hid nW9
  have HS := Lib.hid xHS
  have HT := Lib.hid xHT
  clear hW9 nW9 xHS xHT
  go_enter Try.func9, Try.ntmps9
  go_wp2_with fail
  rw [HW9.out]
  clear HW9
  refine (awake12 _).mono ?_
  rintro e w1 ⟨rfl, hn1⟩
  replace HS := Lib.hid ((hn1.block _ (lt_of_block HS.out)).trans HS.out)
  replace HT := Lib.hid ((hn1.block _ (lt_of_block HT.out)).trans HT.out)
  have HN1 := Lib.hid (NW9.out.trans hn1)
  clear hn1 NW9
  by_cases h1 : n < 0
  · go_wp2
    go_ret
    exact ⟨rfl, HN1.out⟩
  by_cases h2 : 400 < n
  · go_wp2
    go_ret
    exact ⟨rfl, HN1.out⟩
  obtain ⟨m, rfl, hm⟩ := HM.out (by omega) (by omega)
  obtain ⟨x, hx⟩ : ∃ x, BitVec.ofNat 64 m = x := ⟨_, rfl⟩
  have hxm : x.toNat = m := by rw [← hx, BitVec.toNat_ofNat]; omega
  have hfo : four x 0#64 0#64 0#64 = m := by rw [four_low, hxm]
  have hj4 : ∀ w, Calls Try.prog 45 #[.agg #[.int .u64 (W64 (s).a), .int .u64 (W64 (s).b), .int .u64 (W64 (s).c), .int .u64 (W64 (s).d)], .agg #[.int .u64 (W64 x), .int .u64 0, .int .u64 0, .int .u64 0]] w fun e w' => e = .returned (.agg #[.int .u64 (W64 (LV4.it m s).a), .int .u64 (W64 (LV4.it m s).b), .int .u64 (W64 (LV4.it m s).c), .int .u64 (W64 (LV4.it m s).d)]) ∧ New w w' := fun w => by
    have h := jump4_q s x 0#64 0#64 0#64 w
    rw [hfo] at h
    exact h
  have hj2 : ∀ w, Calls Try.prog 43 #[.int .i64 k, .agg #[.int .u64 (W64 (t).a), .int .u64 (W64 (t).b)], .agg #[.int .u64 (W64 x), .int .u64 0, .int .u64 0, .int .u64 0]] w fun e w' => e = .returned (.agg #[.int .u64 (W64 (L.it m t).a), .int .u64 (W64 (L.it m t).b)]) ∧ New w w' := fun w => by
    have h := HL.out.jump t x 0#64 0#64 0#64 w
    rw [hfo] at h
    exact h
  have hs4 := fun w => steps4_r s m (by omega) w
  have hs2 := fun w => steps2_r L k HL.out.stepr t m (by omega) w
  obtain ⟨r, hr⟩ : ∃ r, LV4.it m s = r := ⟨_, rfl⟩
  rw [hr] at hj4 hs4
  obtain ⟨u, hu⟩ : ∃ u, L.it m t = u := ⟨_, rfl⟩
  rw [hu] at hj2 hs2
  have heq4 := fun w => eq4_same w r
  have heq2 := fun w => eq2_same w u
  have HJ4 := Lib.hid hj4
  have HJ2 := Lib.hid hj2
  have HS4 := Lib.hid hs4
  have HS2 := Lib.hid hs2
  have HOF := Lib.hid (fun w => wof4 x w)
  have HX := Lib.hid hx
  clear hj4 hj2 hs4 hs2 hr hu hx hxm hfo HL HM
  go_wp2_with fail
  rw [HX.out]
  refine (HOF.out _).mono ?_
  rintro e w2 ⟨rfl, hn2⟩
  replace HS := Lib.hid ((hn2.block _ (lt_of_block HS.out)).trans HS.out)
  replace HT := Lib.hid ((hn2.block _ (lt_of_block HT.out)).trans HT.out)
  have HN2 := Lib.hid (HN1.out.trans hn2)
  have hn3 : New w2 (w2.alloc (.cells #[.int .u64 (W64 x), .int .u64 0, .int .u64 0, .int .u64 0] 45)) := (New.refl _).alloc _
  have hb3 := heap_alloc_new w2 (.cells #[.int .u64 (W64 x), .int .u64 0, .int .u64 0, .int .u64 0] 45)
  obtain ⟨W3, hW3⟩ : ∃ z, w2.alloc (.cells #[.int .u64 (W64 x), .int .u64 0, .int .u64 0, .int .u64 0] 45) = z := ⟨_, rfl⟩
  rw [hW3] at hn3 hb3
  have HW3 := Lib.hid hW3
  have HC := Lib.hid hb3
  replace HS := Lib.hid ((hn3.block _ (lt_of_block HS.out)).trans HS.out)
  replace HT := Lib.hid ((hn3.block _ (lt_of_block HT.out)).trans HT.out)
  have HN3 := Lib.hid (HN2.out.trans hn3)
  clear hn2 hn3 hb3 hW3 HN2 HN1 HOF HX
  obtain ⟨bc, hbc⟩ : ∃ bc, w2.heap.size = bc := ⟨_, rfl⟩
  rw [hbc] at HC
  have HBC := Lib.hid hbc
  clear hbc
  go_wp2_with fail
  rw [HW3.out, HBC.out]
  clear HW3 HBC
  refine wp_region_class (fun w' => (w'.heap[W.heap.size]? = some (.cells #[.int .u64 (W64 s.a), .int .u64 (W64 s.b), .int .u64 (W64 s.c), .int .u64 (W64 s.d)] 44 (0, 0)) ∧ w'.heap[W.heap.size + 1]? = some (.cells #[.int .u64 (W64 t.a), .int .u64 (W64 t.b)] 53 (0, 0)) ∧ w'.heap[bc]? = some (.cells #[.int .u64 (W64 x), .int .u64 0, .int .u64 0, .int .u64 0] 45 (0, 0))) ∧ New W3 w') (by kernel_rfl) (by kernel_rfl) ⟨⟨((New.refl W3).drew.block _ (lt_of_block HS.out)).trans HS.out, ((New.refl W3).drew.block _ (lt_of_block HT.out)).trans HT.out, ((New.refl W3).drew.block _ (lt_of_block HC.out)).trans HC.out⟩, (New.refl _).drew⟩ ?_
  intro I _ f hall hback
  have HSTEP : Hid (∀ n w', New (f n) w' → ∃ m, w' = f m) := Lib.hid fun n w' hn => hback w' ⟨⟨(hn.block _ (lt_of_block ((hall n).1.1))).trans ((hall n).1.1), (hn.block _ (lt_of_block ((hall n).1.2.1))).trans ((hall n).1.2.1), (hn.block _ (lt_of_block ((hall n).1.2.2))).trans ((hall n).1.2.2)⟩, (hall n).2.trans hn⟩
  have HALL := Lib.hid fun n => (hall n).2
  have s0 := fun n => cell_of_row _ _ 0 _ _ _ ((hall n).1.1)
  have s1 := fun n => cell_of_row _ _ 1 _ _ _ ((hall n).1.1)
  have s2 := fun n => cell_of_row _ _ 2 _ _ _ ((hall n).1.1)
  have s3 := fun n => cell_of_row _ _ 3 _ _ _ ((hall n).1.1)
  have s4 := fun n => cell_of_row _ _ 0 _ _ _ ((hall n).1.2.1)
  have s5 := fun n => cell_of_row _ _ 1 _ _ _ ((hall n).1.2.1)
  have s6 := fun n => cell_of_row _ _ 0 _ _ _ ((hall n).1.2.2)
  have s7 := fun n => cell_of_row _ _ 1 _ _ _ ((hall n).1.2.2)
  have s8 := fun n => cell_of_row _ _ 2 _ _ _ ((hall n).1.2.2)
  have s9 := fun n => cell_of_row _ _ 3 _ _ _ ((hall n).1.2.2)
  clear hall hback
  repeat (go_big_quiet_step (first
    | (go_at_call 45; refine class_new HSTEP.out (HJ4.out _))
    | (go_at_call 46; refine class_new HSTEP.out (HS4.out _))
    | (go_at_call 43; refine class_new HSTEP.out (HJ2.out _))
    | (go_at_call 47; refine class_new HSTEP.out (HS2.out _))))
  refine wpQuiet_nil ?_
  rintro w9 ⟨n1, hw1⟩
  have hS := HALL.out n1
  rw [← hw1] at hS
  replace HS := Lib.hid ((hS.block _ (lt_of_block HS.out)).trans HS.out)
  replace HT := Lib.hid ((hS.block _ (lt_of_block HT.out)).trans HT.out)
  replace HC := Lib.hid ((hS.block _ (lt_of_block HC.out)).trans HC.out)
  replace HN3 := Lib.hid (HN3.out.trans hS)
  clear HALL HSTEP hw1 hS s0 s1 s2 s3 s4 s5 s6 s7 s8 s9
  go_wp2
  go_ret
  exact ⟨rfl, HN3.out⟩
theorem LeapSteps_walk (W : World) (x0_0 : BitVec 64) (x0_1 : BitVec 64) (x0_2 : BitVec 64) (x0_3 : BitVec 64) (a1 : Int) (w1 : (Lit.int .i64 a1).wf = true) (x2_0 : BitVec 64) (x2_1 : BitVec 64) (a3 : Int) (w3 : (Lit.int .i64 a3).wf = true) :
    Calls Try.prog 9 #[.agg #[.int .u64 (W64 x0_0), .int .u64 (W64 x0_1), .int .u64 (W64 x0_2), .int .u64 (W64 x0_3)], .int .i64 a1, .agg #[.int .u64 (W64 x2_0), .int .u64 (W64 x2_1)], .int .i64 a3] W fun e w' => e = .returned (.bool true) ∧ Below W.heap.size W w' :=
  LeapSteps_any W ⟨x0_0, x0_1, x0_2, x0_3⟩ a1 ⟨x2_0, x2_1⟩ a3
end Go.Proofs.Ytppmpledcaonkaa
