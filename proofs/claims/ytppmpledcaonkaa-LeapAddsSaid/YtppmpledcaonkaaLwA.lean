/- The walk of the statement LeapAdds. -/
import Derived.Test.YtppmpledcaonkaaLqG
namespace Go.Proofs.Ytppmpledcaonkaa
open Go Go.RowKit Go.Bv Go.G2
set_option linter.unusedVariables false
set_option maxRecDepth 100000 in
set_option maxHeartbeats 4000000 in
theorem LeapAdds_any (W : World) (s : V4) (k : Int) (t : V2) (a0 a1 a2 a3 : BitVec 64) (b0 b1 b2 b3 : BitVec 64) :
    Calls Try.prog 10 #[.agg #[.int .u64 (W64 s.a), .int .u64 (W64 s.b), .int .u64 (W64 s.c), .int .u64 (W64 s.d)], .int .i64 k, .agg #[.int .u64 (W64 t.a), .int .u64 (W64 t.b)], .agg #[.int .u64 (W64 a0), .int .u64 (W64 a1), .int .u64 (W64 a2), .int .u64 (W64 a3)], .agg #[.int .u64 (W64 b0), .int .u64 (W64 b1), .int .u64 (W64 b2), .int .u64 (W64 b3)]] W fun e w' => e = .returned (.bool true) ∧ New W w' := by
  obtain ⟨L, hL⟩ := kd_all k
  have hja : ∀ w, Calls Try.prog 45 #[.agg #[.int .u64 (W64 (s).a), .int .u64 (W64 (s).b), .int .u64 (W64 (s).c), .int .u64 (W64 (s).d)], .agg #[.int .u64 (W64 a0), .int .u64 (W64 a1), .int .u64 (W64 a2), .int .u64 (W64 a3)]] w fun e w' => e = .returned (.agg #[.int .u64 (W64 (LV4.it (four a0 a1 a2 a3) s).a), .int .u64 (W64 (LV4.it (four a0 a1 a2 a3) s).b), .int .u64 (W64 (LV4.it (four a0 a1 a2 a3) s).c), .int .u64 (W64 (LV4.it (four a0 a1 a2 a3) s).d)]) ∧ New w w' := fun w => jump4_q s a0 a1 a2 a3 w
  have hjb : ∀ w, Calls Try.prog 45 #[.agg #[.int .u64 (W64 (LV4.it (four a0 a1 a2 a3) s).a), .int .u64 (W64 (LV4.it (four a0 a1 a2 a3) s).b), .int .u64 (W64 (LV4.it (four a0 a1 a2 a3) s).c), .int .u64 (W64 (LV4.it (four a0 a1 a2 a3) s).d)], .agg #[.int .u64 (W64 b0), .int .u64 (W64 b1), .int .u64 (W64 b2), .int .u64 (W64 b3)]] w fun e w' => e = .returned (.agg #[.int .u64 (W64 (LV4.it (four b0 b1 b2 b3) (LV4.it (four a0 a1 a2 a3) s)).a), .int .u64 (W64 (LV4.it (four b0 b1 b2 b3) (LV4.it (four a0 a1 a2 a3) s)).b), .int .u64 (W64 (LV4.it (four b0 b1 b2 b3) (LV4.it (four a0 a1 a2 a3) s)).c), .int .u64 (W64 (LV4.it (four b0 b1 b2 b3) (LV4.it (four a0 a1 a2 a3) s)).d)]) ∧ New w w' := fun w => jump4_q _ b0 b1 b2 b3 w
  have hjs : ∀ c0 c1 c2 c3 : BitVec 64, four c0 c1 c2 c3 = four b0 b1 b2 b3 + four a0 a1 a2 a3 → ∀ w, Calls Try.prog 45 #[.agg #[.int .u64 (W64 (s).a), .int .u64 (W64 (s).b), .int .u64 (W64 (s).c), .int .u64 (W64 (s).d)], .agg #[.int .u64 (W64 c0), .int .u64 (W64 c1), .int .u64 (W64 c2), .int .u64 (W64 c3)]] w fun e w' => e = .returned (.agg #[.int .u64 (W64 (LV4.it (four b0 b1 b2 b3) (LV4.it (four a0 a1 a2 a3) s)).a), .int .u64 (W64 (LV4.it (four b0 b1 b2 b3) (LV4.it (four a0 a1 a2 a3) s)).b), .int .u64 (W64 (LV4.it (four b0 b1 b2 b3) (LV4.it (four a0 a1 a2 a3) s)).c), .int .u64 (W64 (LV4.it (four b0 b1 b2 b3) (LV4.it (four a0 a1 a2 a3) s)).d)]) ∧ New w w' := fun c0 c1 c2 c3 h w => by
    have h2 := jump4_q s c0 c1 c2 c3 w
    rw [h, LV4.it_add] at h2
    exact h2
  have hka : ∀ w, Calls Try.prog 43 #[.int .i64 k, .agg #[.int .u64 (W64 (t).a), .int .u64 (W64 (t).b)], .agg #[.int .u64 (W64 a0), .int .u64 (W64 a1), .int .u64 (W64 a2), .int .u64 (W64 a3)]] w fun e w' => e = .returned (.agg #[.int .u64 (W64 (L.it (four a0 a1 a2 a3) t).a), .int .u64 (W64 (L.it (four a0 a1 a2 a3) t).b)]) ∧ New w w' := fun w => hL.jump t a0 a1 a2 a3 w
  have hkb : ∀ w, Calls Try.prog 43 #[.int .i64 k, .agg #[.int .u64 (W64 (L.it (four a0 a1 a2 a3) t).a), .int .u64 (W64 (L.it (four a0 a1 a2 a3) t).b)], .agg #[.int .u64 (W64 b0), .int .u64 (W64 b1), .int .u64 (W64 b2), .int .u64 (W64 b3)]] w fun e w' => e = .returned (.agg #[.int .u64 (W64 (L.it (four b0 b1 b2 b3) (L.it (four a0 a1 a2 a3) t)).a), .int .u64 (W64 (L.it (four b0 b1 b2 b3) (L.it (four a0 a1 a2 a3) t)).b)]) ∧ New w w' := fun w => hL.jump _ b0 b1 b2 b3 w
  have hks : ∀ c0 c1 c2 c3 : BitVec 64, four c0 c1 c2 c3 = four b0 b1 b2 b3 + four a0 a1 a2 a3 → ∀ w, Calls Try.prog 43 #[.int .i64 k, .agg #[.int .u64 (W64 (t).a), .int .u64 (W64 (t).b)], .agg #[.int .u64 (W64 c0), .int .u64 (W64 c1), .int .u64 (W64 c2), .int .u64 (W64 c3)]] w fun e w' => e = .returned (.agg #[.int .u64 (W64 (L.it (four b0 b1 b2 b3) (L.it (four a0 a1 a2 a3) t)).a), .int .u64 (W64 (L.it (four b0 b1 b2 b3) (L.it (four a0 a1 a2 a3) t)).b)]) ∧ New w w' := fun c0 c1 c2 c3 h w => by
    have h2 := hL.jump t c0 c1 c2 c3 w
    rw [h, L.it_add] at h2
    exact h2
  obtain ⟨r2, hr2⟩ : ∃ r, LV4.it (four b0 b1 b2 b3) (LV4.it (four a0 a1 a2 a3) s) = r := ⟨_, rfl⟩
  rw [hr2] at hjb hjs
  obtain ⟨r1, hr1⟩ : ∃ r, LV4.it (four a0 a1 a2 a3) s = r := ⟨_, rfl⟩
  rw [hr1] at hja hjb
  obtain ⟨u2, hu2⟩ : ∃ r, L.it (four b0 b1 b2 b3) (L.it (four a0 a1 a2 a3) t) = r := ⟨_, rfl⟩
  rw [hu2] at hkb hks
  obtain ⟨u1, hu1⟩ : ∃ r, L.it (four a0 a1 a2 a3) t = r := ⟨_, rfl⟩
  rw [hu1] at hka hkb
  have HJA := Lib.hid hja
  have HJB := Lib.hid hjb
  have HJS := Lib.hid hjs
  have HKA := Lib.hid hka
  have HKB := Lib.hid hkb
  have HKS := Lib.hid hks
  have HAD := Lib.hid (fun w => wadd4 a0 a1 a2 a3 b0 b1 b2 b3 w)
  have HSUM : Hid (∀ s0 s1 s2 s3 : BitVec 64, ¬ 2 ^ 256 ≤ four a0 a1 a2 a3 + four b0 b1 b2 b3 → (s0 = BitVec.ofNat 64 (four a0 a1 a2 a3 + four b0 b1 b2 b3) ∧ s1 = BitVec.ofNat 64 ((four a0 a1 a2 a3 + four b0 b1 b2 b3) / 2 ^ 64) ∧ s2 = BitVec.ofNat 64 ((four a0 a1 a2 a3 + four b0 b1 b2 b3) / 2 ^ 128) ∧ s3 = BitVec.ofNat 64 ((four a0 a1 a2 a3 + four b0 b1 b2 b3) / 2 ^ 192)) → four s0 s1 s2 s3 = four b0 b1 b2 b3 + four a0 a1 a2 a3) := Lib.hid (by
    rintro s0 s1 s2 s3 hh ⟨rfl, rfl, rfl, rfl⟩
    rw [four_of _ (by omega), Nat.add_comm])
  obtain ⟨ov, hov⟩ : ∃ ov : Bool, decide (2 ^ 256 ≤ four a0 a1 a2 a3 + four b0 b1 b2 b3) = ov := ⟨_, rfl⟩
  rw [hov] at HAD
  have HOV : Hid (ov = false → ¬ 2 ^ 256 ≤ four a0 a1 a2 a3 + four b0 b1 b2 b3) := Lib.hid (fun h => by rw [h] at hov; exact of_decide_eq_false hov)
  clear hja hjb hjs hka hkb hks hr1 hr2 hu1 hu2 hL hov
  have heq4 := fun w => eq4_same w r2
  have heq2 := fun w => eq2_same w u2
  obtain ⟨W9, hW9, xHS, xHT, xHA, xHB, nW9⟩ : ∃ W9, (((W.alloc (.cells #[.int .u64 (W64 s.a), .int .u64 (W64 s.b), .int .u64 (W64 s.c), .int .u64 (W64 s.d)] 44)).alloc (.cells #[.int .u64 (W64 t.a), .int .u64 (W64 t.b)] 53)).alloc (.cells #[.int .u64 (W64 a0), .int .u64 (W64 a1), .int .u64 (W64 a2), .int .u64 (W64 a3)] 45)).alloc (.cells #[.int .u64 (W64 b0), .int .u64 (W64 b1), .int .u64 (W64 b2), .int .u64 (W64 b3)] 45) = W9 ∧ W9.heap[W.heap.size]? = some (.cells #[.int .u64 (W64 s.a), .int .u64 (W64 s.b), .int .u64 (W64 s.c), .int .u64 (W64 s.d)] 44 (0, 0)) ∧ W9.heap[W.heap.size + 1]? = some (.cells #[.int .u64 (W64 t.a), .int .u64 (W64 t.b)] 53 (0, 0)) ∧ W9.heap[W.heap.size + 1 + 1]? = some (.cells #[.int .u64 (W64 a0), .int .u64 (W64 a1), .int .u64 (W64 a2), .int .u64 (W64 a3)] 45 (0, 0)) ∧ W9.heap[W.heap.size + 1 + 1 + 1]? = some (.cells #[.int .u64 (W64 b0), .int .u64 (W64 b1), .int .u64 (W64 b2), .int .u64 (W64 b3)] 45 (0, 0)) ∧ New W W9 := by
    refine ⟨_, rfl, ?_, ?_, ?_, ?_, (((((New.refl _).alloc _).alloc _).alloc _).alloc _)⟩
    · have h := heap_alloc_new (W) (.cells #[.int .u64 (W64 s.a), .int .u64 (W64 s.b), .int .u64 (W64 s.c), .int .u64 (W64 s.d)] 44)
      replace h := (((New.refl (W.alloc (.cells #[.int .u64 (W64 s.a), .int .u64 (W64 s.b), .int .u64 (W64 s.c), .int .u64 (W64 s.d)] 44))).alloc (.cells #[.int .u64 (W64 t.a), .int .u64 (W64 t.b)] 53)).block _ (lt_of_block h)).trans h
      replace h := (((New.refl ((W.alloc (.cells #[.int .u64 (W64 s.a), .int .u64 (W64 s.b), .int .u64 (W64 s.c), .int .u64 (W64 s.d)] 44)).alloc (.cells #[.int .u64 (W64 t.a), .int .u64 (W64 t.b)] 53))).alloc (.cells #[.int .u64 (W64 a0), .int .u64 (W64 a1), .int .u64 (W64 a2), .int .u64 (W64 a3)] 45)).block _ (lt_of_block h)).trans h
      replace h := (((New.refl (((W.alloc (.cells #[.int .u64 (W64 s.a), .int .u64 (W64 s.b), .int .u64 (W64 s.c), .int .u64 (W64 s.d)] 44)).alloc (.cells #[.int .u64 (W64 t.a), .int .u64 (W64 t.b)] 53)).alloc (.cells #[.int .u64 (W64 a0), .int .u64 (W64 a1), .int .u64 (W64 a2), .int .u64 (W64 a3)] 45))).alloc (.cells #[.int .u64 (W64 b0), .int .u64 (W64 b1), .int .u64 (W64 b2), .int .u64 (W64 b3)] 45)).block _ (lt_of_block h)).trans h
      simpa using h
    · have h := heap_alloc_new (W.alloc (.cells #[.int .u64 (W64 s.a), .int .u64 (W64 s.b), .int .u64 (W64 s.c), .int .u64 (W64 s.d)] 44)) (.cells #[.int .u64 (W64 t.a), .int .u64 (W64 t.b)] 53)
      replace h := (((New.refl ((W.alloc (.cells #[.int .u64 (W64 s.a), .int .u64 (W64 s.b), .int .u64 (W64 s.c), .int .u64 (W64 s.d)] 44)).alloc (.cells #[.int .u64 (W64 t.a), .int .u64 (W64 t.b)] 53))).alloc (.cells #[.int .u64 (W64 a0), .int .u64 (W64 a1), .int .u64 (W64 a2), .int .u64 (W64 a3)] 45)).block _ (lt_of_block h)).trans h
      replace h := (((New.refl (((W.alloc (.cells #[.int .u64 (W64 s.a), .int .u64 (W64 s.b), .int .u64 (W64 s.c), .int .u64 (W64 s.d)] 44)).alloc (.cells #[.int .u64 (W64 t.a), .int .u64 (W64 t.b)] 53)).alloc (.cells #[.int .u64 (W64 a0), .int .u64 (W64 a1), .int .u64 (W64 a2), .int .u64 (W64 a3)] 45))).alloc (.cells #[.int .u64 (W64 b0), .int .u64 (W64 b1), .int .u64 (W64 b2), .int .u64 (W64 b3)] 45)).block _ (lt_of_block h)).trans h
      simpa using h
    · have h := heap_alloc_new ((W.alloc (.cells #[.int .u64 (W64 s.a), .int .u64 (W64 s.b), .int .u64 (W64 s.c), .int .u64 (W64 s.d)] 44)).alloc (.cells #[.int .u64 (W64 t.a), .int .u64 (W64 t.b)] 53)) (.cells #[.int .u64 (W64 a0), .int .u64 (W64 a1), .int .u64 (W64 a2), .int .u64 (W64 a3)] 45)
      replace h := (((New.refl (((W.alloc (.cells #[.int .u64 (W64 s.a), .int .u64 (W64 s.b), .int .u64 (W64 s.c), .int .u64 (W64 s.d)] 44)).alloc (.cells #[.int .u64 (W64 t.a), .int .u64 (W64 t.b)] 53)).alloc (.cells #[.int .u64 (W64 a0), .int .u64 (W64 a1), .int .u64 (W64 a2), .int .u64 (W64 a3)] 45))).alloc (.cells #[.int .u64 (W64 b0), .int .u64 (W64 b1), .int .u64 (W64 b2), .int .u64 (W64 b3)] 45)).block _ (lt_of_block h)).trans h
      simpa using h
    · have h := heap_alloc_new (((W.alloc (.cells #[.int .u64 (W64 s.a), .int .u64 (W64 s.b), .int .u64 (W64 s.c), .int .u64 (W64 s.d)] 44)).alloc (.cells #[.int .u64 (W64 t.a), .int .u64 (W64 t.b)] 53)).alloc (.cells #[.int .u64 (W64 a0), .int .u64 (W64 a1), .int .u64 (W64 a2), .int .u64 (W64 a3)] 45)) (.cells #[.int .u64 (W64 b0), .int .u64 (W64 b1), .int .u64 (W64 b2), .int .u64 (W64 b3)] 45)
      simpa using h
  have HW9 := Lib.hid hW9
  have NW9 := Lib.hid nW9
  have HS := Lib.hid xHS
  have HT := Lib.hid xHT
  have HA := Lib.hid xHA
  have HB := Lib.hid xHB
  clear hW9 nW9 xHS xHT xHA xHB
  go_enter Try.func10, Try.ntmps10
  go_wp2_with fail
  rw [HW9.out]
  clear HW9
  refine (awake12 _).mono ?_
  rintro e w1 ⟨rfl, hn1⟩
  replace HS := Lib.hid ((hn1.block _ (lt_of_block HS.out)).trans HS.out)
  replace HT := Lib.hid ((hn1.block _ (lt_of_block HT.out)).trans HT.out)
  replace HA := Lib.hid ((hn1.block _ (lt_of_block HA.out)).trans HA.out)
  replace HB := Lib.hid ((hn1.block _ (lt_of_block HB.out)).trans HB.out)
  have HN1 := Lib.hid (NW9.out.trans hn1)
  clear hn1 NW9
  have k0 := cell_of_row _ _ 0 _ _ _ HA.out
  have k1 := cell_of_row _ _ 1 _ _ _ HA.out
  have k2 := cell_of_row _ _ 2 _ _ _ HA.out
  have k3 := cell_of_row _ _ 3 _ _ _ HA.out
  have m0 := cell_of_row _ _ 0 _ _ _ HB.out
  have m1 := cell_of_row _ _ 1 _ _ _ HB.out
  have m2 := cell_of_row _ _ 2 _ _ _ HB.out
  have m3 := cell_of_row _ _ 3 _ _ _ HB.out
  go_wp2_with fail
  refine (HAD.out _).mono ?_
  rintro e w2 ⟨c0, c1, c2, c3, rfl, hs, hn2⟩
  have HSM := Lib.hid hs
  replace HS := Lib.hid ((hn2.block _ (lt_of_block HS.out)).trans HS.out)
  replace HT := Lib.hid ((hn2.block _ (lt_of_block HT.out)).trans HT.out)
  replace HA := Lib.hid ((hn2.block _ (lt_of_block HA.out)).trans HA.out)
  replace HB := Lib.hid ((hn2.block _ (lt_of_block HB.out)).trans HB.out)
  have HN2 := Lib.hid (HN1.out.trans hn2)
  clear hs hn2 HN1 k0 k1 k2 k3 m0 m1 m2 m3 HAD
  cases ov
  · have hfc := HSUM.out c0 c1 c2 c3 (HOV.out rfl) HSM.out
    have HJS2 := Lib.hid (HJS.out c0 c1 c2 c3 hfc)
    have HKS2 := Lib.hid (HKS.out c0 c1 c2 c3 hfc)
    have hn3 : New w2 (w2.alloc (.cells #[.int .u64 (W64 c0), .int .u64 (W64 c1), .int .u64 (W64 c2), .int .u64 (W64 c3)] 45)) := (New.refl _).alloc _
    have hb3 := heap_alloc_new w2 (.cells #[.int .u64 (W64 c0), .int .u64 (W64 c1), .int .u64 (W64 c2), .int .u64 (W64 c3)] 45)
    obtain ⟨W3, hW3⟩ : ∃ z, w2.alloc (.cells #[.int .u64 (W64 c0), .int .u64 (W64 c1), .int .u64 (W64 c2), .int .u64 (W64 c3)] 45) = z := ⟨_, rfl⟩
    rw [hW3] at hn3 hb3
    have HW3 := Lib.hid hW3
    have HC := Lib.hid hb3
    replace HS := Lib.hid ((hn3.block _ (lt_of_block HS.out)).trans HS.out)
    replace HT := Lib.hid ((hn3.block _ (lt_of_block HT.out)).trans HT.out)
    replace HA := Lib.hid ((hn3.block _ (lt_of_block HA.out)).trans HA.out)
    replace HB := Lib.hid ((hn3.block _ (lt_of_block HB.out)).trans HB.out)
    have HN3 := Lib.hid (HN2.out.trans hn3)
    clear hfc hn3 hb3 hW3 HSM HSUM HOV HN2 HJS HKS
    obtain ⟨bc, hbc⟩ : ∃ bc, w2.heap.size = bc := ⟨_, rfl⟩
    rw [hbc] at HC
    have HBC := Lib.hid hbc
    clear hbc
    go_wp2_with fail
    rw [HW3.out, HBC.out]
    clear HW3 HBC
    refine wp_region_class (fun w' => (w'.heap[W.heap.size]? = some (.cells #[.int .u64 (W64 s.a), .int .u64 (W64 s.b), .int .u64 (W64 s.c), .int .u64 (W64 s.d)] 44 (0, 0)) ∧ w'.heap[W.heap.size + 1]? = some (.cells #[.int .u64 (W64 t.a), .int .u64 (W64 t.b)] 53 (0, 0)) ∧ w'.heap[W.heap.size + 1 + 1]? = some (.cells #[.int .u64 (W64 a0), .int .u64 (W64 a1), .int .u64 (W64 a2), .int .u64 (W64 a3)] 45 (0, 0)) ∧ w'.heap[W.heap.size + 1 + 1 + 1]? = some (.cells #[.int .u64 (W64 b0), .int .u64 (W64 b1), .int .u64 (W64 b2), .int .u64 (W64 b3)] 45 (0, 0)) ∧ w'.heap[bc]? = some (.cells #[.int .u64 (W64 c0), .int .u64 (W64 c1), .int .u64 (W64 c2), .int .u64 (W64 c3)] 45 (0, 0))) ∧ New W3 w') (by kernel_rfl) (by kernel_rfl) ⟨⟨((New.refl W3).drew.block _ (lt_of_block HS.out)).trans HS.out, ((New.refl W3).drew.block _ (lt_of_block HT.out)).trans HT.out, ((New.refl W3).drew.block _ (lt_of_block HA.out)).trans HA.out, ((New.refl W3).drew.block _ (lt_of_block HB.out)).trans HB.out, ((New.refl W3).drew.block _ (lt_of_block HC.out)).trans HC.out⟩, (New.refl _).drew⟩ ?_
    intro I _ f hall hback
    have HSTEP : Hid (∀ n w', New (f n) w' → ∃ m, w' = f m) := Lib.hid fun n w' hn => hback w' ⟨⟨(hn.block _ (lt_of_block ((hall n).1.1))).trans ((hall n).1.1), (hn.block _ (lt_of_block ((hall n).1.2.1))).trans ((hall n).1.2.1), (hn.block _ (lt_of_block ((hall n).1.2.2.1))).trans ((hall n).1.2.2.1), (hn.block _ (lt_of_block ((hall n).1.2.2.2.1))).trans ((hall n).1.2.2.2.1), (hn.block _ (lt_of_block ((hall n).1.2.2.2.2))).trans ((hall n).1.2.2.2.2)⟩, (hall n).2.trans hn⟩
    have HALL := Lib.hid fun n => (hall n).2
    have s0 := fun n => cell_of_row _ _ 0 _ _ _ ((hall n).1.1)
    have s1 := fun n => cell_of_row _ _ 1 _ _ _ ((hall n).1.1)
    have s2 := fun n => cell_of_row _ _ 2 _ _ _ ((hall n).1.1)
    have s3 := fun n => cell_of_row _ _ 3 _ _ _ ((hall n).1.1)
    have s4 := fun n => cell_of_row _ _ 0 _ _ _ ((hall n).1.2.1)
    have s5 := fun n => cell_of_row _ _ 1 _ _ _ ((hall n).1.2.1)
    have s6 := fun n => cell_of_row _ _ 0 _ _ _ ((hall n).1.2.2.1)
    have s7 := fun n => cell_of_row _ _ 1 _ _ _ ((hall n).1.2.2.1)
    have s8 := fun n => cell_of_row _ _ 2 _ _ _ ((hall n).1.2.2.1)
    have s9 := fun n => cell_of_row _ _ 3 _ _ _ ((hall n).1.2.2.1)
    have s10 := fun n => cell_of_row _ _ 0 _ _ _ ((hall n).1.2.2.2.1)
    have s11 := fun n => cell_of_row _ _ 1 _ _ _ ((hall n).1.2.2.2.1)
    have s12 := fun n => cell_of_row _ _ 2 _ _ _ ((hall n).1.2.2.2.1)
    have s13 := fun n => cell_of_row _ _ 3 _ _ _ ((hall n).1.2.2.2.1)
    have s14 := fun n => cell_of_row _ _ 0 _ _ _ ((hall n).1.2.2.2.2)
    have s15 := fun n => cell_of_row _ _ 1 _ _ _ ((hall n).1.2.2.2.2)
    have s16 := fun n => cell_of_row _ _ 2 _ _ _ ((hall n).1.2.2.2.2)
    have s17 := fun n => cell_of_row _ _ 3 _ _ _ ((hall n).1.2.2.2.2)
    clear hall hback
    repeat (go_big_quiet_step (first
      | (go_at_call_of 45 (Value.agg #[Value.int IntKind.u64 (W64 a0), Value.int IntKind.u64 (W64 a1), Value.int IntKind.u64 (W64 a2), Value.int IntKind.u64 (W64 a3)]); refine class_new HSTEP.out (HJA.out _))
      | (go_at_call_of 45 (Value.agg #[Value.int IntKind.u64 (W64 b0), Value.int IntKind.u64 (W64 b1), Value.int IntKind.u64 (W64 b2), Value.int IntKind.u64 (W64 b3)]); refine class_new HSTEP.out (HJB.out _))
      | (go_at_call_of 45 (Value.agg #[Value.int IntKind.u64 (W64 c0), Value.int IntKind.u64 (W64 c1), Value.int IntKind.u64 (W64 c2), Value.int IntKind.u64 (W64 c3)]); refine class_new HSTEP.out (HJS2.out _))
      | (go_at_call_of 43 (Value.agg #[Value.int IntKind.u64 (W64 a0), Value.int IntKind.u64 (W64 a1), Value.int IntKind.u64 (W64 a2), Value.int IntKind.u64 (W64 a3)]); refine class_new HSTEP.out (HKA.out _))
      | (go_at_call_of 43 (Value.agg #[Value.int IntKind.u64 (W64 b0), Value.int IntKind.u64 (W64 b1), Value.int IntKind.u64 (W64 b2), Value.int IntKind.u64 (W64 b3)]); refine class_new HSTEP.out (HKB.out _))
      | (go_at_call_of 43 (Value.agg #[Value.int IntKind.u64 (W64 c0), Value.int IntKind.u64 (W64 c1), Value.int IntKind.u64 (W64 c2), Value.int IntKind.u64 (W64 c3)]); refine class_new HSTEP.out (HKS2.out _))))
    refine wpQuiet_nil ?_
    rintro w9 ⟨n1, hw1⟩
    have hS := HALL.out n1
    rw [← hw1] at hS
    replace HS := Lib.hid ((hS.block _ (lt_of_block HS.out)).trans HS.out)
    replace HT := Lib.hid ((hS.block _ (lt_of_block HT.out)).trans HT.out)
    replace HA := Lib.hid ((hS.block _ (lt_of_block HA.out)).trans HA.out)
    replace HB := Lib.hid ((hS.block _ (lt_of_block HB.out)).trans HB.out)
    replace HC := Lib.hid ((hS.block _ (lt_of_block HC.out)).trans HC.out)
    replace HN3 := Lib.hid (HN3.out.trans hS)
    clear HALL HSTEP hw1 hS s0 s1 s2 s3 s4 s5 s6 s7 s8 s9 s10 s11 s12 s13 s14 s15 s16 s17
    go_wp2
    go_ret
    exact ⟨rfl, HN3.out⟩
  · go_wp2
    go_ret
    exact ⟨rfl, HN2.out.alloc _⟩
theorem LeapAdds_walk (W : World) (x0_0 : BitVec 64) (x0_1 : BitVec 64) (x0_2 : BitVec 64) (x0_3 : BitVec 64) (a1 : Int) (w1 : (Lit.int .i64 a1).wf = true) (x2_0 : BitVec 64) (x2_1 : BitVec 64) (x3_0 : BitVec 64) (x3_1 : BitVec 64) (x3_2 : BitVec 64) (x3_3 : BitVec 64) (x4_0 : BitVec 64) (x4_1 : BitVec 64) (x4_2 : BitVec 64) (x4_3 : BitVec 64) :
    Calls Try.prog 10 #[.agg #[.int .u64 (W64 x0_0), .int .u64 (W64 x0_1), .int .u64 (W64 x0_2), .int .u64 (W64 x0_3)], .int .i64 a1, .agg #[.int .u64 (W64 x2_0), .int .u64 (W64 x2_1)], .agg #[.int .u64 (W64 x3_0), .int .u64 (W64 x3_1), .int .u64 (W64 x3_2), .int .u64 (W64 x3_3)], .agg #[.int .u64 (W64 x4_0), .int .u64 (W64 x4_1), .int .u64 (W64 x4_2), .int .u64 (W64 x4_3)]] W fun e w' => e = .returned (.bool true) ∧ Below W.heap.size W w' :=
  LeapAdds_any W ⟨x0_0, x0_1, x0_2, x0_3⟩ a1 ⟨x2_0, x2_1⟩ x3_0 x3_1 x3_2 x3_3 x4_0 x4_1 x4_2 x4_3
end Go.Proofs.Ytppmpledcaonkaa
