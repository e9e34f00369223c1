/- The walk of the statement XoshiroLine: for every two states. -/
import Derived.Test.YtcibfipbibaicaaXoL
namespace Go.Proofs.Ytcibfipbibaicaa
open Go.RowKit Go.Bv
set_option linter.unusedVariables false
theorem c_st_sum (p q : Q4) (w : World) : Calls Try.prog 12 #[.agg #[.int .u64 (W64 (xq p q).a), .int .u64 (W64 (xq p q).b), .int .u64 (W64 (xq p q).c), .int .u64 (W64 (xq p q).d)]] w fun e w' => e = .returned (.agg #[.int .u64 (W64 (xq (st9 p) (st9 q)).a), .int .u64 (W64 (xq (st9 p) (st9 q)).b), .int .u64 (W64 (xq (st9 p) (st9 q)).c), .int .u64 (W64 (xq (st9 p) (st9 q)).d)]) ∧ New w w' := by
  have h := step_mv9 (xq p q) w; rw [st_xor] at h; exact h
theorem c_zero_st (q : Q4) (w : World) : Calls Try.prog 22 #[.agg #[.int .u64 (W64 (st9 q).a), .int .u64 (W64 (st9 q).b), .int .u64 (W64 (st9 q).c), .int .u64 (W64 (st9 q).d)]] w fun e w' => e = .returned (.bool (zr q)) ∧ New w w' := by
  have h := zero_any (st9 q) w; rw [zr_st] at h; exact h
theorem c_st_z (w : World) : Calls Try.prog 12 #[.agg #[.int .u64 0, .int .u64 0, .int .u64 0, .int .u64 0]] w fun e w' => e = .returned (.agg #[.int .u64 0, .int .u64 0, .int .u64 0, .int .u64 0]) ∧ New w w' := by
  have h := step_mv9 z9 w
  rw [st_z, show z9.a = 0#64 from rfl, show z9.b = 0#64 from rfl, show z9.c = 0#64 from rfl, show z9.d = 0#64 from rfl, show W64 0#64 = 0 from W64_lit 0 (by omega)] at h
  exact h
theorem eqzz (w : World) : (Op.equalIn 10000 23 (.agg #[.int .u64 0, .int .u64 0, .int .u64 0, .int .u64 0]) (.agg #[.int .u64 0, .int .u64 0, .int .u64 0, .int .u64 0])).run Try.prog w = .ok true w := by
  have h := eq4z w z9
  rw [show z9.a = 0#64 from rfl, show z9.b = 0#64 from rfl, show z9.c = 0#64 from rfl, show z9.d = 0#64 from rfl, show W64 0#64 = 0 from W64_lit 0 (by omega)] at h
  exact h
def Z4 (w : World) (b : Nat) : Prop := ∀ i, i < 4 → w.cell? ⟨b, i, none⟩ = some (.int .u64 0)
theorem Z4.stay {w w' : World} {b : Nat} (h : Z4 w b) (hn : New w w') : Z4 w' b := by
  intro i hi
  rw [hn.cell (a := ⟨b, i, none⟩) (World.block_lt_of_cell? w ⟨b, i, none⟩ (h i hi))]
  exact h i hi
set_option maxHeartbeats 4000000 in
theorem XoshiroLine_try (W : World) (s t : Q4) :
    Calls Try.prog 5 #[.agg #[.int .u64 (W64 s.a), .int .u64 (W64 s.b), .int .u64 (W64 s.c), .int .u64 (W64 s.d)], .agg #[.int .u64 (W64 t.a), .int .u64 (W64 t.b), .int .u64 (W64 t.c), .int .u64 (W64 t.d)]] W fun e w' => e = .returned (.bool true) ∧ Below W.heap.size W w' := by
  have heq := eq4
  have heqz := eq4z
  have heqzz := eqzz
  go_enter Try.func5, Try.ntmps5
  go_wp2_with fail
  refine (awake09 _).mono ?_
  rintro e w ⟨rfl, hn1⟩
  have hs := (((c4_new W 23 s.a s.b s.c s.d).stay ((New.refl _).alloc _))).stay hn1
  have ht := (c4_new (W.alloc (.cells #[.int .u64 (W64 s.a), .int .u64 (W64 s.b), .int .u64 (W64 s.c), .int .u64 (W64 s.d)] 23)) 23 t.a t.b t.c t.d).stay hn1
  rw [show (W.alloc (.cells #[.int .u64 (W64 s.a), .int .u64 (W64 s.b), .int .u64 (W64 s.c), .int .u64 (W64 s.d)] 23)).heap.size = W.heap.size + 1 by simp] at ht
  have hN : New W w := (((New.refl W).alloc _).alloc _).trans hn1
  clear hn1
  have HS := Lib.hid hs
  have HT := Lib.hid ht
  obtain ⟨c0, c1, c2, c3⟩ := hs
  obtain ⟨e0, e1, e2, e3⟩ := ht
  go_wp2_with fail
  refine (xor_mv s t w).mono ?_
  rintro e w1 ⟨rfl, hn1⟩
  have HS := Lib.hid (HS.out.stay hn1)
  have HT := Lib.hid (HT.out.stay hn1)
  have hN1 := hN.trans hn1
  clear hN hn1 c0 c1 c2 c3 e0 e1 e2 e3
  go_wp2_with fail
  have hn2 : New w1 (w1.alloc (.cells #[.int .u64 (W64 (xq s t).a), .int .u64 (W64 (xq s t).b), .int .u64 (W64 (xq s t).c), .int .u64 (W64 (xq s t).d)] 23)) := (New.refl w1).alloc _
  have HS := Lib.hid (HS.out.stay hn2)
  have HT := Lib.hid (HT.out.stay hn2)
  have HX := Lib.hid (c4_new w1 23 (xq s t).a (xq s t).b (xq s t).c (xq s t).d)
  have hN2 := hN1.trans hn2
  clear hN1 hn2
  generalize hb : w1.heap.size = b5 at HX ⊢
  generalize w1.alloc (.cells #[.int .u64 (W64 (xq s t).a), .int .u64 (W64 (xq s t).b), .int .u64 (W64 (xq s t).c), .int .u64 (W64 (xq s t).d)] 23) = w2 at HS HT HX hN2 ⊢
  clear hb
  go_loopw [6] (fun i wr => ∃ k : Nat, k ≤ 4 ∧ i = .int .i64 k ∧ New w2 wr) (fun i _ => 4 - (intOf i).toNat)
  case atStart => exact ⟨0, by omega, rfl, New.refl w2⟩
  case round =>
    obtain ⟨k, hk, rfl, hn⟩ := hrel
    obtain ⟨c0, c1, c2, c3⟩ := HS.out.stay hn
    obtain ⟨e0, e1, e2, e3⟩ := HT.out.stay hn
    obtain ⟨x0, x1, x2, x3⟩ := HX.out.stay hn
    have hx0 : ((xq s t).a != s.a ^^^ t.a) = false := by rw [bne_eq_false_iff_eq]; rfl
    have hx1 : ((xq s t).b != s.b ^^^ t.b) = false := by rw [bne_eq_false_iff_eq]; rfl
    have hx2 : ((xq s t).c != s.c ^^^ t.c) = false := by rw [bne_eq_false_iff_eq]; rfl
    have hx3 : ((xq s t).d != s.d ^^^ t.d) = false := by rw [bne_eq_false_iff_eq]; rfl
    have hc : k = 0 ∨ k = 1 ∨ k = 2 ∨ k = 3 ∨ k = 4 := by omega
    rcases hc with rfl | rfl | rfl | rfl | rfl
    · go_wp2
      go_quiet (fail)
      go_wp2
      exact ⟨⟨1, by omega, by go_num, hn.drewN nq⟩, by simp [intOf]⟩
    · go_wp2
      go_quiet (fail)
      go_wp2
      exact ⟨⟨2, by omega, by go_num, hn.drewN nq⟩, by simp [intOf]⟩
    · go_wp2
      go_quiet (fail)
      go_wp2
      exact ⟨⟨3, by omega, by go_num, hn.drewN nq⟩, by simp [intOf]⟩
    · go_wp2
      go_quiet (fail)
      go_wp2
      exact ⟨⟨4, by omega, by go_num, hn.drewN nq⟩, by simp [intOf]⟩
    · clear c0 c1 c2 c3 e0 e1 e2 e3 x0 x1 x2 x3 hx0 hx1 hx2 hx3
      go_wp2_with fail
      have hn3 : New wr (wr.alloc (.cells #[.int .u64 0, .int .u64 0, .int .u64 0, .int .u64 0] 23)) := (New.refl wr).alloc _
      have hz : Z4 (wr.alloc (.cells #[.int .u64 0, .int .u64 0, .int .u64 0, .int .u64 0] 23)) wr.heap.size := by
        intro i hi
        rw [World.cell?_alloc_new]
        have hc : i = 0 ∨ i = 1 ∨ i = 2 ∨ i = 3 := by omega
        rcases hc with rfl | rfl | rfl | rfl <;> rfl
      have hs := (HS.out.stay hn).stay hn3
      have ht := (HT.out.stay hn).stay hn3
      have hx := (HX.out.stay hn).stay hn3
      have hN3 := (hN2.trans hn).trans hn3
      clear hn hn3 hN2
      generalize hb : wr.heap.size = b7 at hz ⊢
      generalize wr.alloc (.cells #[.int .u64 0, .int .u64 0, .int .u64 0, .int .u64 0] 23) = w3 at hs ht hx hz hN3 ⊢
      clear hb HS HT HX
      refine wp_region_class (fun w' => (C4 w' W.heap.size s.a s.b s.c s.d ∧ C4 w' (W.heap.size + 1) t.a t.b t.c t.d) ∧ (C4 w' b5 (xq s t).a (xq s t).b (xq s t).c (xq s t).d ∧ Z4 w' b7) ∧ New W w') (by kernel_rfl) (by kernel_rfl) ⟨⟨hs, ht⟩, ⟨hx, hz⟩, hN3.drew⟩ ?_
      intro I _ f hall hback
      have HSTEP : Hid (∀ n w', New (f n) w' → ∃ m, w' = f m) := Lib.hid fun n w' hn => hback w' ⟨⟨(hall n).1.1.stay hn, (hall n).1.2.stay hn⟩, ⟨(hall n).2.1.1.stay hn, (hall n).2.1.2.stay hn⟩, (hall n).2.2.trans hn⟩
      have HALL := Lib.hid hall
      have a0 := fun n => (hall n).1.1.1
      have a1 := fun n => (hall n).1.1.2.1
      have a2 := fun n => (hall n).1.1.2.2.1
      have a3 := fun n => (hall n).1.1.2.2.2
      have b0 := fun n => (hall n).1.2.1
      have b1 := fun n => (hall n).1.2.2.1
      have b2 := fun n => (hall n).1.2.2.2.1
      have b3 := fun n => (hall n).1.2.2.2.2
      have c0 := fun n => (hall n).2.1.1.1
      have c1 := fun n => (hall n).2.1.1.2.1
      have c2 := fun n => (hall n).2.1.1.2.2.1
      have c3 := fun n => (hall n).2.1.1.2.2.2
      have z0 := fun n => (hall n).2.1.2 0 (by omega)
      have z1 := fun n => (hall n).2.1.2 1 (by omega)
      have z2 := fun n => (hall n).2.1.2 2 (by omega)
      have z3 := fun n => (hall n).2.1.2 3 (by omega)
      clear hall hback hN3 hs ht hx hz
      repeat (go_big_quiet_step (first
      | (go_at_call_of 12 (Value.int IntKind.u64 (W64 (xq s t).a)); refine class_new HSTEP.out (c_st_sum s t _))
      | (go_at_call_of 12 (Value.int IntKind.u64 (W64 s.a)); refine class_new HSTEP.out (step_mv9 s _))
      | (go_at_call_of 12 (Value.int IntKind.u64 (W64 t.a)); refine class_new HSTEP.out (step_mv9 t _))
      | (go_at_call_of 21 (Value.int IntKind.u64 (W64 (st9 s).a)); refine class_new HSTEP.out (xor_mv (st9 s) (st9 t) _))
      | (go_at_call_of 22 (Value.int IntKind.u64 (W64 s.a)); refine class_new HSTEP.out (zero_any s _))
      | (go_at_call_of 22 (Value.int IntKind.u64 (W64 (st9 s).a)); refine class_new HSTEP.out (c_zero_st s _))
      | (go_at_call_of 12 (Value.int IntKind.u64 0); refine class_new HSTEP.out (c_st_z _))))
      refine wpQuiet_nil ?_
      rintro w4 ⟨n1, hw1⟩
      have hS := (HALL.out n1).2.2
      rw [← hw1] at hS
      clear HALL HSTEP hw1 a0 a1 a2 a3 b0 b1 b2 b3 c0 c1 c2 c3 z0 z1 z2 z3
      go_wp2
      go_ret
      exact ⟨rfl, hS⟩
theorem XoshiroLine_walk (W : World) (x0_0 : BitVec 64) (x0_1 : BitVec 64) (x0_2 : BitVec 64) (x0_3 : BitVec 64) (x1_0 : BitVec 64) (x1_1 : BitVec 64) (x1_2 : BitVec 64) (x1_3 : BitVec 64) :
    Calls Try.prog 5 #[.agg #[.int .u64 (W64 x0_0), .int .u64 (W64 x0_1), .int .u64 (W64 x0_2), .int .u64 (W64 x0_3)], .agg #[.int .u64 (W64 x1_0), .int .u64 (W64 x1_1), .int .u64 (W64 x1_2), .int .u64 (W64 x1_3)]] W fun e w' => e = .returned (.bool true) ∧ Below W.heap.size W w' :=
  XoshiroLine_try W ⟨x0_0, x0_1, x0_2, x0_3⟩ ⟨x1_0, x1_1, x1_2, x1_3⟩
end Go.Proofs.Ytcibfipbibaicaa
