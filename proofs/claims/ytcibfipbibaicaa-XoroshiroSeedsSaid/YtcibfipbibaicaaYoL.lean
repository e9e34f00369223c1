/- The walk of the statement XoroshiroLine: for every two states, of every kind. -/
import Derived.Test.YtcibfipbibaicaaYoG
import Derived.Test.YtcibfipbibaicaaXoL
namespace Go.Proofs.Ytcibfipbibaicaa
open Go.RowKit Go.Bv
set_option linter.unusedVariables false
def xq2 (p q : Q2) : Q2 := ⟨p.a ^^^ q.a, p.b ^^^ q.b⟩
def zr2 (q : Q2) : Bool := q.a == 0#64 && q.b == 0#64
def z2 : Q2 := ⟨0#64, 0#64⟩
theorem eq2z (w : World) (q : Q2) : (Op.equalIn 10000 35 (.agg #[.int .u64 (W64 q.a), .int .u64 (W64 q.b)]) (.agg #[.int .u64 0, .int .u64 0])).run Try.prog w = .ok (zr2 q) w := by
  have h := eq2 w q.a q.b 0#64 0#64
  rw [show W64 0#64 = 0 from W64_lit 0 (by omega)] at h
  exact h
theorem eq2zz (w : World) : (Op.equalIn 10000 35 (.agg #[.int .u64 0, .int .u64 0]) (.agg #[.int .u64 0, .int .u64 0])).run Try.prog w = .ok true w := by
  have h := eq2z w z2
  rw [show z2.a = 0#64 from rfl, show z2.b = 0#64 from rfl, show W64 0#64 = 0 from W64_lit 0 (by omega)] at h
  exact h
set_option maxHeartbeats 1000000 in
theorem xor2_mv (p q : Q2) (w : World) :
    Calls Try.prog 33 #[.agg #[.int .u64 (W64 p.a), .int .u64 (W64 p.b)], .agg #[.int .u64 (W64 q.a), .int .u64 (W64 q.b)]] w fun e w' => e = .returned (.agg #[.int .u64 (W64 (xq2 p q).a), .int .u64 (W64 (xq2 p q).b)]) ∧ New w w' := by
  obtain ⟨s0, s1⟩ := p
  obtain ⟨t0, t1⟩ := q
  go_enter Try.func33, Try.ntmps33
  go_wp2
  go_returns
  exact ⟨rfl, (((New.refl w).alloc _).alloc _).alloc _⟩
set_option maxHeartbeats 400000 in
theorem zero2_any (q : Q2) (w : World) :
    Calls Try.prog 34 #[.agg #[.int .u64 (W64 q.a), .int .u64 (W64 q.b)]] w fun e w' => e = .returned (.bool (zr2 q)) ∧ New w w' := by
  have hz := fun w => eq2z w q
  go_enter Try.func34, Try.ntmps34
  go_wp2
  go_ret
  exact ⟨rfl, (New.refl w).alloc _⟩
theorem stp_xor (A B C : Nat) (hA : A < 64) (hC : C < 64) (p q : Q2) : stp A B C (xq2 p q) = xq2 (stp A B C p) (stp A B C q) := by
  obtain ⟨s0, s1⟩ := p
  obtain ⟨t0, t1⟩ := q
  simp only [stp, xq2, Q2.mk.injEq]
  have e : s0 ^^^ t0 ^^^ (s1 ^^^ t1) = (s0 ^^^ s1) ^^^ (t0 ^^^ t1) := by grind
  rw [e, rot_xor _ _ A hA, rot_xor _ _ C hC, BitVec.shiftLeft_xor_distrib]
  refine ⟨?_, rfl⟩
  generalize (s0 ^^^ s1) <<< B = u
  generalize (t0 ^^^ t1) <<< B = v
  generalize s0.rotateLeft A = x
  generalize t0.rotateLeft A = y
  grind
theorem zr2_iff (q : Q2) : zr2 q = true ↔ q = z2 := by
  obtain ⟨a, b⟩ := q
  simp [zr2, z2]
theorem zr2_move {f b : Q2 → Q2} (hbf : ∀ q, b (f q) = q) (hz : f z2 = z2) (q : Q2) : zr2 (f q) = zr2 q := by
  rw [Bool.eq_iff_iff, zr2_iff, zr2_iff]
  constructor
  · intro h
    have h2 := congrArg b h
    rw [hbf, ← hz, hbf] at h2
    exact h2
  · intro h; rw [h, hz]
theorem stp_z5 : stp 24 16 37 z2 = z2 := by
  show (⟨_, _⟩ : Q2) = ⟨_, _⟩
  rw [Q2.mk.injEq]
  decide +kernel
theorem stp_z6 : stp 49 21 28 z2 = z2 := by
  show (⟨_, _⟩ : Q2) = ⟨_, _⟩
  rw [Q2.mk.injEq]
  decide +kernel
def Z2 (w : World) (b : Nat) : Prop := w.cell? ⟨b, 0, none⟩ = some (.int .u64 0) ∧ w.cell? ⟨b, 1, none⟩ = some (.int .u64 0)
theorem Z2.stay {w w' : World} {b : Nat} (h : Z2 w b) (hn : New w w') : Z2 w' b := by
  have hb := World.block_lt_of_cell? w _ h.1
  unfold Z2
  rw [hn.cell (a := ⟨b, 0, none⟩) hb, hn.cell (a := ⟨b, 1, none⟩) hb]
  exact h
set_option maxHeartbeats 4000000 in
theorem line_any (W : World) (k : Int) (f b : Q2 → Q2) (hbf : ∀ q, b (f q) = q) (hl : ∀ p q, f (xq2 p q) = xq2 (f p) (f q)) (hz : f z2 = z2) (h1 : Mv2 26 k f) (s t : Q2) :
    Calls Try.prog 9 #[.int .i64 k, .agg #[.int .u64 (W64 s.a), .int .u64 (W64 s.b)], .agg #[.int .u64 (W64 t.a), .int .u64 (W64 t.b)]] W fun e w' => e = .returned (.bool true) ∧ Below W.heap.size W w' := by
  have heq := eq2
  have heqz := eq2z
  have heqzz := eq2zz
  have hst : ∀ w, Calls Try.prog 26 #[.int .i64 k, .agg #[.int .u64 (W64 (xq2 s t).a), .int .u64 (W64 (xq2 s t).b)]] w fun e w' => e = .returned (.agg #[.int .u64 (W64 (xq2 (f s) (f t)).a), .int .u64 (W64 (xq2 (f s) (f t)).b)]) ∧ New w w' := fun w => by
    have h := h1 (xq2 s t) w; rw [hl] at h; exact h
  have hzf : ∀ w, Calls Try.prog 34 #[.agg #[.int .u64 (W64 (f s).a), .int .u64 (W64 (f s).b)]] w fun e w' => e = .returned (.bool (zr2 s)) ∧ New w w' := fun w => by
    have h := zero2_any (f s) w; rw [zr2_move hbf hz] at h; exact h
  have hfz : ∀ w, Calls Try.prog 26 #[.int .i64 k, .agg #[.int .u64 0, .int .u64 0]] w fun e w' => e = .returned (.agg #[.int .u64 0, .int .u64 0]) ∧ New w w' := fun w => by
    have h := h1 z2 w
    rw [hz, show z2.a = 0#64 from rfl, show z2.b = 0#64 from rfl, show W64 0#64 = 0 from W64_lit 0 (by omega)] at h
    exact h
  have HF := Lib.hid h1
  have HST := Lib.hid hst
  have HZF := Lib.hid hzf
  have HFZ := Lib.hid hfz
  clear h1 hst hzf hfz hbf hl hz
  go_enter Try.func9, Try.ntmps9
  go_wp2_with fail
  refine (awake10 _).mono ?_
  rintro e w ⟨rfl, hn1⟩
  have hs := ((c2_new W 35 s).stay ((New.refl _).alloc (.cells (cs2 t) 35))).stay hn1
  have ht := (c2_new (W.alloc (.cells (cs2 s) 35)) 35 t).stay hn1
  rw [show (W.alloc (.cells (cs2 s) 35)).heap.size = W.heap.size + 1 by simp] at ht
  have hN : New W w := (((New.refl W).alloc _).alloc _).trans hn1
  clear hn1
  have HS := Lib.hid hs
  have HT := Lib.hid ht
  obtain ⟨c0, c1⟩ := hs
  obtain ⟨e0, e1⟩ := ht
  go_wp2_with fail
  refine (xor2_mv s t w).mono ?_
  rintro e w1 ⟨rfl, hn1⟩
  have HS := Lib.hid (HS.out.stay hn1)
  have HT := Lib.hid (HT.out.stay hn1)
  have hN1 := hN.trans hn1
  clear hN hn1 c0 c1 e0 e1
  go_wp2_with fail
  have hn3 : New w1 ((w1.alloc (.cells (cs2 (xq2 s t)) 35)).alloc (.cells #[.int .u64 0, .int .u64 0] 35)) := ((New.refl w1).alloc _).alloc _
  have hx : C2 ((w1.alloc (.cells (cs2 (xq2 s t)) 35)).alloc (.cells #[.int .u64 0, .int .u64 0] 35)) w1.heap.size (xq2 s t) := (c2_new w1 35 (xq2 s t)).stay ((New.refl _).alloc _)
  have hz : Z2 ((w1.alloc (.cells (cs2 (xq2 s t)) 35)).alloc (.cells #[.int .u64 0, .int .u64 0] 35)) (w1.heap.size + 1) := by
    unfold Z2
    rw [cell_of_row _ _ _ _ _ _ (heap_alloc2_new w1 _ _), cell_of_row _ _ _ _ _ _ (heap_alloc2_new w1 _ _)]
    exact ⟨rfl, rfl⟩
  have hs := HS.out.stay hn3
  have ht := HT.out.stay hn3
  have hN3 := hN1.trans hn3
  clear hn3 hN1
  have hx0 : ((xq2 s t).a == s.a ^^^ t.a) = true := by rw [beq_iff_eq]; rfl
  have hx1 : ((xq2 s t).b == s.b ^^^ t.b) = true := by rw [beq_iff_eq]; rfl
  unfold cs2 at hs ht hx hz hN3
  generalize hb7 : w1.heap.size + 1 = b7 at hz ⊢
  generalize hb5 : w1.heap.size = b5 at hx ⊢
  generalize (w1.alloc (.cells #[.int .u64 (W64 (xq2 s t).a), .int .u64 (W64 (xq2 s t).b)] 35)).alloc (.cells #[.int .u64 0, .int .u64 0] 35) = w3 at hs ht hx hz hN3 ⊢
  clear hb5 hb7 HS HT
  refine wp_region_class (fun w' => (C2 w' W.heap.size s ∧ C2 w' (W.heap.size + 1) t) ∧ (C2 w' b5 (xq2 s t) ∧ Z2 w' b7) ∧ New W w') (by kernel_rfl) (by kernel_rfl) ⟨⟨hs, ht⟩, ⟨hx, hz⟩, hN3.drew⟩ ?_
  intro I _ g hall hback
  have HSTEP : Hid (∀ n w', New (g n) w' → ∃ m, w' = g m) := Lib.hid fun n w' hn => hback w' ⟨⟨(hall n).1.1.stay hn, (hall n).1.2.stay hn⟩, ⟨(hall n).2.1.1.stay hn, (hall n).2.1.2.stay hn⟩, (hall n).2.2.trans hn⟩
  have HALL := Lib.hid hall
  have a0 := fun n => (hall n).1.1.1
  have a1 := fun n => (hall n).1.1.2
  have b0 := fun n => (hall n).1.2.1
  have b1 := fun n => (hall n).1.2.2
  have c0 := fun n => (hall n).2.1.1.1
  have c1 := fun n => (hall n).2.1.1.2
  have z0 := fun n => (hall n).2.1.2.1
  have z1 := fun n => (hall n).2.1.2.2
  clear hall hback hN3 hs ht hx hz
  repeat (go_big_quiet_step (first
      | (go_at_call_of 26 (Value.int IntKind.u64 (W64 (xq2 s t).a)); refine class_new HSTEP.out (HST.out _))
      | (go_at_call_of 26 (Value.int IntKind.u64 (W64 s.a)); refine class_new HSTEP.out (HF.out s _))
      | (go_at_call_of 26 (Value.int IntKind.u64 (W64 t.a)); refine class_new HSTEP.out (HF.out t _))
      | (go_at_call_of 33 (Value.int IntKind.u64 (W64 (f s).a)); refine class_new HSTEP.out (xor2_mv (f s) (f t) _))))
  refine wpQuiet_nil ?_
  rintro w4 ⟨n1, hw1⟩
  have hS := HALL.out n1
  rw [← hw1] at hS
  clear HALL HSTEP hw1 a0 a1 b0 b1 c0 c1 z0 z1
  obtain ⟨⟨hs, ht⟩, ⟨hx, hz⟩, hN3⟩ := hS
  go_wp2_with fail
  refine wp_region_class (fun w' => (C2 w' W.heap.size s ∧ C2 w' (W.heap.size + 1) t) ∧ (C2 w' b5 (xq2 s t) ∧ Z2 w' b7) ∧ New W w') (by kernel_rfl) (by kernel_rfl) ⟨⟨hs, ht⟩, ⟨hx, hz⟩, hN3.drew⟩ ?_
  intro I _ g hall hback
  have HSTEP : Hid (∀ n w', New (g n) w' → ∃ m, w' = g m) := Lib.hid fun n w' hn => hback w' ⟨⟨(hall n).1.1.stay hn, (hall n).1.2.stay hn⟩, ⟨(hall n).2.1.1.stay hn, (hall n).2.1.2.stay hn⟩, (hall n).2.2.trans hn⟩
  have HALL := Lib.hid hall
  have a0 := fun n => (hall n).1.1.1
  have a1 := fun n => (hall n).1.1.2
  have b0 := fun n => (hall n).1.2.1
  have b1 := fun n => (hall n).1.2.2
  have c0 := fun n => (hall n).2.1.1.1
  have c1 := fun n => (hall n).2.1.1.2
  have z0 := fun n => (hall n).2.1.2.1
  have z1 := fun n => (hall n).2.1.2.2
  clear hall hback hN3 hs ht hx hz
  repeat (go_big_quiet_step (first
      | (go_at_call_of 34 (Value.int IntKind.u64 (W64 s.a)); refine class_new HSTEP.out (zero2_any s _))
      | (go_at_call_of 26 (Value.int IntKind.u64 (W64 s.a)); refine class_new HSTEP.out (HF.out s _))
      | (go_at_call_of 34 (Value.int IntKind.u64 (W64 (f s).a)); refine class_new HSTEP.out (HZF.out _))
      | (go_at_call_of 26 (Value.int IntKind.u64 0); refine class_new HSTEP.out (HFZ.out _))))
  refine wpQuiet_nil ?_
  rintro w4 ⟨n1, hw1⟩
  have hS := HALL.out n1
  rw [← hw1] at hS
  clear HALL HSTEP hw1 a0 a1 b0 b1 c0 c1 z0 z1
  go_wp2
  go_ret
  exact ⟨rfl, hS.2.2⟩
theorem XoroshiroLine_walk (W : World) (a0 : Int) (w0 : (Lit.int .i64 a0).wf = true) (x1_0 : BitVec 64) (x1_1 : BitVec 64) (x2_0 : BitVec 64) (x2_1 : BitVec 64) :
    Calls Try.prog 9 #[.int .i64 a0, .agg #[.int .u64 (W64 x1_0), .int .u64 (W64 x1_1)], .agg #[.int .u64 (W64 x2_0), .int .u64 (W64 x2_1)]] W fun e w' => e = .returned (.bool true) ∧ Below W.heap.size W w' := by
  by_cases h5 : a0 = 5
  · subst h5; exact line_any W 5 _ _ (bck_stp 24 16 37 (by omega) (by omega)) (stp_xor 24 16 37 (by omega) (by omega)) stp_z5 step_5 ⟨x1_0, x1_1⟩ ⟨x2_0, x2_1⟩
  · by_cases h6 : a0 = 6
    · subst h6; exact line_any W 6 _ _ (bck_stp 49 21 28 (by omega) (by omega)) (stp_xor 49 21 28 (by omega) (by omega)) stp_z6 step_6 ⟨x1_0, x1_1⟩ ⟨x2_0, x2_1⟩
    · have e5 : (a0 == 5) = false := by rw [beq_eq_false_iff_ne]; exact h5
      have e6 : (a0 == 6) = false := by rw [beq_eq_false_iff_ne]; exact h6
      exact line_any W a0 id id (fun _ => rfl) (fun _ _ => rfl) rfl (step_o a0 e5 e6) ⟨x1_0, x1_1⟩ ⟨x2_0, x2_1⟩
end Go.Proofs.Ytcibfipbibaicaa
