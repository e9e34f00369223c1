/- The walks of the statements Mers89Powers and Mers89Inverts: for all numbers. -/
import Derived.Test.YtadaaihbeapibaaMeiJ
namespace Go.Bv
open Go Go.RowKit
/-- a number without its highest bit, in its upper word moved by one -/
def half128 (y : BitVec 128) : BitVec 128 := join128 (hi128 y >>> 1) (lo128 y)
theorem half_lt (y : BitVec 128) : (half128 y).toNat < 2 ^ 127 := by
  have h1 := two_x (half128 y)
  unfold half128 at h1
  rw [hi_join, lo_join] at h1
  unfold half128
  rw [← h1]
  unfold two
  have := (hi128 y).isLt
  have := (lo128 y).isLt
  rw [BitVec.toNat_ushiftRight, Nat.shiftRight_eq_div_pow]
  omega
theorem sum_nat (y : BitVec 128) (e : BitVec 64) : (BitVec.ofNat 128 ((half128 y).toNat + e.toNat)).toNat = (half128 y).toNat + e.toNat := by
  have := half_lt y
  have := e.isLt
  rw [BitVec.toNat_ofNat]; exact Nat.mod_eq_of_lt (by omega)
end Go.Bv
namespace Go.Proofs.Ytadaaihbeapibaa
open Go.RowKit Go.Bv
set_option linter.unusedVariables false
theorem to2_g (N : Nat) (x : BitVec 128) (hN : BitVec.ofNat 128 N = x) (hlt : N < 2 ^ 128) (a : Option Addr) (c : Nat) (w : World) (hr : ZRow w a 128 c (bitsOf N 128)) : Calls Try.prog 49 #[.slice a 128 c] w fun e w' => e = .returned (.agg #[.int .u64 (W64 (hi128 x)), .int .u64 (W64 (lo128 x))]) ∧ New w w' := by
  have h := to2_any N 128 c a w hr hlt
  rw [← hi_ofNat, ← lo_ofNat, hN] at h
  exact h
set_option maxHeartbeats 4000000 in
theorem powers89_try (W : World) (x y y2 z p q r : BitVec 128) (k : BitVec 64) (hh : hi128 y >>> 1 = hi128 y2) (hl : lo128 y = lo128 y2)
    (C2 : Hid (∀ w : World, Calls Try.prog 45 #[.agg #[.int .u64 (W64 (hi128 x)), .int .u64 (W64 (lo128 x))], .agg #[.int .u64 (W64 (hi128 z)), .int .u64 (W64 (lo128 z))]] w fun e w' => e = .returned (.agg #[.int .u64 (W64 (hi128 p)), .int .u64 (W64 (lo128 p))]) ∧ New w w'))
    (C3 : Hid (∀ w : World, Calls Try.prog 45 #[.agg #[.int .u64 (W64 (hi128 x)), .int .u64 (W64 (lo128 x))], .agg #[.int .u64 (W64 (hi128 y2)), .int .u64 (W64 (lo128 y2))]] w fun e w' => e = .returned (.agg #[.int .u64 (W64 (hi128 q)), .int .u64 (W64 (lo128 q))]) ∧ New w w'))
    (C4 : Hid (∀ w : World, Calls Try.prog 45 #[.agg #[.int .u64 (W64 (hi128 x)), .int .u64 (W64 (lo128 x))], .agg #[.int .u64 0, .int .u64 (W64 k)]] w fun e w' => e = .returned (.agg #[.int .u64 (W64 (hi128 r)), .int .u64 (W64 (lo128 r))]) ∧ New w w'))
    (C5 : Hid (∀ w : World, Calls Try.prog 39 #[.agg #[.int .u64 (W64 (hi128 q)), .int .u64 (W64 (lo128 q))], .agg #[.int .u64 (W64 (hi128 r)), .int .u64 (W64 (lo128 r))]] w fun e w' => e = .returned (.agg #[.int .u64 (W64 (hi128 p)), .int .u64 (W64 (lo128 p))]) ∧ New w w'))
    (CO : Hid (∀ w : World, Calls Try.prog 43 #[.agg #[.int .u64 (W64 (hi128 y2)), .int .u64 (W64 (lo128 y2))]] w fun e w' => ∃ v, e = .returned v ∧ (BV 128 v ∧ BR y2.toNat 128 v w') ∧ New w w'))
    (CT : Hid (∀ (w : World) (a : Option Addr) (c : Nat), ZRow w a 128 c (bitsOf (y2.toNat + k.toNat) 128) → Calls Try.prog 49 #[.slice a 128 c] w fun e w' => e = .returned (.agg #[.int .u64 (W64 (hi128 z)), .int .u64 (W64 (lo128 z))]) ∧ New w w')) :
    Calls Try.prog 11 #[.agg #[.int .u64 (W64 (hi128 x)), .int .u64 (W64 (lo128 x))], .agg #[.int .u64 (W64 (hi128 y)), .int .u64 (W64 (lo128 y))], .int .u64 (W64 k)] W fun e w' => e = .returned (.bool true) ∧ Below W.heap.size W w' := by
  have heqp := fun w => equ_x w p p
  simp only [BEq.rfl] at heqp
  rw [← hl] at CO C3
  have HL := Lib.hid hl
  clear hl
  go_enter Try.func11, Try.ntmps11
  go_wp2_with fail
  obtain ⟨h1, h2, h3⟩ := two_blocks W (.cells #[.int .u64 (W64 (hi128 x)), .int .u64 (W64 (lo128 x))] 35) (.cells #[.int .u64 (W64 (hi128 y)), .int .u64 (W64 (lo128 y))] 35)
  generalize (W.alloc (.cells #[.int .u64 (W64 (hi128 x)), .int .u64 (W64 (lo128 x))] 35)).alloc (.cells #[.int .u64 (W64 (hi128 y)), .int .u64 (W64 (lo128 y))] 35) = w0 at h1 h2 h3 ⊢
  refine (awake05 _).mono ?_
  rintro e w ⟨rfl, hn1⟩
  have hx := (show B2 _ _ _ x from h1).stay hn1
  have hy := (show B2 _ _ _ y from h2).stay hn1
  have HN := Lib.hid (h3.trans hn1)
  clear h1 h2 h3 hn1
  have y0 := hy.c0
  have y1 := hy.c1
  have yf := hy.free
  have hput : B2 (w.setCell ⟨W.heap.size + 1, 0, none⟩ (.int .u64 (W64 (hi128 y2)))) (W.heap.size + 1) 35 y2 := by
    have h := heap_setCell_same w (W.heap.size + 1) 0 _ 35 (.int .u64 (W64 (hi128 y2))) hy
    unfold B2
    rw [h, ← HL.out]; rfl
  have hx2 : B2 (w.setCell ⟨W.heap.size + 1, 0, none⟩ (.int .u64 (W64 (hi128 y2)))) W.heap.size 35 x := by
    unfold B2; rw [heap_setCell_other _ _ _ _ (show W.heap.size ≠ W.heap.size + 1 by omega)]; exact hx
  have hn2 := HN.out.setCell (p := ⟨W.heap.size + 1, 0, none⟩) (by show W.heap.size ≤ W.heap.size + 1; omega) (.int .u64 (W64 (hi128 y2)))
  have HX2 := Lib.hid hx2
  have HY2 := Lib.hid hput
  have HN2 := Lib.hid hn2
  clear hx hy HN hput hx2 hn2
  go_wp2_with fail
  generalize w.setCell ⟨W.heap.size + 1, 0, none⟩ (.int .u64 (W64 (hi128 y2))) = w1 at *
  have q0 := HY2.out.c0
  have q1 := HY2.out.c1
  rw [← HL.out] at q1
  clear y0 y1 yf
  go_wp2_with fail
  refine (CO.out _).mono ?_
  rintro e w2 ⟨v2, rfl, ⟨⟨a1, c1, rfl⟩, hr1⟩, hn2⟩
  go_wp2_with fail
  refine (of_own k 64 64 (by omega) rfl _).mono ?_
  rintro e w3 ⟨v3, rfl, hown3, hn3⟩
  obtain ⟨a2, c2, rfl, hz2⟩ := bits_row hown3 (by omega)
  go_wp2_with fail
  refine (badd_g y2.toNat k.toNat 128 64 _ _ _ _ 128 128 rfl (by omega) _ (hr1.row.stay hn3) y2.isLt hz2 k.isLt).mono ?_
  rintro e w5 ⟨v5, rfl, ⟨⟨a3, c3, k3, rfl⟩, hr3⟩, hn5⟩
  have HN5 := Lib.hid (HN2.out.trans ((hn2.trans hn3).trans hn5))
  have hx := HX2.out.stay ((hn2.trans hn3).trans hn5)
  have hy := HY2.out.stay ((hn2.trans hn3).trans hn5)
  have HR3 := Lib.hid hr3.row
  clear hn2 hn3 hn5 hr1 hown3 hz2 hr3 q0 q1
  go_wp2_with fail
  refine wp_region_class (fun w' => (B2 w' W.heap.size 35 x ∧ B2 w' (W.heap.size + 1) 35 y2 ∧ ZRow w' a3 128 c3 (bitsOf (y2.toNat + k.toNat) 128)) ∧ New w5 w') (by kernel_rfl) (by kernel_rfl) ⟨⟨hx.stay (New.refl _).drew, hy.stay (New.refl _).drew, HR3.out.stay (New.refl _).drew⟩, (New.refl _).drew⟩ ?_
  intro I _ f hall hback
  have HSTEP : Hid (∀ n w', New (f n) w' → ∃ m, w' = f m) := Lib.hid fun n w' hn => hback w' ⟨⟨(hall n).1.1.stay hn, (hall n).1.2.1.stay hn, (hall n).1.2.2.stay hn⟩, (hall n).2.trans hn⟩
  have HALL := Lib.hid hall
  have s0 := fun n => (hall n).1.1.c0
  have s1 := fun n => (hall n).1.1.c1
  have t0 := fun n => (hall n).1.2.1.c0
  have t1 := fun n => (hall n).1.2.1.c1
  simp only [← HL.out] at t1
  clear hall hback hx hy
  repeat (go_big_quiet_step (first
    | (go_at_call 49; refine class_new HSTEP.out (CT.out _ _ _ (HALL.out _).1.2.2))
    | (go_at_call_of 45 (Value.int IntKind.u64 (W64 (hi128 z))); refine class_new HSTEP.out (C2.out _))
    | (go_at_call_of 45 (Value.int IntKind.u64 (W64 (hi128 y2))); refine class_new HSTEP.out (C3.out _))
    | (go_at_call_of 45 (Value.int IntKind.u64 (W64 k)); refine class_new HSTEP.out (C4.out _))
    | (go_at_call 39; refine class_new HSTEP.out (C5.out _))))
  refine wpQuiet_nil ?_
  rintro w8 ⟨n1, hw1⟩
  have hS := HN5.out.trans (HALL.out n1).2
  rw [← hw1] at hS
  clear HALL HSTEP hw1 s0 s1 t0 t1
  go_wp2
  go_ret
  exact ⟨rfl, hS⟩
theorem Mers89Powers_walk (W : World) (x0_0 : BitVec 64) (x0_1 : BitVec 64) (x1_0 : BitVec 64) (x1_1 : BitVec 64) (a2 : Int) (w2 : (Lit.int .u64 a2).wf = true) :
    Calls Try.prog 11 #[.agg #[.int .u64 (W64 x0_0), .int .u64 (W64 x0_1)], .agg #[.int .u64 (W64 x1_0), .int .u64 (W64 x1_1)], .int .u64 a2] W fun e w' => e = .returned (.bool true) ∧ Below W.heap.size W w' := by
  obtain ⟨x, hx⟩ : ∃ s, join128 x0_0 x0_1 = s := ⟨_, rfl⟩
  obtain ⟨y, hy⟩ : ∃ s, join128 x1_0 x1_1 = s := ⟨_, rfl⟩
  obtain ⟨k, rfl⟩ := wf64 w2
  have hk := k.isLt
  have hyl := half_lt y
  have c2 := fun w => pow_89 x (BitVec.ofNat 128 ((half128 y).toNat + k.toNat)) w
  rw [sum_nat] at c2
  have c4 : ∀ w : World, Calls Try.prog 45 #[.agg #[.int .u64 (W64 (hi128 x)), .int .u64 (W64 (lo128 x))], .agg #[.int .u64 0, .int .u64 (W64 k)]] w fun e w' => e = .returned (.agg #[.int .u64 (W64 (hi128 (m89 (x.toNat ^ k.toNat)))), .int .u64 (W64 (lo128 (m89 (x.toNat ^ k.toNat))))]) ∧ New w w' := by
    intro w
    have h := pow_89 x (BitVec.ofNat 128 k.toNat) w
    rw [hi_ofNat, lo_ofNat, Nat.div_eq_of_lt (by omega), BitVec.toNat_ofNat, Nat.mod_eq_of_lt (by omega), show W64 (BitVec.ofNat 64 0) = 0 from lo_zero, BitVec.ofNat_toNat, BitVec.setWidth_eq] at h
    exact h
  have c5 := fun w => mul_89 (m89 (x.toNat ^ (half128 y).toNat)) (m89 (x.toNat ^ k.toNat)) w
  rw [← pow_sum] at c5
  have h := powers89_try W x y (half128 y) _ _ _ _ k (by unfold half128; rw [hi_join]) (by unfold half128; rw [lo_join]) (Lib.hid c2) (Lib.hid fun w => pow_89 x (half128 y) w) (Lib.hid c4) (Lib.hid c5) (Lib.hid fun w => of2_g (half128 y) w)
    (Lib.hid fun w a c h => to2_g ((half128 y).toNat + k.toNat) _ rfl (by omega) a c w h)
  rw [← hx, ← hy] at h
  simp only [hi_join, lo_join] at h
  exact h
end Go.Proofs.Ytadaaihbeapibaa
