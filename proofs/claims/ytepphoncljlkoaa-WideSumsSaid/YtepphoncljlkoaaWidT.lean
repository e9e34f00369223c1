/- The walk of the statement WideSums: for all numbers of two words. -/
import Derived.Test.YtepphoncljlkoaaWidS
namespace Go.Bv
theorem carry_add (A B : Nat) (hA : A < 2 ^ 128) (hB : B < 2 ^ 128) : (((cy A B 128 : Nat) : Int) == 1) = decide (2 ^ 128 ≤ A + B) := by
  unfold cy
  rw [Nat.mod_eq_of_lt hA, Nat.mod_eq_of_lt hB]
  by_cases h : 2 ^ 128 ≤ A + B
  · rw [decide_eq_true h, show (A + B) / 2 ^ 128 = 1 by omega]; rfl
  · rw [decide_eq_false h, show (A + B) / 2 ^ 128 = 0 by omega]; rfl
theorem lack_sub (A B : Nat) (hA : A < 2 ^ 128) (hB : B < 2 ^ 128) : (((cy (A + 2 ^ 128 - B) B 128 : Nat) : Int) == 1) = decide (A < B) := by
  unfold cy
  rw [Nat.mod_eq_of_lt hB]
  by_cases h : A < B
  · rw [decide_eq_true h, Nat.mod_eq_of_lt (by omega), show (A + 2 ^ 128 - B + B) / 2 ^ 128 = 1 by omega]; rfl
  · rw [decide_eq_false h, show ((A + 2 ^ 128 - B) % 2 ^ 128 + B) / 2 ^ 128 = 0 by omega]; rfl
end Go.Bv
namespace Go.Proofs.Ytepphoncljlkoaa
open Go.RowKit Go.Bv
set_option linter.unusedVariables false
set_option maxHeartbeats 2000000 in
theorem sums_try (W : World) (x0_0 x0_1 x1_0 x1_1 s1 s0 d1 d0 : BitVec 64) (A B S E cv lv : Nat) (ov un : Bool) (r : Int)
    (hcv : (((cv : Nat) : Int) == 1) = ov) (hlv : (((lv : Nat) : Int) == 1) = un)
    (COf0 : Hid (∀ w : World, Calls Try.prog 12 #[.agg #[.int .u64 (W64 x0_0), .int .u64 (W64 x0_1)]] w fun e w' => ∃ v, e = .returned v ∧ w'.ownsRow w.heap.size 3 1 v 128 ((bitsOf A 128).map fun y => .int .i64 y) ∧ New w w'))
    (COf1 : Hid (∀ w : World, Calls Try.prog 12 #[.agg #[.int .u64 (W64 x1_0), .int .u64 (W64 x1_1)]] w fun e w' => ∃ v, e = .returned v ∧ w'.ownsRow w.heap.size 3 1 v 128 ((bitsOf B 128).map fun y => .int .i64 y) ∧ New w w'))
    (CAdd : Hid (∀ w : World, Calls Try.prog 13 #[.agg #[.int .u64 (W64 x0_0), .int .u64 (W64 x0_1)], .agg #[.int .u64 (W64 x1_0), .int .u64 (W64 x1_1)]] w fun e w' => e = .returned (.tuple #[.agg #[.int .u64 (W64 s1), .int .u64 (W64 s0)], .bool ov]) ∧ New w w'))
    (CSub : Hid (∀ w : World, Calls Try.prog 15 #[.agg #[.int .u64 (W64 x0_0), .int .u64 (W64 x0_1)], .agg #[.int .u64 (W64 x1_0), .int .u64 (W64 x1_1)]] w fun e w' => e = .returned (.tuple #[.agg #[.int .u64 (W64 d1), .int .u64 (W64 d0)], .bool un]) ∧ New w w'))
    (CCmp : Hid (∀ w : World, Calls Try.prog 18 #[.agg #[.int .u64 (W64 x0_0), .int .u64 (W64 x0_1)], .agg #[.int .u64 (W64 x1_0), .int .u64 (W64 x1_1)]] w fun e w' => e = .returned (.int .i64 r) ∧ New w w'))
    (Cadd : Hid (∀ (ca cb : Nat) (a b : Option Addr) (w : World), ZRow w a 128 ca (bitsOf A 128) → ZRow w b 128 cb (bitsOf B 128) → Calls Try.prog 14 #[.slice a 128 ca, .slice b 128 cb, .int .i64 128] w fun e w' =>
      ∃ v, e = .returned (.tuple #[v, .int .i64 (cv : Nat)]) ∧ w'.ownsRow w.heap.size 3 1 v 128 ((bitsOf S 128).map fun y => .int .i64 y) ∧ New w w'))
    (Csub : Hid (∀ (ca cb : Nat) (a b : Option Addr) (w : World), ZRow w a 128 ca (bitsOf A 128) → ZRow w b 128 cb (bitsOf B 128) → Calls Try.prog 16 #[.slice a 128 ca, .slice b 128 cb, .int .i64 128] w fun e w' =>
      ∃ v, e = .returned (.tuple #[v, .int .i64 (lv : Nat)]) ∧ w'.ownsRow w.heap.size 3 1 v 128 ((bitsOf E 128).map fun y => .int .i64 y) ∧ New w w'))
    (Ccmp : Hid (∀ (ca cb : Nat) (a b : Option Addr) (w : World), ZRow w a 128 ca (bitsOf A 128) → ZRow w b 128 cb (bitsOf B 128) → Calls Try.prog 19 #[.slice a 128 ca, .slice b 128 cb] w fun e w' => e = .returned (.int .i64 r) ∧ w' = w))
    (Cto : Hid (∀ (c : Nat) (a : Option Addr) (w : World), ZRow w a 128 c (bitsOf S 128) → Calls Try.prog 17 #[.slice a 128 c] w fun e w' => e = .returned (.agg #[.int .u64 (W64 s1), .int .u64 (W64 s0)]) ∧ New w w'))
    (Cto' : Hid (∀ (c : Nat) (a : Option Addr) (w : World), ZRow w a 128 c (bitsOf E 128) → Calls Try.prog 17 #[.slice a 128 c] w fun e w' => e = .returned (.agg #[.int .u64 (W64 d1), .int .u64 (W64 d0)]) ∧ New w w')) :
    Calls Try.prog 3 #[.agg #[.int .u64 (W64 x0_0), .int .u64 (W64 x0_1)], .agg #[.int .u64 (W64 x1_0), .int .u64 (W64 x1_1)]] W fun e w' => e = .returned (.bool true) ∧ Below W.heap.size W w' := by
  go_enter Try.func3, Try.ntmps3
  go_wp2_with fail
  refine (awake01 _).mono ?_
  rintro e w ⟨rfl, hn1⟩
  have hs := ((c2_new W 24 x0_0 x0_1).stay ((New.refl _).alloc _)).stay hn1
  have ht := (c2_new (W.alloc (.cells #[.int .u64 (W64 x0_0), .int .u64 (W64 x0_1)] 24)) 24 x1_0 x1_1).stay hn1
  rw [show (W.alloc (.cells #[.int .u64 (W64 x0_0), .int .u64 (W64 x0_1)] 24)).heap.size = W.heap.size + 1 by simp] at ht
  have hN : New W w := (((New.refl W).alloc _).alloc _).trans hn1
  clear hn1
  have HN := Lib.hid hN
  have HS := Lib.hid (hs.stay (New.refl _).drew)
  have HT := Lib.hid (ht.stay (New.refl _).drew)
  obtain ⟨s_0, s_1⟩ := HS.out
  obtain ⟨t_0, t_1⟩ := HT.out
  clear hN hs ht
  go_wp2_with fail
  go_region_law (first
    | (go_simp
       go_at_call_of 12 (Value.int IntKind.u64 (W64 x0_0))
       refine (COf0.out _).mono ?_
       rintro e w1 ⟨v1, rfl, hown1, hn1⟩
       obtain ⟨av1, c1, rfl, hz1⟩ := bits_row hown1 (by omega)
       obtain ⟨s_0, s_1⟩ := HS.out.stay hn1
       obtain ⟨t_0, t_1⟩ := HT.out.stay hn1
       have HN1 := Lib.hid (HN.out.drew.trans hn1)
       have HD1 := Lib.hid hn1
       have HZ1 := Lib.hid hz1
       clear hown1 hn1 hz1)
    | (go_simp
       go_at_call_of 12 (Value.int IntKind.u64 (W64 x1_0))
       refine (COf1.out _).mono ?_
       rintro e w2 ⟨v2, rfl, hown2, hn2⟩
       obtain ⟨av2, c2, rfl, hz2⟩ := bits_row hown2 (by omega)
       have HX2 := Lib.hid ((HS.out.stay HD1.out).stay hn2)
       have HY2 := Lib.hid ((HT.out.stay HD1.out).stay hn2)
       have HN2 := Lib.hid (HN1.out.trans hn2)
       have HR2 := Lib.hid (HZ1.out.stay hn2)
       have HZ2 := Lib.hid hz2
       clear hown2 hn2 hz2 s_0 s_1 t_0 t_1))
  all_goals (
    obtain ⟨s_0, s_1⟩ := HX2.out
    obtain ⟨t_0, t_1⟩ := HY2.out
    clear HN1 HN HS HT HD1 HZ1 COf0 COf1
    go_wp2_with fail
    refine (CAdd.out _).mono ?_
    rintro e w3 ⟨rfl, hn3⟩
    clear s_0 s_1 t_0 t_1
    go_wp2_with fail
    have hA := c2_new w3 24 s1 s0
    have hn4 := hn3.alloc (.cells #[.int .u64 (W64 s1), .int .u64 (W64 s0)] 24)
    generalize w3.heap.size = b7 at *
    generalize w3.alloc (.cells #[.int .u64 (W64 s1), .int .u64 (W64 s0)] 24) = w4 at *
    refine (Cadd.out _ _ _ _ _ (HR2.out.stay hn4) (HZ2.out.stay hn4)).mono ?_
    rintro e w5 ⟨v5, rfl, hown5, hn5⟩
    obtain ⟨av3, c3, rfl, hz3⟩ := bits_row hown5 (by omega)
    have hn25 := hn4.trans hn5
    obtain ⟨s_0, s_1⟩ := HX2.out.stay hn25
    obtain ⟨t_0, t_1⟩ := HY2.out.stay hn25
    have HA := Lib.hid (hA.stay hn5)
    have HZ3 := Lib.hid hz3
    have HN25 := Lib.hid hn25
    clear hown5 hz3 hA hn5 hn4 hn3 hn25
    go_wp2_with fail
    refine (CSub.out _).mono ?_
    rintro e w6 ⟨rfl, hn6⟩
    clear s_0 s_1 t_0 t_1
    go_wp2_with fail
    have hB := c2_new w6 24 d1 d0
    have hn7 := hn6.alloc (.cells #[.int .u64 (W64 d1), .int .u64 (W64 d0)] 24)
    generalize w6.heap.size = b11 at *
    generalize w6.alloc (.cells #[.int .u64 (W64 d1), .int .u64 (W64 d0)] 24) = w7 at *
    have hn27 := HN25.out.trans hn7
    refine (Csub.out _ _ _ _ _ (HR2.out.stay hn27) (HZ2.out.stay hn27)).mono ?_
    rintro e w8 ⟨v8, rfl, hown8, hn8⟩
    obtain ⟨av4, c4, rfl, hz4⟩ := bits_row hown8 (by omega)
    have hn28 := hn27.trans hn8
    have hn58 := hn7.trans hn8
    have hx := HX2.out.stay hn28
    have hy := HY2.out.stay hn28
    have hb := hB.stay hn8
    have ha := HA.out.stay hn58
    have hz1 := HR2.out.stay hn28
    have hz2 := HZ2.out.stay hn28
    have hz3 := HZ3.out.stay hn58
    have hN := HN2.out.trans hn28
    clear HX2 HY2 HN2 HR2 HZ2 HA HZ3 HN25 hn6 hn7 hn8 hn27 hn28 hn58 hB hown8
    go_wp2_with fail
    refine wp_region_class (fun w' => (C2 w' W.heap.size x0_0 x0_1 ∧ C2 w' (W.heap.size + 1) x1_0 x1_1) ∧ (C2 w' b7 s1 s0 ∧ C2 w' b11 d1 d0) ∧ New w8 w') (by kernel_rfl) (by kernel_rfl) ⟨⟨hx.stay (New.refl _).drew, hy.stay (New.refl _).drew⟩, ⟨ha.stay (New.refl _).drew, hb.stay (New.refl _).drew⟩, (New.refl _).drew⟩ ?_
    intro I _ f hall hback
    have HSTEP : Hid (∀ n w', New (f n) w' → ∃ m, w' = f m) := Lib.hid fun n w' hn => hback w' ⟨⟨(hall n).1.1.stay hn, (hall n).1.2.stay hn⟩, ⟨(hall n).2.1.1.stay hn, (hall n).2.1.2.stay hn⟩, (hall n).2.2.trans hn⟩
    have HALL := Lib.hid hall
    have a0 := fun n => (hall n).1.1.1
    have a1 := fun n => (hall n).1.1.2
    have b0 := fun n => (hall n).1.2.1
    have b1 := fun n => (hall n).1.2.2
    have e0 := fun n => (hall n).2.1.1.1
    have e1 := fun n => (hall n).2.1.1.2
    have g0 := fun n => (hall n).2.1.2.1
    have g1 := fun n => (hall n).2.1.2.2
    have HZ1 := Lib.hid fun n => hz1.stay (hall n).2.2
    have HZ2 := Lib.hid fun n => hz2.stay (hall n).2.2
    have HZ3 := Lib.hid fun n => hz3.stay (hall n).2.2
    have HZ4 := Lib.hid fun n => hz4.stay (hall n).2.2
    have HN := Lib.hid hN
    clear hall hback hN hx hy ha hb hz1 hz2 hz3 hz4
    have heq1 := fun w => equ128 w s1 s0 s1 s0
    have heq2 := fun w => equ128 w d1 d0 d1 d0
    simp only [BEq.rfl, Bool.and_self] at heq1 heq2
    all_goals (
      repeat (go_big_quiet_step (first
        | (go_at_call_of 17 (Value.slice av3 128 c3); refine class_new HSTEP.out (Cto.out _ _ _ (HZ3.out _)))
        | (go_at_call_of 17 (Value.slice av4 128 c4); refine class_new HSTEP.out (Cto'.out _ _ _ (HZ4.out _)))
        | (go_at_call 18; refine class_new HSTEP.out (CCmp.out _))
        | (go_at_call 19; refine class_same (Ccmp.out _ _ _ _ _ (HZ1.out _) (HZ2.out _)))))
      refine wpQuiet_nil ?_
      rintro w9 ⟨n1, hw1⟩
      have hS := HN.out.trans (HALL.out n1).2.2
      rw [← hw1] at hS
      clear HALL HSTEP hw1 a0 a1 b0 b1 e0 e1 g0 g1
      go_wp2
      go_ret
      exact ⟨rfl, hS⟩))
theorem WideSums_walk (W : World) (x0_0 : BitVec 64) (x0_1 : BitVec 64) (x1_0 : BitVec 64) (x1_1 : BitVec 64) :
    Calls Try.prog 3 #[.agg #[.int .u64 (W64 x0_0), .int .u64 (W64 x0_1)], .agg #[.int .u64 (W64 x1_0), .int .u64 (W64 x1_1)]] W fun e w' => e = .returned (.bool true) ∧ Below W.heap.size W w' := by
  have lA := two_lt128 x0_0 x0_1
  have lB := two_lt128 x1_0 x1_1
  have hE : two x0_0 x0_1 + 2 ^ 128 - two x1_0 x1_1 + two x1_0 x1_1 = two x0_0 x0_1 + 2 ^ 128 := Nat.sub_add_cancel (Nat.le_trans (Nat.le_of_lt lB) (Nat.le_add_left _ _))
  exact sums_try W x0_0 x0_1 x1_0 x1_1 _ _ _ _ (two x0_0 x0_1) (two x1_0 x1_1) (two x0_0 x0_1 + two x1_0 x1_1) (two x0_0 x0_1 + 2 ^ 128 - two x1_0 x1_1) _ _ _ _ _
    (carry_add _ _ lA lB) (lack_sub _ _ lA lB)
    (Lib.hid fun w => of2_own x0_0 x0_1 w)
    (Lib.hid fun w => of2_own x1_0 x1_1 w)
    (Lib.hid fun w => wadd_two x0_0 x0_1 x1_0 x1_1 w)
    (Lib.hid fun w => wsub_two x0_0 x0_1 x1_0 x1_1 w _ hE)
    (Lib.hid fun w => wcmp_two x0_0 x0_1 x1_0 x1_1 w)
    (Lib.hid fun ca cb a b w ha hb => badd_own _ _ 128 128 ca cb a b 128 128 rfl (by omega) w ha lA hb lB)
    (Lib.hid fun ca cb a b w ha hb => bsub_own _ _ 128 128 ca cb a b 128 128 rfl (by omega) w ha lA hb lB _ hE)
    (Lib.hid fun ca cb a b w ha hb => bcmp_any _ _ 128 128 ca cb a b w ha lA hb lB)
    (Lib.hid fun c a w h => to2_mod _ c a w h)
    (Lib.hid fun c a w h => to2_mod _ c a w h)
end Go.Proofs.Ytepphoncljlkoaa
