/- The walk of the statement WideProducts: for all numbers of two words. -/
import Derived.Test.YtepphoncljlkoaaWidS
import Derived.Test.YtepphoncljlkoaaBitM
import Derived.Test.YtepphoncljlkoaaWidG
import Derived.ChangeKeysEq
import Derived.Laws.StructEq
namespace Go.Proofs.Ytepphoncljlkoaa
open Go.RowKit Go.Bv
set_option linter.unusedVariables false
theorem info64 : (Try.prog.info? 22).isSome = true := by kernel_rfl
theorem cells64 : Try.prog.cellsOf 22 = 1 := by kernel_rfl
theorem eq256 (w : World) (x0 x1 x2 x3 y0 y1 y2 y3 : BitVec 64) :
    (Op.equalIn 10000 39 (.agg #[.int .u64 (W64 x0), .int .u64 (W64 x1), .int .u64 (W64 x2), .int .u64 (W64 x3)]) (.agg #[.int .u64 (W64 y0), .int .u64 (W64 y1), .int .u64 (W64 y2), .int .u64 (W64 y3)])).run Try.prog w =
      .ok (x0 == y0 && (x1 == y1 && (x2 == y2 && x3 == y3))) w := by
  obtain ⟨i, hi⟩ := Option.isSome_iff_exists.1 info64
  rw [run_equalIn_array w 9999 _ _ Try.underlying39 hi, cells64, show List.range 4 = [0, 1, 2, 3] from rfl]
  have hu := Try.underlying22
  have e0 := run_part_plain (w := w) (v := .int .u64 (W64 x0)) plain_u64 (xs := #[.int .u64 (W64 x0), .int .u64 (W64 x1), .int .u64 (W64 x2), .int .u64 (W64 x3)]) (off := 0) rfl
  have e1 := run_part_plain (w := w) (v := .int .u64 (W64 x1)) plain_u64 (xs := #[.int .u64 (W64 x0), .int .u64 (W64 x1), .int .u64 (W64 x2), .int .u64 (W64 x3)]) (off := 1) rfl
  have e2 := run_part_plain (w := w) (v := .int .u64 (W64 x2)) plain_u64 (xs := #[.int .u64 (W64 x0), .int .u64 (W64 x1), .int .u64 (W64 x2), .int .u64 (W64 x3)]) (off := 2) rfl
  have e3 := run_part_plain (w := w) (v := .int .u64 (W64 x3)) plain_u64 (xs := #[.int .u64 (W64 x0), .int .u64 (W64 x1), .int .u64 (W64 x2), .int .u64 (W64 x3)]) (off := 3) rfl
  have f0 := run_part_plain (w := w) (v := .int .u64 (W64 y0)) plain_u64 (xs := #[.int .u64 (W64 y0), .int .u64 (W64 y1), .int .u64 (W64 y2), .int .u64 (W64 y3)]) (off := 0) rfl
  have f1 := run_part_plain (w := w) (v := .int .u64 (W64 y1)) plain_u64 (xs := #[.int .u64 (W64 y0), .int .u64 (W64 y1), .int .u64 (W64 y2), .int .u64 (W64 y3)]) (off := 1) rfl
  have f2 := run_part_plain (w := w) (v := .int .u64 (W64 y2)) plain_u64 (xs := #[.int .u64 (W64 y0), .int .u64 (W64 y1), .int .u64 (W64 y2), .int .u64 (W64 y3)]) (off := 2) rfl
  have f3 := run_part_plain (w := w) (v := .int .u64 (W64 y3)) plain_u64 (xs := #[.int .u64 (W64 y0), .int .u64 (W64 y1), .int .u64 (W64 y2), .int .u64 (W64 y3)]) (off := 3) rfl
  have g0 := run_equalIn_int (w := w) 9998 _ .u64 .u64 (W64 x0) (W64 y0) hu
  have g1 := run_equalIn_int (w := w) 9998 _ .u64 .u64 (W64 x1) (W64 y1) hu
  have g2 := run_equalIn_int (w := w) 9998 _ .u64 .u64 (W64 x2) (W64 y2) hu
  have g3 := run_equalIn_int (w := w) 9998 _ .u64 .u64 (W64 x3) (W64 y3) hu
  rw [eq_u64] at g0 g1 g2 g3
  simp only [Op.eqItems, Sem.run_bind, Nat.mul_one, e0, f0, g0, Result.andThen_ok]
  rcases h0 : x0 == y0 <;> rcases h1 : x1 == y1 <;> rcases h2 : x2 == y2 <;> rcases h3 : x3 == y3 <;> rw [h1] at g1 <;> rw [h2] at g2 <;> rw [h3] at g3 <;> simp [Sem.run_bind, e1, e2, e3, f1, f2, f3, g1, g2, g3]
set_option maxHeartbeats 2000000 in
theorem products_try (W : World) (x0_0 x0_1 x1_0 x1_1 y0 y1 y2 y3 s1 s0 : BitVec 64) (A B N a b M : Nat)
    (COf0 : Hid (∀ w : World, Calls Try.prog 12 #[.agg #[.int .u64 (W64 x0_0), .int .u64 (W64 x0_1)]] w fun e w' => ∃ v, e = .returned v ∧ w'.ownsRow w.heap.size 3 1 v 128 ((bitsOf A 128).map fun y => .int .i64 y) ∧ New w w'))
    (COf1 : Hid (∀ w : World, Calls Try.prog 12 #[.agg #[.int .u64 (W64 x1_0), .int .u64 (W64 x1_1)]] w fun e w' => ∃ v, e = .returned v ∧ w'.ownsRow w.heap.size 3 1 v 128 ((bitsOf B 128).map fun y => .int .i64 y) ∧ New w w'))
    (CMul : Hid (∀ (ca cb : Nat) (p q : Option Addr) (w : World), ZRow w p 128 ca (bitsOf A 128) → ZRow w q 128 cb (bitsOf B 128) → Calls Try.prog 20 #[.slice p 128 ca, .slice q 128 cb, .int .i64 256] w fun e w' => ∃ v, e = .returned v ∧ w'.ownsRow w.heap.size 3 1 v 256 ((bitsOf N 256).map fun y => .int .i64 y) ∧ New w w'))
    (COa : Hid (∀ w : World, Calls Try.prog 21 #[.int .u64 (W64 x0_1), .int .i64 64] w fun e w' => ∃ v, e = .returned v ∧ w'.ownsRow w.heap.size 3 1 v 64 ((bitsOf a 64).map fun y => .int .i64 y) ∧ New w w'))
    (COb : Hid (∀ w : World, Calls Try.prog 21 #[.int .u64 (W64 x1_1), .int .i64 64] w fun e w' => ∃ v, e = .returned v ∧ w'.ownsRow w.heap.size 3 1 v 64 ((bitsOf b 64).map fun y => .int .i64 y) ∧ New w w'))
    (CMs : Hid (∀ (ca cb : Nat) (p q : Option Addr) (w : World), ZRow w p 64 ca (bitsOf a 64) → ZRow w q 64 cb (bitsOf b 64) → Calls Try.prog 20 #[.slice p 64 ca, .slice q 64 cb, .int .i64 128] w fun e w' => ∃ v, e = .returned v ∧ w'.ownsRow w.heap.size 3 1 v 128 ((bitsOf M 128).map fun y => .int .i64 y) ∧ New w w'))
    (CFull : Hid (∀ w : World, Calls Try.prog 22 #[.agg #[.int .u64 (W64 x0_0), .int .u64 (W64 x0_1)], .agg #[.int .u64 (W64 x1_0), .int .u64 (W64 x1_1)]] w fun e w' => e = .returned (.agg #[.int .u64 (W64 y0), .int .u64 (W64 y1), .int .u64 (W64 y2), .int .u64 (W64 y3)]) ∧ New w w'))
    (CTimes : Hid (∀ w : World, Calls Try.prog 24 #[.agg #[.int .u64 (W64 x0_0), .int .u64 (W64 x0_1)], .agg #[.int .u64 (W64 x1_0), .int .u64 (W64 x1_1)]] w fun e w' => e = .returned (.agg #[.int .u64 (W64 y1), .int .u64 (W64 y0)]) ∧ New w w'))
    (CLow : Hid (∀ w : World, Calls Try.prog 25 #[.int .u64 (W64 x0_1), .int .u64 (W64 x1_1)] w fun e w' => e = .returned (.agg #[.int .u64 (W64 s1), .int .u64 (W64 s0)]) ∧ New w w'))
    (CTo4 : Hid (∀ (c : Nat) (p : Option Addr) (w : World), ZRow w p 256 c (bitsOf N 256) → Calls Try.prog 23 #[.slice p 256 c] w fun e w' => e = .returned (.agg #[.int .u64 (W64 y0), .int .u64 (W64 y1), .int .u64 (W64 y2), .int .u64 (W64 y3)]) ∧ New w w'))
    (CTo2 : Hid (∀ (c : Nat) (p : Option Addr) (w : World), ZRow w p 256 c (bitsOf N 256) → Calls Try.prog 17 #[.slice p 256 c] w fun e w' => e = .returned (.agg #[.int .u64 (W64 y1), .int .u64 (W64 y0)]) ∧ New w w'))
    (CTo2s : Hid (∀ (c : Nat) (p : Option Addr) (w : World), ZRow w p 128 c (bitsOf M 128) → Calls Try.prog 17 #[.slice p 128 c] w fun e w' => e = .returned (.agg #[.int .u64 (W64 s1), .int .u64 (W64 s0)]) ∧ New w w')) :
    Calls Try.prog 4 #[.agg #[.int .u64 (W64 x0_0), .int .u64 (W64 x0_1)], .agg #[.int .u64 (W64 x1_0), .int .u64 (W64 x1_1)]] W fun e w' => e = .returned (.bool true) ∧ Below W.heap.size W w' := by
  go_enter Try.func4, Try.ntmps4
  go_wp2_with fail
  refine (awake01 _).mono ?_
  rintro e w ⟨rfl, hn1⟩
  have hs := ((c2_new W 24 x0_0 x0_1).stay ((New.refl _).alloc _)).stay hn1
  have ht := (c2_new (W.alloc (.cells #[.int .u64 (W64 x0_0), .int .u64 (W64 x0_1)] 24)) 24 x1_0 x1_1).stay hn1
  rw [show (W.alloc (.cells #[.int .u64 (W64 x0_0), .int .u64 (W64 x0_1)] 24)).heap.size = W.heap.size + 1 by simp] at ht
  have hN : New W w := (((New.refl W).alloc _).alloc _).trans hn1
  clear hn1
  have HN := Lib.hid hN
  have HS := Lib.hid (hs.stay (New.refl _).drew)
  have HT := Lib.hid (ht.stay (New.refl _).drew)
  obtain ⟨s_0, s_1⟩ := HS.out
  obtain ⟨t_0, t_1⟩ := HT.out
  clear hN hs ht
  go_wp2_with fail
  go_region_law (first
    | (go_simp
       go_at_call_of 12 (Value.int IntKind.u64 (W64 x0_0))
       refine (COf0.out _).mono ?_
       rintro e w1 ⟨v1, rfl, hown1, hn1⟩
       obtain ⟨av1, c1, rfl, hz1⟩ := bits_row hown1 (by omega)
       obtain ⟨s_0, s_1⟩ := HS.out.stay hn1
       obtain ⟨t_0, t_1⟩ := HT.out.stay hn1
       have HN1 := Lib.hid (HN.out.drew.trans hn1)
       have HD1 := Lib.hid hn1
       have HZ1 := Lib.hid hz1
       clear hown1 hn1 hz1)
    | (go_simp
       go_at_call_of 12 (Value.int IntKind.u64 (W64 x1_0))
       refine (COf1.out _).mono ?_
       rintro e w2 ⟨v2, rfl, hown2, hn2⟩
       obtain ⟨av2, c2, rfl, hz2⟩ := bits_row hown2 (by omega)
       have HX2 := Lib.hid ((HS.out.stay HD1.out).stay hn2)
       have HY2 := Lib.hid ((HT.out.stay HD1.out).stay hn2)
       have HN2 := Lib.hid (HN1.out.trans hn2)
       have HR2 := Lib.hid (HZ1.out.stay hn2)
       have HZ2 := Lib.hid hz2
       clear hown2 hn2 hz2 s_0 s_1 t_0 t_1))
  all_goals (
    clear HN1 HN HS HT HD1 HZ1 COf0 COf1
    go_wp2_with fail
    refine (CMul.out _ _ _ _ _ HR2.out HZ2.out).mono ?_
    rintro e w3' ⟨v3, rfl, hown3, hn3⟩
    obtain ⟨av3, c3, rfl, hz3⟩ := bits_row hown3 (by omega)
    have HX3 := Lib.hid ((HX2.out.stay hn3).stay (New.refl _).drew)
    have HY3 := Lib.hid ((HY2.out.stay hn3).stay (New.refl _).drew)
    have HN3 := Lib.hid (HN2.out.trans hn3).drew
    have HZ3 := Lib.hid (hz3.stay (New.refl _).drew)
    clear HX2 HY2 HN2 HR2 HZ2 hown3 hz3 hn3
    obtain ⟨s_0, s_1⟩ := HX3.out
    obtain ⟨t_0, t_1⟩ := HY3.out
    go_wp2_with fail
    go_region_law (first
      | (go_simp
         go_at_call_of 21 (Value.int IntKind.u64 (W64 x0_1))
         refine (COa.out _).mono ?_
         rintro e w4 ⟨v4, rfl, hown4, hn4⟩
         obtain ⟨av4, c4, rfl, hz4⟩ := bits_row hown4 (by omega)
         obtain ⟨s_0, s_1⟩ := HX3.out.stay hn4
         obtain ⟨t_0, t_1⟩ := HY3.out.stay hn4
         have HN4 := Lib.hid hn4
         have HZ4 := Lib.hid hz4
         clear hown4 hn4 hz4)
      | (go_simp
         go_at_call_of 21 (Value.int IntKind.u64 (W64 x1_1))
         refine (COb.out _).mono ?_
         rintro e w5 ⟨v5, rfl, hown5, hn5⟩
         obtain ⟨av5, c5, rfl, hz5⟩ := bits_row hown5 (by omega)
         have HN5 := Lib.hid (HN4.out.trans hn5)
         have HR4 := Lib.hid (HZ4.out.stay hn5)
         have HZ5 := Lib.hid hz5
         clear hown5 hn5 hz5 s_0 s_1 t_0 t_1)
      | (go_simp
         go_at_call 20
         refine (CMs.out _ _ _ _ _ HR4.out HZ5.out).mono ?_
         rintro e w6 ⟨v6, rfl, hown6, hn6⟩
         obtain ⟨av6, c6, rfl, hz6⟩ := bits_row hown6 (by omega)
         have HN6 := Lib.hid (HN5.out.trans hn6)
         have HZ6 := Lib.hid hz6
         clear hown6 hn6 hz6))
    all_goals (
      have hX := HX3.out.stay HN6.out
      have hY := HY3.out.stay HN6.out
      have hZ := HZ3.out.stay HN6.out
      have hN := HN3.out.trans HN6.out
      have hM := HZ6.out
      clear HX3 HY3 HZ3 HN3 HN4 HN5 HN6 HZ4 HZ5 HR4 HZ6
      have HX := Lib.hid hX
      have HY := Lib.hid hY
      have HZ := Lib.hid hZ
      have HN := Lib.hid hN
      have HM := Lib.hid hM
      clear hX hY hZ hN hM
      have heq4 := fun w => eq256 w y0 y1 y2 y3 y0 y1 y2 y3
      have heq2 := fun w => equ128 w y1 y0 y1 y0
      have heqs := fun w => equ128 w s1 s0 s1 s0
      simp only [BEq.rfl, Bool.and_self] at heq4 heq2 heqs
      obtain ⟨s_0, s_1⟩ := HX.out
      obtain ⟨t_0, t_1⟩ := HY.out
      go_wp2_with fail
      refine (CFull.out _).mono ?_
      rintro e w7 ⟨rfl, hn7⟩
      go_wp2_with fail
      refine (CTo4.out _ _ _ (HZ.out.stay hn7)).mono ?_
      rintro e w8 ⟨rfl, hn8⟩
      have hn8 := hn7.trans hn8
      obtain ⟨s_0, s_1⟩ := HX.out.stay hn8
      obtain ⟨t_0, t_1⟩ := HY.out.stay hn8
      go_wp2_with fail
      refine (CTimes.out _).mono ?_
      rintro e w9 ⟨rfl, hn9⟩
      have hn9 := hn8.trans hn9
      go_wp2_with fail
      refine (CTo2.out _ _ _ (HZ.out.stay hn9)).mono ?_
      rintro e w10 ⟨rfl, hn10⟩
      have hn10 := hn9.trans hn10
      obtain ⟨s_0, s_1⟩ := HX.out.stay hn10
      obtain ⟨t_0, t_1⟩ := HY.out.stay hn10
      go_wp2_with fail
      refine (CLow.out _).mono ?_
      rintro e w11 ⟨rfl, hn11⟩
      have hn11 := hn10.trans hn11
      go_wp2_with fail
      refine (CTo2s.out _ _ _ (HM.out.stay hn11)).mono ?_
      rintro e w12 ⟨rfl, hn12⟩
      have hn12 := hn11.trans hn12
      go_wp2
      go_ret
      exact ⟨rfl, HN.out.trans hn12⟩))
theorem hiN_pow (N : Nat) : hiN N = BitVec.ofNat 64 (N / 2 ^ 64) := rfl
theorem WideProducts_walk (W : World) (x0_0 : BitVec 64) (x0_1 : BitVec 64) (x1_0 : BitVec 64) (x1_1 : BitVec 64) :
    Calls Try.prog 4 #[.agg #[.int .u64 (W64 x0_0), .int .u64 (W64 x0_1)], .agg #[.int .u64 (W64 x1_0), .int .u64 (W64 x1_1)]] W fun e w' => e = .returned (.bool true) ∧ Below W.heap.size W w' := by
  have lA := two_lt128 x0_0 x0_1
  have lB := two_lt128 x1_0 x1_1
  have lN : two x0_0 x0_1 * two x1_0 x1_1 < 2 ^ 256 := by
    rw [show (2 : Nat) ^ 256 = 2 ^ 128 * 2 ^ 128 from by rw [← Nat.pow_add]]
    exact Nat.mul_lt_mul_of_lt_of_lt lA lB
  have lM : x0_1.toNat * x1_1.toNat < 2 ^ 128 := by
    rw [show (2 : Nat) ^ 128 = 2 ^ 64 * 2 ^ 64 from by rw [← Nat.pow_add]]
    exact Nat.mul_lt_mul_of_lt_of_lt x0_1.isLt x1_1.isLt
  have cl := fun w => wmul_any x0_1 x1_1 w
  exact products_try W x0_0 x0_1 x1_0 x1_1 _ _ _ _ _ _ (two x0_0 x0_1) (two x1_0 x1_1) (two x0_0 x0_1 * two x1_0 x1_1) x0_1.toNat x1_1.toNat (x0_1.toNat * x1_1.toNat)
    (Lib.hid fun w => of2_own x0_0 x0_1 w)
    (Lib.hid fun w => of2_own x1_0 x1_1 w)
    (Lib.hid fun ca cb p q w ha hb => bmul_own _ _ 128 128 ca cb p q 256 256 rfl (by omega) (by omega) w ha lA hb lB)
    (Lib.hid fun w => of_own x0_1 64 64 (by omega) rfl w)
    (Lib.hid fun w => of_own x1_1 64 64 (by omega) rfl w)
    (Lib.hid fun ca cb p q w ha hb => bmul_own _ _ 64 64 ca cb p q 128 128 rfl (by omega) (by omega) w ha x0_1.isLt hb x1_1.isLt)
    (Lib.hid fun w => wfull_two x0_0 x0_1 x1_0 x1_1 w)
    (Lib.hid fun w => wtimes_two x0_0 x0_1 x1_0 x1_1 w)
    (Lib.hid cl)
    (Lib.hid fun c p w h => to4_any _ 256 c p w h lN)
    (Lib.hid fun c p w h => to2_any _ 256 c p w h lN)
    (Lib.hid fun c p w h => to2_any _ 128 c p w h lM)
end Go.Proofs.Ytepphoncljlkoaa
