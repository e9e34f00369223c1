import Derived.Test.YtfaobdmoifnglaaGreatZBitQ
import Derived.Test.YtfaobdmoifnglaaGreatZClass
import Derived.Deep.RegionLaw
import Derived.Deep.RegionWith
import Derived.Handy
import Derived.Test.YtfaobdmoifnglaaGreatZPkC
import Derived.Deep.RegionHeld3
section
/- The example of wide (awake); the walk of the statement WideSums: for all numbers of two words. -/
set_option maxRecDepth 100000
namespace Go.Bv
open Go Go.RowKit
/-- the two words of a number, in a box -/
def Cw2 (w : World) (b : Nat) (x y : BitVec 64) : Prop := w.cell? ⟨b, 0, none⟩ = some (.int .u64 (W64 x)) ∧ w.cell? ⟨b, 1, none⟩ = some (.int .u64 (W64 y))
theorem Cw2.stay {w w' : World} {b : Nat} {x y : BitVec 64} (h : Cw2 w b x y) (hn : New w w') : Cw2 w' b x y := by
  have hb : b < w.heap.size := World.block_lt_of_cell? w ⟨b, 0, none⟩ h.1
  exact ⟨by rw [hn.cell (a := ⟨b, 0, none⟩) hb]; exact h.1, by rw [hn.cell (a := ⟨b, 1, none⟩) hb]; exact h.2⟩
theorem c2_new (w : World) (t : TypeId) (x y : BitVec 64) : Cw2 (w.alloc (.cells #[.int .u64 (W64 x), .int .u64 (W64 y)] t)) w.heap.size x y :=
  ⟨by rw [World.cell?_alloc_new]; rfl, by rw [World.cell?_alloc_new]; rfl⟩
theorem mod_hi (N : Nat) : BitVec.ofNat 64 (N % 2 ^ 128 / 2 ^ 64) = BitVec.ofNat 64 (N / 2 ^ 64) := by
  apply BitVec.eq_of_toNat_eq; rw [BitVec.toNat_ofNat, BitVec.toNat_ofNat]
  rw [show (2 : Nat) ^ 128 = 2 ^ 64 * 2 ^ 64 from by rw [← Nat.pow_add], Nat.mod_mul_right_div_self, Nat.mod_mod]
theorem mod_lo (N : Nat) : BitVec.ofNat 64 (N % 2 ^ 128) = BitVec.ofNat 64 N := by
  apply BitVec.eq_of_toNat_eq; rw [BitVec.toNat_ofNat, BitVec.toNat_ofNat]
  rw [show (2 : Nat) ^ 128 = 2 ^ 64 * 2 ^ 64 from by rw [← Nat.pow_add], Nat.mod_mul_right_mod]
end Go.Bv
namespace Go.Proofs.YtfaobdmoifnglaaGreat
open Go.RowKit Go.Bv
set_option linter.unusedVariables false
theorem to2_mod (N c : Nat) (a : Option Addr) (w : World) (hr : ZRow w a 128 c (bitsOf N 128)) :
    Calls Tryz.prog 57 #[.slice a 128 c] w fun e w' => e = .returned (.agg #[.int .u64 (W64 (BitVec.ofNat 64 (N / 2 ^ 64))), .int .u64 (W64 (BitVec.ofNat 64 N))]) ∧ New w w' := by
  rw [← bitsOf_mod] at hr
  have h := to2_any (N % 2 ^ 128) 128 c a w hr (Nat.mod_lt _ (Nat.two_pow_pos _))
  rw [mod_hi, mod_lo] at h
  exact h
theorem mul_ex (w : World) : Calls Tryz.prog 171 #[.int .u64 9223372036854775808, .int .u64 2] w fun e w' => e = .returned (.agg #[.int .u64 1, .int .u64 0]) ∧ New w w' := by
  have h := wmul_any 9223372036854775808#64 2#64 w
  rw [show hiN ((9223372036854775808#64).toNat * (2#64).toNat) = 1#64 by decide +kernel, show loN ((9223372036854775808#64).toNat * (2#64).toNat) = 0#64 by decide +kernel,
    show W64 9223372036854775808#64 = 9223372036854775808 from W64_lit 9223372036854775808 (by omega), show W64 2#64 = 2 from W64_lit 2 (by omega), show W64 1#64 = 1 from W64_lit 1 (by omega), lo_zero] at h
  exact h
theorem equ_ex (w : World) : (Op.equalIn 10000 74 (.agg #[.int .u64 1, .int .u64 0]) (.agg #[.int .u64 1, .int .u64 0])).run Tryz.prog w = .ok true w := by
  have h := equ128 w 1#64 0#64 1#64 0#64
  rw [show W64 1#64 = 1 from W64_lit 1 (by omega), lo_zero] at h
  exact h
end Go.Proofs.YtfaobdmoifnglaaGreat
end
section
/- Contracts of the document's own Step, Sum and Steps of pcg64. -/
set_option maxRecDepth 100000
namespace Go.Bv
open Go Go.RowKit
theorem bt_test (N i : Nat) : bt N i = if N.testBit i then 1 else 0 := by
  unfold bt
  rw [Nat.testBit_eq_decide_div_mod_eq]
  have h := Nat.mod_two_eq_zero_or_one (N / 2 ^ i)
  rcases h with h | h <;> simp [h]
theorem bits_or1 (x : BitVec 128) : (bitsOf x.toNat 128).set 0 1 = bitsOf (x ||| 1#128).toNat 128 := by
  apply ints_eq (n := 128)
  · rw [List.length_set, bitsOf_len]
  · rw [bitsOf_len]
  · intro j hj
    rw [bitsOf_at hj, List.getD_eq_getElem?_getD, List.getElem?_set, bitsOf_len, bt_test, BitVec.toNat_or, Nat.testBit_or]
    by_cases h : j = 0
    · subst h
      rw [if_pos rfl, if_pos hj, show (1#128).toNat.testBit 0 = true from rfl, Bool.or_true]; rfl
    · rw [if_neg (fun e => h e.symm), ← List.getD_eq_getElem?_getD, bitsOf_at hj, bt_test]
      have h1 : (1#128).toNat.testBit j = false := by
        rw [show (1#128).toNat = 1 from rfl, Nat.testBit_eq_decide_div_mod_eq, Nat.div_eq_of_lt (Nat.one_lt_two_pow h)]; rfl
      rw [h1, Bool.or_false]
end Go.Bv
namespace Go.Proofs.YtfaobdmoifnglaaGreat
open Go.RowKit Go.Bv
set_option linter.unusedVariables false
theorem of2_x (x : BitVec 128) (w : World) : Calls Tryz.prog 54 #[.agg #[.int .u64 (W64 (hi128 x)), .int .u64 (W64 (lo128 x))]] w fun e w' =>
      ∃ v, e = .returned v ∧ w'.ownsRow w.heap.size 3 1 v 128 ((bitsOf x.toNat 128).map fun y => .int .i64 y) ∧ New w w' := by
  have h := of2_own (hi128 x) (lo128 x) w
  rw [two_x] at h
  exact h
theorem to2_x (x : BitVec 128) (N c : Nat) (hN : BitVec.ofNat 128 N = x) (a : Option Addr) (w : World) (hr : ZRow w a 128 c (bitsOf N 128)) :
    Calls Tryz.prog 57 #[.slice a 128 c] w fun e w' => e = .returned (.agg #[.int .u64 (W64 (hi128 x)), .int .u64 (W64 (lo128 x))]) ∧ New w w' := by
  have h := to2_mod N c a w hr
  rw [← hi_ofNat, ← lo_ofNat, hN] at h
  exact h
set_option maxHeartbeats 2000000 in
theorem stepr14 (s x : BitVec 128) (w : World) : Calls Tryz.prog 43 #[.agg #[.int .u64 (W64 (hi128 s)), .int .u64 (W64 (lo128 s))], .agg #[.int .u64 (W64 (hi128 x)), .int .u64 (W64 (lo128 x))]] w fun e w' =>
    e = .returned (.agg #[.int .u64 (W64 (hi128 (s * T14 + (x ||| 1#128)))), .int .u64 (W64 (lo128 (s * T14 + (x ||| 1#128))))]) ∧ New w w' := by
  obtain ⟨h1, h2, h3, h4⟩ := three_blocks w (.cells #[.int .u64 (W64 (hi128 s)), .int .u64 (W64 (lo128 s))] 74) (.cells #[.int .u64 (W64 (hi128 x)), .int .u64 (W64 (lo128 x))] 74) (.cells #[.int .u64 0, .int .u64 0] 74)
  have H1 := Lib.hid (show B2 _ _ _ s from h1)
  have H2 := Lib.hid (show B2 _ _ _ x from h2)
  have H3 := Lib.hid (show Z2 _ _ _ from h3)
  have H4 := Lib.hid h4
  have HT := fun w => of2_x T14 w
  rw [T14_hi, T14_lo] at HT
  have HT := Lib.hid HT
  have HTO : Hid (∀ (c : Nat) (a : Option Addr) (w : World), ZRow w a 128 c (bitsOf ((s.toNat * T14.toNat) % 2 ^ 128 + (x ||| 1#128).toNat) 128) →
      Calls Tryz.prog 57 #[.slice a 128 c] w fun e w' => e = .returned (.agg #[.int .u64 (W64 (hi128 (s * T14 + (x ||| 1#128)))), .int .u64 (W64 (lo128 (s * T14 + (x ||| 1#128))))]) ∧ New w w') := Lib.hid fun c a w h => to2_x (s * T14 + (x ||| 1#128)) _ c (by
    apply BitVec.eq_of_toNat_eq
    rw [BitVec.toNat_ofNat, BitVec.toNat_add, BitVec.toNat_mul]) a w h
  clear h1 h2 h3 h4
  go_enter Tryz.func43, Tryz.ntmps43
  go_wp2_with fail
  generalize ((w.alloc (.cells #[.int .u64 (W64 (hi128 s)), .int .u64 (W64 (lo128 s))] 74)).alloc (.cells #[.int .u64 (W64 (hi128 x)), .int .u64 (W64 (lo128 x))] 74)).alloc (.cells #[.int .u64 0, .int .u64 0] 74) = w0 at H1 H2 H3 H4 ⊢
  refine (of2_x x _).mono ?_
  rintro e w1 ⟨v1, rfl, hown1, hn1⟩
  obtain ⟨g, c1, rfl, hg, hg2⟩ := own_shape hown1 (by omega)
  obtain ⟨⟨u0, r0⟩, f0⟩ := own_cell' hown1 (k := 0) (by omega)
  have HO := Lib.hid (own_set hown1 0 (.int .i64 1))
  have HN1 := Lib.hid (hn1.setCell (p := ⟨g, 0, none⟩) (by show w0.heap.size ≤ g; omega) (.int .i64 1))
  clear hown1 hn1
  go_wp2_with fail
  generalize w1.setCell ⟨g, 0, none⟩ (.int .i64 1) = w2 at HO HN1 ⊢
  have how2 : w2.ownsRow w0.heap.size 3 1 (.slice (some ⟨g, 0, none⟩) 128 c1) 128 ((bitsOf (x ||| 1#128).toNat 128).map fun y => .int .i64 y) := by
    rw [← bits_or1, List.map_set]; exact HO.out
  obtain ⟨a2, c2, e2, hz2⟩ := bits_row how2 (by omega)
  injection e2 with e21 e22 e23
  subst e21 e23
  have HZ2 := Lib.hid hz2
  clear hz2 how2 HO r0 f0
  refine (HT.out _).mono ?_
  rintro e w3 ⟨v3, rfl, hown3, hn3⟩
  obtain ⟨a3, c3, rfl, hz3⟩ := bits_row hown3 (by omega)
  have hn13 := HN1.out.trans hn3
  have s0 := (H1.out.stay hn13).c0
  have s1 := (H1.out.stay hn13).c1
  go_wp2_with fail
  refine (of2_x s _).mono ?_
  rintro e w4 ⟨v4, rfl, hown4, hn4⟩
  obtain ⟨a4, c4, rfl, hz4⟩ := bits_row hown4 (by omega)
  go_wp2_with fail
  refine (bmul_own s.toNat T14.toNat 128 128 _ _ _ _ 128 128 rfl (by omega) (by omega) _ hz4 s.isLt (hz3.stay hn4) T14.isLt).mono ?_
  rintro e w5 ⟨v5, rfl, hown5, hn5⟩
  obtain ⟨a5, c5, rfl, hz5⟩ := bits_row hown5 (by omega)
  rw [← bitsOf_mod] at hz5
  have hn35 := hn4.trans hn5
  have hn25 := hn3.trans hn35
  go_wp2_with fail
  refine (badd_own _ (x ||| 1#128).toNat 128 128 _ _ _ _ 128 128 rfl (by omega) _ hz5 (Nat.mod_lt _ (Nat.two_pow_pos _)) (HZ2.out.stay hn25) (x ||| 1#128).isLt).mono ?_
  rintro e w6 ⟨v6, rfl, hown6, hn6⟩
  obtain ⟨a6, c6, rfl, hz6⟩ := bits_row hown6 (by omega)
  generalize cy _ _ _ = q at *
  have hn26 := hn25.trans hn6
  have HN26 := Lib.hid hn26
  clear hown3 hown4 hown5 hown6 hz3 hz4 hz5 hn3 hn4 hn5 hn6 hn25 hn35 hn26 s0 s1 hn13
  go_wp2_with fail
  refine (HTO.out _ _ _ hz6).mono ?_
  rintro e w7 ⟨rfl, hn7⟩
  have hn7 := (HN1.out.trans HN26.out).trans hn7
  have hz := H3.out.stay hn7
  have k0 := hz.c0
  have k1 := hz.c1
  have kf := hz.free
  have HN7 := Lib.hid (H4.out.trans hn7)
  clear hz hn7 hz6
  go_wp2
  refine bodyPost_ret (by simp [results, Tryz.results43, go_sem, k0, k1]; try rfl) rfl ?_
  exact ⟨rfl, put2_new _ HN7.out (by omega)⟩
set_option maxHeartbeats 2000000 in
theorem sumr14 (x y : BitVec 128) (w : World) : Calls Tryz.prog 50 #[.agg #[.int .u64 (W64 (hi128 x)), .int .u64 (W64 (lo128 x))], .agg #[.int .u64 (W64 (hi128 y)), .int .u64 (W64 (lo128 y))]] w fun e w' =>
    e = .returned (.agg #[.int .u64 (W64 (hi128 (x + y))), .int .u64 (W64 (lo128 (x + y)))]) ∧ New w w' := by
  obtain ⟨h1, h2, h3, h4⟩ := three_blocks w (.cells #[.int .u64 (W64 (hi128 x)), .int .u64 (W64 (lo128 x))] 74) (.cells #[.int .u64 (W64 (hi128 y)), .int .u64 (W64 (lo128 y))] 74) (.cells #[.int .u64 0, .int .u64 0] 74)
  have H1 := Lib.hid ((show B2 _ _ _ x from h1).stay (New.refl _).drew)
  have H2 := Lib.hid ((show B2 _ _ _ y from h2).stay (New.refl _).drew)
  have H3 := Lib.hid ((show Z2 _ _ _ from h3).stay (New.refl _).drew)
  have H4 := Lib.hid h4.drew
  have HTO : Hid (∀ (c : Nat) (a : Option Addr) (w : World), ZRow w a 128 c (bitsOf (x.toNat + y.toNat) 128) →
      Calls Tryz.prog 57 #[.slice a 128 c] w fun e w' => e = .returned (.agg #[.int .u64 (W64 (hi128 (x + y))), .int .u64 (W64 (lo128 (x + y)))]) ∧ New w w') := Lib.hid fun c a w h => to2_x (x + y) _ c (by
    apply BitVec.eq_of_toNat_eq
    rw [BitVec.toNat_ofNat, BitVec.toNat_add]) a w h
  clear h1 h2 h3 h4
  go_enter Tryz.func50, Tryz.ntmps50
  go_wp2_with fail
  generalize ((w.alloc (.cells #[.int .u64 (W64 (hi128 x)), .int .u64 (W64 (lo128 x))] 74)).alloc (.cells #[.int .u64 (W64 (hi128 y)), .int .u64 (W64 (lo128 y))] 74)).alloc (.cells #[.int .u64 0, .int .u64 0] 74) = w0 at H1 H2 H3 H4 ⊢
  have x0 := H1.out.c0
  have x1 := H1.out.c1
  have y0 := H2.out.c0
  have y1 := H2.out.c1
  go_region_law (first
    | (go_simp
       go_at_call_of 54 (Value.int IntKind.u64 (W64 (hi128 x)))
       refine (of2_x x _).mono ?_
       rintro e w1 ⟨v1, rfl, hown1, hn1⟩
       obtain ⟨av1, c1, rfl, hz1⟩ := bits_row hown1 (by omega)
       have y0 := (H2.out.stay hn1).c0
       have y1 := (H2.out.stay hn1).c1
       have HN1 := Lib.hid hn1
       have HZ1 := Lib.hid hz1
       clear hown1 hn1 hz1)
    | (go_simp
       go_at_call_of 54 (Value.int IntKind.u64 (W64 (hi128 y)))
       refine (of2_x y _).mono ?_
       rintro e w2 ⟨v2, rfl, hown2, hn2⟩
       obtain ⟨av2, c2, rfl, hz2⟩ := bits_row hown2 (by omega)
       have HN2 := Lib.hid (HN1.out.trans hn2)
       have HR2 := Lib.hid (HZ1.out.stay hn2)
       have HZ2 := Lib.hid hz2
       clear hown2 hn2 hz2)
    | (go_simp
       go_at_call 55
       refine (badd_own x.toNat y.toNat 128 128 _ _ _ _ 128 128 rfl (by omega) _ HR2.out x.isLt HZ2.out y.isLt).mono ?_
       rintro e w3 ⟨v3, rfl, hown3, hn3⟩
       obtain ⟨av3, c3, rfl, hz3⟩ := bits_row hown3 (by omega)
       generalize cy _ _ _ = q
       have HN3 := Lib.hid (HN2.out.trans hn3)
       have HZ3 := Lib.hid hz3
       clear hown3 hn3 hz3))
  all_goals (
    go_wp2_with fail
    refine (HTO.out _ _ _ HZ3.out).mono ?_
    rintro e w7 ⟨rfl, hn7⟩
    have hn7 := HN3.out.trans hn7
    have hz := H3.out.stay hn7
    have k0 := hz.c0
    have k1 := hz.c1
    have kf := hz.free
    have HN7 := Lib.hid (H4.out.trans hn7)
    clear hz hn7
    go_wp2
    refine bodyPost_ret (by simp [results, Tryz.results50, go_sem, k0, k1]; try rfl) rfl ?_
    exact ⟨rfl, put2_new _ HN7.out (by omega)⟩)
end Go.Proofs.YtfaobdmoifnglaaGreat
end
section
/- Next, Seed of pcg64, the document's own Seed, the example; the walks of the statements Pcg64Seeds and Pcg64Tells. -/
set_option maxRecDepth 100000
namespace Go.Proofs.YtfaobdmoifnglaaGreat
open Go.RowKit Go.Bv
set_option linter.unusedVariables false
def stp14 (s x : BitVec 128) : BitVec 128 := s * T14 + (x ||| 1#128)
theorem step_s (s x : BitVec 128) (w : World) : Calls Tryz.prog 120 #[.agg #[.int .u64 (W64 (hi128 s)), .int .u64 (W64 (lo128 s))], .agg #[.int .u64 (W64 (hi128 x)), .int .u64 (W64 (lo128 x))]] w fun e w' => e = .returned (.agg #[.int .u64 (W64 (hi128 (stp14 s x))), .int .u64 (W64 (lo128 (stp14 s x)))]) ∧ New w w' := step14 s x w
theorem step_r (s x : BitVec 128) (w : World) : Calls Tryz.prog 43 #[.agg #[.int .u64 (W64 (hi128 s)), .int .u64 (W64 (lo128 s))], .agg #[.int .u64 (W64 (hi128 x)), .int .u64 (W64 (lo128 x))]] w fun e w' => e = .returned (.agg #[.int .u64 (W64 (hi128 (stp14 s x))), .int .u64 (W64 (lo128 (stp14 s x)))]) ∧ New w w' := stepr14 s x w
theorem zero_hi : W64 (hi128 0#128) = 0 := by unfold W64; decide +kernel
theorem zero_lo : W64 (lo128 0#128) = 0 := by unfold W64; decide +kernel
theorem one_hi : W64 (hi128 1#128) = 0 := by unfold W64; decide +kernel
theorem one_lo : W64 (lo128 1#128) = 1 := by unfold W64; decide +kernel
theorem seven_hi : W64 (hi128 7#128) = 0 := by unfold W64; decide +kernel
theorem seven_lo : W64 (lo128 7#128) = 7 := by unfold W64; decide +kernel
set_option maxHeartbeats 1000000 in
theorem next14 (s x : BitVec 128) (w : World) : Calls Tryz.prog 122 #[.agg #[.int .u64 (W64 (hi128 s)), .int .u64 (W64 (lo128 s))], .agg #[.int .u64 (W64 (hi128 x)), .int .u64 (W64 (lo128 x))]] w fun e w' => e = .returned (.tuple #[.int .u64 (W64 (out14 (stp14 s x))), .agg #[.int .u64 (W64 (hi128 (stp14 s x))), .int .u64 (W64 (lo128 (stp14 s x)))]]) ∧ New w w' := by
  obtain ⟨h1, h2, h3, h4⟩ := three_blocks w (.cells #[.int .u64 (W64 (hi128 s)), .int .u64 (W64 (lo128 s))] 74) (.cells #[.int .u64 (W64 (hi128 x)), .int .u64 (W64 (lo128 x))] 74) (.cells #[.int .u64 0, .int .u64 0] 74)
  have H1 := Lib.hid (show B2 _ _ _ s from h1)
  have H2 := Lib.hid (show B2 _ _ _ x from h2)
  have H3 := Lib.hid (show Z2 _ _ _ from h3)
  have H4 := Lib.hid h4
  clear h1 h2 h3 h4
  have HS := Lib.hid (fun w => step_s s x w)
  have HO := Lib.hid (fun w => outp14 (stp14 s x) w)
  generalize stp14 s x = y at *
  go_enter Tryz.func122, Tryz.ntmps122
  go_wp2_with fail
  generalize ((w.alloc (.cells #[.int .u64 (W64 (hi128 s)), .int .u64 (W64 (lo128 s))] 74)).alloc (.cells #[.int .u64 (W64 (hi128 x)), .int .u64 (W64 (lo128 x))] 74)).alloc (.cells #[.int .u64 0, .int .u64 0] 74) = w0 at H1 H2 H3 H4 ⊢
  refine (HS.out _).mono ?_
  rintro e w1 ⟨rfl, hn1⟩
  have hB := heap_alloc_new w1 (.cells #[.int .u64 (W64 (hi128 y)), .int .u64 (W64 (lo128 y))] 74)
  have hn3 := hn1.alloc (.cells #[.int .u64 (W64 (hi128 y)), .int .u64 (W64 (lo128 y))] 74)
  go_wp2_with fail
  generalize w1.heap.size = b5 at *
  generalize w1.alloc (.cells #[.int .u64 (W64 (hi128 y)), .int .u64 (W64 (lo128 y))] 74) = w3 at *
  have H3 := Lib.hid ((H3.out.stay hn3).stay (New.refl _).drew)
  have H4 := Lib.hid (H4.out.trans hn3).drew
  have H5 := Lib.hid ((show B2 _ _ _ y from hB).stay (New.refl _).drew)
  clear hB hn1 hn3
  have y0 := H5.out.c0
  have y1 := H5.out.c1
  go_region_law (first
    | (go_simp
       go_at_call 154
       refine (HO.out _).mono ?_
       rintro e w4 ⟨rfl, hn4⟩
       have y0 := (H5.out.stay hn4).c0
       have y1 := (H5.out.stay hn4).c1
       have hz := H3.out.stay hn4
       have k0 := hz.c0
       have k1 := hz.c1
       have kf := hz.free
       have HN4 := Lib.hid (H4.out.trans hn4)
       clear hn4 hz))
  all_goals (
    go_wp2
    refine bodyPost_ret (by simp [results, Tryz.results122, go_sem, k0, k1]; try rfl) rfl ?_
    exact ⟨rfl, put2_new _ HN4.out (by omega)⟩)
end Go.Proofs.YtfaobdmoifnglaaGreat
end
section
/- Contracts of Seed of pcg64 and of the document's own Seed; the walk of the statement Pcg64Seeds. -/
set_option maxRecDepth 100000
namespace Go.Bv
open Go Go.RowKit
theorem seed_sum (t : BitVec 128) : t + t + 1#128 = t <<< 1 ||| 1#128 := by
  have h : t <<< 1 + 1#128 = t <<< 1 ||| 1#128 := BitVec.add_eq_or_of_and_eq_zero _ _ (by
    apply BitVec.eq_of_getLsbD_eq
    intro i hi
    rw [BitVec.getLsbD_and, BitVec.getLsbD_shiftLeft, BitVec.getLsbD_zero]
    by_cases h : i = 0
    · subst h; simp
    · rw [one_bit i h, Bool.and_false])
  rw [← h]
  congr 1
  apply BitVec.eq_of_toNat_eq
  rw [BitVec.toNat_add, BitVec.toNat_shiftLeft, Nat.shiftLeft_eq]
  congr 1
  omega
theorem seed_odd (t : BitVec 128) : (t <<< 1 ||| 1#128) ||| 1#128 = t <<< 1 ||| 1#128 := by
  rw [BitVec.or_assoc, BitVec.or_self]
theorem seed_bit (t : BitVec 128) : lo128 (t <<< 1 ||| 1#128) % 2#64 = 1#64 := by
  apply BitVec.eq_of_toNat_eq
  rw [← seed_sum]
  unfold lo128
  rw [BitVec.toNat_umod, BitVec.toNat_setWidth, BitVec.toNat_add, BitVec.toNat_add]
  show (((t.toNat + t.toNat) % 2 ^ 128 + 1) % 2 ^ 128 % 2 ^ 64) % 2 = 1
  omega
theorem four_blocks (w : World) (A B C D : Obj) : let v := (((w.alloc A).alloc B).alloc C).alloc D
    v.heap[w.heap.size]? = some A ∧ v.heap[w.heap.size + 1]? = some B ∧ v.heap[w.heap.size + 1 + 1]? = some C ∧ v.heap[w.heap.size + 1 + 1 + 1]? = some D ∧ New w v := by
  obtain ⟨h1, h2, h3, h4⟩ := three_blocks w A B C
  have e3 : (((w.alloc A).alloc B).alloc C).heap.size = w.heap.size + 1 + 1 + 1 := by simp
  have hk := (New.refl (((w.alloc A).alloc B).alloc C)).alloc D
  refine ⟨(hk.block _ (lt_of_block h1)).trans h1, (hk.block _ (lt_of_block h2)).trans h2, (hk.block _ (lt_of_block h3)).trans h3, ?_, h4.trans hk⟩
  rw [← e3]; exact heap_alloc_new _ _
end Go.Bv
namespace Go.Proofs.YtfaobdmoifnglaaGreat
open Go.RowKit Go.Bv
set_option linter.unusedVariables false
theorem seed_zero (t : BitVec 128) : 0#128 * T14 + ((t <<< 1 ||| 1#128) ||| 1#128) = t <<< 1 ||| 1#128 := by
  rw [BitVec.zero_mul, BitVec.zero_add, seed_odd]
set_option maxHeartbeats 2000000 in
theorem seed14 (a t : BitVec 128) (w : World) : Calls Tryz.prog 94 #[.agg #[.int .u64 (W64 (hi128 a)), .int .u64 (W64 (lo128 a))], .agg #[.int .u64 (W64 (hi128 t)), .int .u64 (W64 (lo128 t))]] w fun e w' =>
    e = .returned (.tuple #[.agg #[.int .u64 (W64 (hi128 (stp14 ((t <<< 1 ||| 1#128) + a) (t <<< 1 ||| 1#128)))), .int .u64 (W64 (lo128 (stp14 ((t <<< 1 ||| 1#128) + a) (t <<< 1 ||| 1#128))))], .agg #[.int .u64 (W64 (hi128 (t <<< 1 ||| 1#128))), .int .u64 (W64 (lo128 (t <<< 1 ||| 1#128)))]]) ∧ New w w' := by
  have h1 := fun w => wshl_x t 1 (by omega) 1 rfl w
  have h2 := fun w => odd14 (t <<< 1) w
  have h3 := fun w => step14 0#128 (t <<< 1 ||| 1#128) w
  rw [zero_hi, zero_lo, seed_zero] at h3
  have h4 := fun w => add14 (t <<< 1 ||| 1#128) a w
  have h5 := fun w => step_s ((t <<< 1 ||| 1#128) + a) (t <<< 1 ||| 1#128) w
  have C1 := Lib.hid h1
  have C2 := Lib.hid h2
  have C3 := Lib.hid h3
  have C4 := Lib.hid h4
  have C5 := Lib.hid h5
  clear h1 h2 h3 h4 h5
  generalize stp14 ((t <<< 1 ||| 1#128) + a) (t <<< 1 ||| 1#128) = r at *
  generalize (t <<< 1 ||| 1#128) + a = u at *
  generalize t <<< 1 ||| 1#128 = i at *
  obtain ⟨h1, h2, h3, h4, h5⟩ := four_blocks w (.cells #[.int .u64 (W64 (hi128 a)), .int .u64 (W64 (lo128 a))] 74) (.cells #[.int .u64 (W64 (hi128 t)), .int .u64 (W64 (lo128 t))] 74) (.cells #[.int .u64 0, .int .u64 0] 74) (.cells #[.int .u64 0, .int .u64 0] 74)
  have H1 := Lib.hid (show B2 _ _ _ a from h1)
  have H2 := Lib.hid (show B2 _ _ _ t from h2)
  have H3 := Lib.hid (show Z2 _ _ _ from h3)
  have H4 := Lib.hid (show Z2 _ _ _ from h4)
  have H5 := Lib.hid h5
  clear h1 h2 h3 h4 h5
  go_enter Tryz.func94, Tryz.ntmps94
  go_wp2_with fail
  generalize (((w.alloc (.cells #[.int .u64 (W64 (hi128 a)), .int .u64 (W64 (lo128 a))] 74)).alloc (.cells #[.int .u64 (W64 (hi128 t)), .int .u64 (W64 (lo128 t))] 74)).alloc (.cells #[.int .u64 0, .int .u64 0] 74)).alloc (.cells #[.int .u64 0, .int .u64 0] 74) = w0 at H1 H2 H3 H4 H5 ⊢
  have t0 := H2.out.c0
  have t1 := H2.out.c1
  go_wp2_with fail
  refine (C1.out _).mono ?_
  rintro e w1 ⟨rfl, hn1⟩
  go_wp2_with fail
  refine (C2.out _).mono ?_
  rintro e w2 ⟨rfl, hn2⟩
  have hB := heap_alloc_new w2 (.cells #[.int .u64 (W64 (hi128 i)), .int .u64 (W64 (lo128 i))] 74)
  have hn3 := (hn1.trans hn2).alloc (.cells #[.int .u64 (W64 (hi128 i)), .int .u64 (W64 (lo128 i))] 74)
  go_wp2_with fail
  have hlt : w.heap.size + 1 + 1 + 1 < w2.heap.size := Nat.lt_of_lt_of_le (lt_of_block H4.out) (hn1.trans hn2).le
  have n1 : ¬ (w.heap.size + 1 + 1 = w2.heap.size) := by omega
  have n2 : ¬ (w2.heap.size = w.heap.size + 1 + 1) := by omega
  have n3 : ¬ (w.heap.size + 1 + 1 + 1 = w2.heap.size) := by omega
  have n4 : ¬ (w2.heap.size = w.heap.size + 1 + 1 + 1) := by omega
  have m1 : ¬ (w.heap.size + 1 + 1 = w.heap.size) := by omega
  have m2 : ¬ (w.heap.size = w.heap.size + 1 + 1) := by omega
  have m3 : ¬ (w.heap.size + 1 + 1 + 1 = w.heap.size) := by omega
  have m4 : ¬ (w.heap.size = w.heap.size + 1 + 1 + 1) := by omega
  clear hlt
  generalize w2.heap.size = b6 at *
  generalize w2.alloc (.cells #[.int .u64 (W64 (hi128 i)), .int .u64 (W64 (lo128 i))] 74) = w3 at *
  have H1 := Lib.hid ((H1.out.stay hn3).stay (New.refl _).drew)
  have H3 := Lib.hid ((H3.out.stay hn3).stay (New.refl _).drew)
  have H4 := Lib.hid ((H4.out.stay hn3).stay (New.refl _).drew)
  have H5 := Lib.hid (H5.out.trans hn3).drew
  have H6 := Lib.hid ((show B2 _ _ _ i from hB).stay (New.refl _).drew)
  clear hB hn1 hn2 hn3 t0 t1
  have a0 := H1.out.c0
  have a1 := H1.out.c1
  have i0 := H6.out.c0
  have i1 := H6.out.c1
  go_region_held3 (fun w' => w'.cell? ⟨w.heap.size, 0, none⟩ = some (.int .u64 (W64 (hi128 a))) ∧ w'.cell? ⟨w.heap.size, 1, none⟩ = some (.int .u64 (W64 (lo128 a))) ∧ w'.cell? ⟨b6, 0, none⟩ = some (.int .u64 (W64 (hi128 i))) ∧ w'.cell? ⟨b6, 1, none⟩ = some (.int .u64 (W64 (lo128 i)))) (first | exact ⟨a0, a1, i0, i1⟩ | go_keep) (first
    | (go_simp
       go_at_call_of 120 (Value.int IntKind.u64 0)
       refine (C3.out _).mono ?_
       rintro e w4 ⟨rfl, hn⟩
       have a0 := (H1.out.stay hn).c0
       have a1 := (H1.out.stay hn).c1
       have i0 := (H6.out.stay hn).c0
       have i1 := (H6.out.stay hn).c1
       have HM := Lib.hid hn
       clear hn)
    | (go_simp
       go_at_call 121
       refine (C4.out _).mono ?_
       rintro e w5 ⟨rfl, hn⟩
       have hn := HM.out.trans hn
       clear HM
       have a0 := (H1.out.stay hn).c0
       have a1 := (H1.out.stay hn).c1
       have i0 := (H6.out.stay hn).c0
       have i1 := (H6.out.stay hn).c1
       have HM := Lib.hid hn
       clear hn)
    | (go_simp
       go_at_call_of 120 (Value.int IntKind.u64 (W64 (hi128 u)))
       refine (C5.out _).mono ?_
       rintro e w6 ⟨rfl, hn⟩
       have hn := HM.out.trans hn
       have a0 := (H1.out.stay hn).c0
       have a1 := (H1.out.stay hn).c1
       have i0 := (H6.out.stay hn).c0
       have i1 := (H6.out.stay hn).c1
       have hz := H3.out.stay hn
       have k0 := hz.c0
       have k1 := hz.c1
       have kf := hz.free
       have hy := H4.out.stay hn
       have j0 := hy.c0
       have j1 := hy.c1
       have jf := hy.free
       have HNN := Lib.hid (H5.out.trans hn)
       clear hz hy hn))
  all_goals (
    go_wp2
    refine bodyPost_ret (by simp [results, Tryz.results94, go_sem, k0, k1, j0, j1]; try rfl) rfl ?_
    exact ⟨rfl, put2_new _ (put2_new _ HNN.out (by omega)) (by omega)⟩)
set_option maxHeartbeats 2000000 in
theorem seedr14 (a t : BitVec 128) (w : World) : Calls Tryz.prog 34 #[.agg #[.int .u64 (W64 (hi128 a)), .int .u64 (W64 (lo128 a))], .agg #[.int .u64 (W64 (hi128 t)), .int .u64 (W64 (lo128 t))]] w fun e w' =>
    e = .returned (.tuple #[.agg #[.int .u64 (W64 (hi128 (stp14 ((t <<< 1 ||| 1#128) + a) (t <<< 1 ||| 1#128)))), .int .u64 (W64 (lo128 (stp14 ((t <<< 1 ||| 1#128) + a) (t <<< 1 ||| 1#128))))], .agg #[.int .u64 (W64 (hi128 (t <<< 1 ||| 1#128))), .int .u64 (W64 (lo128 (t <<< 1 ||| 1#128)))]]) ∧ New w w' := by
  have h1 := fun w => sumr14 t t w
  have h2 := fun w => sumr14 (t + t) 1#128 w
  rw [one_hi, one_lo, seed_sum] at h2
  have h3 : True := trivial
  have h4 := fun w => sumr14 (t <<< 1 ||| 1#128) a w
  have h5 := fun w => step_r ((t <<< 1 ||| 1#128) + a) (t <<< 1 ||| 1#128) w
  have C1 := Lib.hid h1
  have C2 := Lib.hid h2
  have C3 := Lib.hid h3
  have C4 := Lib.hid h4
  have C5 := Lib.hid h5
  clear h1 h2 h3 h4 h5
  generalize stp14 ((t <<< 1 ||| 1#128) + a) (t <<< 1 ||| 1#128) = r at *
  generalize (t <<< 1 ||| 1#128) + a = u at *
  generalize t <<< 1 ||| 1#128 = i at *
  obtain ⟨h1, h2, h3, h4, h5⟩ := four_blocks w (.cells #[.int .u64 (W64 (hi128 a)), .int .u64 (W64 (lo128 a))] 74) (.cells #[.int .u64 (W64 (hi128 t)), .int .u64 (W64 (lo128 t))] 74) (.cells #[.int .u64 0, .int .u64 0] 74) (.cells #[.int .u64 0, .int .u64 0] 74)
  have H1 := Lib.hid (show B2 _ _ _ a from h1)
  have H2 := Lib.hid (show B2 _ _ _ t from h2)
  have H3 := Lib.hid (show Z2 _ _ _ from h3)
  have H4 := Lib.hid (show Z2 _ _ _ from h4)
  have H5 := Lib.hid h5
  clear h1 h2 h3 h4 h5
  go_enter Tryz.func34, Tryz.ntmps34
  go_wp2_with fail
  generalize (((w.alloc (.cells #[.int .u64 (W64 (hi128 a)), .int .u64 (W64 (lo128 a))] 74)).alloc (.cells #[.int .u64 (W64 (hi128 t)), .int .u64 (W64 (lo128 t))] 74)).alloc (.cells #[.int .u64 0, .int .u64 0] 74)).alloc (.cells #[.int .u64 0, .int .u64 0] 74) = w0 at H1 H2 H3 H4 H5 ⊢
  have t0 := H2.out.c0
  have t1 := H2.out.c1
  go_wp2_with fail
  refine (C1.out _).mono ?_
  rintro e w1 ⟨rfl, hn1⟩
  go_wp2_with fail
  refine (C2.out _).mono ?_
  rintro e w2 ⟨rfl, hn2⟩
  have hB := heap_alloc_new w2 (.cells #[.int .u64 (W64 (hi128 i)), .int .u64 (W64 (lo128 i))] 74)
  have hn3 := (hn1.trans hn2).alloc (.cells #[.int .u64 (W64 (hi128 i)), .int .u64 (W64 (lo128 i))] 74)
  go_wp2_with fail
  have hlt : w.heap.size + 1 + 1 + 1 < w2.heap.size := Nat.lt_of_lt_of_le (lt_of_block H4.out) (hn1.trans hn2).le
  have n1 : ¬ (w.heap.size + 1 + 1 = w2.heap.size) := by omega
  have n2 : ¬ (w2.heap.size = w.heap.size + 1 + 1) := by omega
  have n3 : ¬ (w.heap.size + 1 + 1 + 1 = w2.heap.size) := by omega
  have n4 : ¬ (w2.heap.size = w.heap.size + 1 + 1 + 1) := by omega
  have m1 : ¬ (w.heap.size + 1 + 1 = w.heap.size) := by omega
  have m2 : ¬ (w.heap.size = w.heap.size + 1 + 1) := by omega
  have m3 : ¬ (w.heap.size + 1 + 1 + 1 = w.heap.size) := by omega
  have m4 : ¬ (w.heap.size = w.heap.size + 1 + 1 + 1) := by omega
  clear hlt
  generalize w2.heap.size = b6 at *
  generalize w2.alloc (.cells #[.int .u64 (W64 (hi128 i)), .int .u64 (W64 (lo128 i))] 74) = w3 at *
  have H1 := Lib.hid ((H1.out.stay hn3).stay (New.refl _).drew)
  have H3 := Lib.hid ((H3.out.stay hn3).stay (New.refl _).drew)
  have H4 := Lib.hid ((H4.out.stay hn3).stay (New.refl _).drew)
  have H5 := Lib.hid (H5.out.trans hn3).drew
  have H6 := Lib.hid ((show B2 _ _ _ i from hB).stay (New.refl _).drew)
  clear hB hn1 hn2 hn3 t0 t1
  have a0 := H1.out.c0
  have a1 := H1.out.c1
  have i0 := H6.out.c0
  have i1 := H6.out.c1
  go_region_held3 (fun w' => w'.cell? ⟨w.heap.size, 0, none⟩ = some (.int .u64 (W64 (hi128 a))) ∧ w'.cell? ⟨w.heap.size, 1, none⟩ = some (.int .u64 (W64 (lo128 a))) ∧ w'.cell? ⟨b6, 0, none⟩ = some (.int .u64 (W64 (hi128 i))) ∧ w'.cell? ⟨b6, 1, none⟩ = some (.int .u64 (W64 (lo128 i)))) (first | exact ⟨a0, a1, i0, i1⟩ | go_keep) (first
    | (go_simp
       go_at_call 50
       refine (C4.out _).mono ?_
       rintro e w5 ⟨rfl, hn⟩
       have a0 := (H1.out.stay hn).c0
       have a1 := (H1.out.stay hn).c1
       have i0 := (H6.out.stay hn).c0
       have i1 := (H6.out.stay hn).c1
       have HM := Lib.hid hn
       clear hn)
    | (go_simp
       go_at_call_of 43 (Value.int IntKind.u64 (W64 (hi128 u)))
       refine (C5.out _).mono ?_
       rintro e w6 ⟨rfl, hn⟩
       have hn := HM.out.trans hn
       have a0 := (H1.out.stay hn).c0
       have a1 := (H1.out.stay hn).c1
       have i0 := (H6.out.stay hn).c0
       have i1 := (H6.out.stay hn).c1
       have hz := H3.out.stay hn
       have k0 := hz.c0
       have k1 := hz.c1
       have kf := hz.free
       have hy := H4.out.stay hn
       have j0 := hy.c0
       have j1 := hy.c1
       have jf := hy.free
       have HNN := Lib.hid (H5.out.trans hn)
       clear hz hy hn))
  all_goals (
    go_wp2
    refine bodyPost_ret (by simp [results, Tryz.results34, go_sem, k0, k1, j0, j1]; try rfl) rfl ?_
    exact ⟨rfl, put2_new _ (put2_new _ HNN.out (by omega)) (by omega)⟩)
end Go.Proofs.YtfaobdmoifnglaaGreat
end
