/- Contracts of the document's own Step, Sum and Steps of pcg64. -/
import Derived.Test.YtoplabhoedloeaaGreatPkC
import Derived.Test.YtoplabhoedloeaaGreatBitQ
import Derived.Test.YtoplabhoedloeaaGreatWidS
set_option maxRecDepth 100000
namespace Go.Bv
open Go Go.RowKit
theorem bt_test (N i : Nat) : bt N i = if N.testBit i then 1 else 0 := by
  unfold bt
  rw [Nat.testBit_eq_decide_div_mod_eq]
  have h := Nat.mod_two_eq_zero_or_one (N / 2 ^ i)
  rcases h with h | h <;> simp [h]
theorem bits_or1 (x : BitVec 128) : (bitsOf x.toNat 128).set 0 1 = bitsOf (x ||| 1#128).toNat 128 := by
  apply ints_eq (n := 128)
  · rw [List.length_set, bitsOf_len]
  · rw [bitsOf_len]
  · intro j hj
    rw [bitsOf_at hj, List.getD_eq_getElem?_getD, List.getElem?_set, bitsOf_len, bt_test, BitVec.toNat_or, Nat.testBit_or]
    by_cases h : j = 0
    · subst h
      rw [if_pos rfl, if_pos hj, show (1#128).toNat.testBit 0 = true from rfl, Bool.or_true]; rfl
    · rw [if_neg (fun e => h e.symm), ← List.getD_eq_getElem?_getD, bitsOf_at hj, bt_test]
      have h1 : (1#128).toNat.testBit j = false := by
        rw [show (1#128).toNat = 1 from rfl, Nat.testBit_eq_decide_div_mod_eq, Nat.div_eq_of_lt (Nat.one_lt_two_pow h)]; rfl
      rw [h1, Bool.or_false]
end Go.Bv
namespace Go.Proofs.YtoplabhoedloeaaGreat
open Go.RowKit Go.Bv
set_option linter.unusedVariables false
theorem of2_x (x : BitVec 128) (w : World) : Calls Tryz.prog 82 #[.agg #[.int .u64 (W64 (hi128 x)), .int .u64 (W64 (lo128 x))]] w fun e w' =>
      ∃ v, e = .returned v ∧ w'.ownsRow w.heap.size 3 1 v 128 ((bitsOf x.toNat 128).map fun y => .int .i64 y) ∧ New w w' := by
  have h := of2_own (hi128 x) (lo128 x) w
  rw [two_x] at h
  exact h
theorem to2_x (x : BitVec 128) (N c : Nat) (hN : BitVec.ofNat 128 N = x) (a : Option Addr) (w : World) (hr : ZRow w a 128 c (bitsOf N 128)) :
    Calls Tryz.prog 83 #[.slice a 128 c] w fun e w' => e = .returned (.agg #[.int .u64 (W64 (hi128 x)), .int .u64 (W64 (lo128 x))]) ∧ New w w' := by
  have h := to2_mod N c a w hr
  rw [← hi_ofNat, ← lo_ofNat, hN] at h
  exact h
set_option maxHeartbeats 2000000 in
theorem stepr14 (s x : BitVec 128) (w : World) : Calls Tryz.prog 29 #[.agg #[.int .u64 (W64 (hi128 s)), .int .u64 (W64 (lo128 s))], .agg #[.int .u64 (W64 (hi128 x)), .int .u64 (W64 (lo128 x))]] w fun e w' =>
    e = .returned (.agg #[.int .u64 (W64 (hi128 (s * T14 + (x ||| 1#128)))), .int .u64 (W64 (lo128 (s * T14 + (x ||| 1#128))))]) ∧ New w w' := by
  obtain ⟨h1, h2, h3, h4⟩ := three_blocks w (.cells #[.int .u64 (W64 (hi128 s)), .int .u64 (W64 (lo128 s))] 24) (.cells #[.int .u64 (W64 (hi128 x)), .int .u64 (W64 (lo128 x))] 24) (.cells #[.int .u64 0, .int .u64 0] 24)
  have H1 := Lib.hid (show B2 _ _ _ s from h1)
  have H2 := Lib.hid (show B2 _ _ _ x from h2)
  have H3 := Lib.hid (show Z2 _ _ _ from h3)
  have H4 := Lib.hid h4
  have HT := fun w => of2_x T14 w
  rw [T14_hi, T14_lo] at HT
  have HT := Lib.hid HT
  have HTO : Hid (∀ (c : Nat) (a : Option Addr) (w : World), ZRow w a 128 c (bitsOf ((s.toNat * T14.toNat) % 2 ^ 128 + (x ||| 1#128).toNat) 128) →
      Calls Tryz.prog 83 #[.slice a 128 c] w fun e w' => e = .returned (.agg #[.int .u64 (W64 (hi128 (s * T14 + (x ||| 1#128)))), .int .u64 (W64 (lo128 (s * T14 + (x ||| 1#128))))]) ∧ New w w') := Lib.hid fun c a w h => to2_x (s * T14 + (x ||| 1#128)) _ c (by
    apply BitVec.eq_of_toNat_eq
    rw [BitVec.toNat_ofNat, BitVec.toNat_add, BitVec.toNat_mul]) a w h
  clear h1 h2 h3 h4
  go_enter Tryz.func29, Tryz.ntmps29
  go_wp2_with fail
  generalize ((w.alloc (.cells #[.int .u64 (W64 (hi128 s)), .int .u64 (W64 (lo128 s))] 24)).alloc (.cells #[.int .u64 (W64 (hi128 x)), .int .u64 (W64 (lo128 x))] 24)).alloc (.cells #[.int .u64 0, .int .u64 0] 24) = w0 at H1 H2 H3 H4 ⊢
  refine (of2_x x _).mono ?_
  rintro e w1 ⟨v1, rfl, hown1, hn1⟩
  obtain ⟨g, c1, rfl, hg, hg2⟩ := own_shape hown1 (by omega)
  obtain ⟨⟨u0, r0⟩, f0⟩ := own_cell' hown1 (k := 0) (by omega)
  have HO := Lib.hid (own_set hown1 0 (.int .i64 1))
  have HN1 := Lib.hid (hn1.setCell (p := ⟨g, 0, none⟩) (by show w0.heap.size ≤ g; omega) (.int .i64 1))
  clear hown1 hn1
  go_wp2_with fail
  generalize w1.setCell ⟨g, 0, none⟩ (.int .i64 1) = w2 at HO HN1 ⊢
  have how2 : w2.ownsRow w0.heap.size 3 1 (.slice (some ⟨g, 0, none⟩) 128 c1) 128 ((bitsOf (x ||| 1#128).toNat 128).map fun y => .int .i64 y) := by
    rw [← bits_or1, List.map_set]; exact HO.out
  obtain ⟨a2, c2, e2, hz2⟩ := bits_row how2 (by omega)
  injection e2 with e21 e22 e23
  subst e21 e23
  have HZ2 := Lib.hid hz2
  clear hz2 how2 HO r0 f0
  refine (HT.out _).mono ?_
  rintro e w3 ⟨v3, rfl, hown3, hn3⟩
  obtain ⟨a3, c3, rfl, hz3⟩ := bits_row hown3 (by omega)
  have hn13 := HN1.out.trans hn3
  have s0 := (H1.out.stay hn13).c0
  have s1 := (H1.out.stay hn13).c1
  go_wp2_with fail
  refine (of2_x s _).mono ?_
  rintro e w4 ⟨v4, rfl, hown4, hn4⟩
  obtain ⟨a4, c4, rfl, hz4⟩ := bits_row hown4 (by omega)
  go_wp2_with fail
  refine (bmul_own s.toNat T14.toNat 128 128 _ _ _ _ 128 128 rfl (by omega) (by omega) _ hz4 s.isLt (hz3.stay hn4) T14.isLt).mono ?_
  rintro e w5 ⟨v5, rfl, hown5, hn5⟩
  obtain ⟨a5, c5, rfl, hz5⟩ := bits_row hown5 (by omega)
  rw [← bitsOf_mod] at hz5
  have hn35 := hn4.trans hn5
  have hn25 := hn3.trans hn35
  go_wp2_with fail
  refine (badd_own _ (x ||| 1#128).toNat 128 128 _ _ _ _ 128 128 rfl (by omega) _ hz5 (Nat.mod_lt _ (Nat.two_pow_pos _)) (HZ2.out.stay hn25) (x ||| 1#128).isLt).mono ?_
  rintro e w6 ⟨v6, rfl, hown6, hn6⟩
  obtain ⟨a6, c6, rfl, hz6⟩ := bits_row hown6 (by omega)
  generalize cy _ _ _ = q at *
  have hn26 := hn25.trans hn6
  have HN26 := Lib.hid hn26
  clear hown3 hown4 hown5 hown6 hz3 hz4 hz5 hn3 hn4 hn5 hn6 hn25 hn35 hn26 s0 s1 hn13
  go_wp2_with fail
  refine (HTO.out _ _ _ hz6).mono ?_
  rintro e w7 ⟨rfl, hn7⟩
  have hn7 := (HN1.out.trans HN26.out).trans hn7
  have hz := H3.out.stay hn7
  have k0 := hz.c0
  have k1 := hz.c1
  have kf := hz.free
  have HN7 := Lib.hid (H4.out.trans hn7)
  clear hz hn7 hz6
  go_wp2
  refine bodyPost_ret (by simp [results, Tryz.results29, go_sem, k0, k1]; try rfl) rfl ?_
  exact ⟨rfl, put2_new _ HN7.out (by omega)⟩
set_option maxHeartbeats 2000000 in
theorem sumr14 (x y : BitVec 128) (w : World) : Calls Tryz.prog 28 #[.agg #[.int .u64 (W64 (hi128 x)), .int .u64 (W64 (lo128 x))], .agg #[.int .u64 (W64 (hi128 y)), .int .u64 (W64 (lo128 y))]] w fun e w' =>
    e = .returned (.agg #[.int .u64 (W64 (hi128 (x + y))), .int .u64 (W64 (lo128 (x + y)))]) ∧ New w w' := by
  obtain ⟨h1, h2, h3, h4⟩ := three_blocks w (.cells #[.int .u64 (W64 (hi128 x)), .int .u64 (W64 (lo128 x))] 24) (.cells #[.int .u64 (W64 (hi128 y)), .int .u64 (W64 (lo128 y))] 24) (.cells #[.int .u64 0, .int .u64 0] 24)
  have H1 := Lib.hid ((show B2 _ _ _ x from h1).stay (New.refl _).drew)
  have H2 := Lib.hid ((show B2 _ _ _ y from h2).stay (New.refl _).drew)
  have H3 := Lib.hid ((show Z2 _ _ _ from h3).stay (New.refl _).drew)
  have H4 := Lib.hid h4.drew
  have HTO : Hid (∀ (c : Nat) (a : Option Addr) (w : World), ZRow w a 128 c (bitsOf (x.toNat + y.toNat) 128) →
      Calls Tryz.prog 83 #[.slice a 128 c] w fun e w' => e = .returned (.agg #[.int .u64 (W64 (hi128 (x + y))), .int .u64 (W64 (lo128 (x + y)))]) ∧ New w w') := Lib.hid fun c a w h => to2_x (x + y) _ c (by
    apply BitVec.eq_of_toNat_eq
    rw [BitVec.toNat_ofNat, BitVec.toNat_add]) a w h
  clear h1 h2 h3 h4
  go_enter Tryz.func28, Tryz.ntmps28
  go_wp2_with fail
  generalize ((w.alloc (.cells #[.int .u64 (W64 (hi128 x)), .int .u64 (W64 (lo128 x))] 24)).alloc (.cells #[.int .u64 (W64 (hi128 y)), .int .u64 (W64 (lo128 y))] 24)).alloc (.cells #[.int .u64 0, .int .u64 0] 24) = w0 at H1 H2 H3 H4 ⊢
  have x0 := H1.out.c0
  have x1 := H1.out.c1
  have y0 := H2.out.c0
  have y1 := H2.out.c1
  go_region_law (first
    | (go_simp
       go_at_call_of 82 (Value.int IntKind.u64 (W64 (hi128 x)))
       refine (of2_x x _).mono ?_
       rintro e w1 ⟨v1, rfl, hown1, hn1⟩
       obtain ⟨av1, c1, rfl, hz1⟩ := bits_row hown1 (by omega)
       have y0 := (H2.out.stay hn1).c0
       have y1 := (H2.out.stay hn1).c1
       have HN1 := Lib.hid hn1
       have HZ1 := Lib.hid hz1
       clear hown1 hn1 hz1)
    | (go_simp
       go_at_call_of 82 (Value.int IntKind.u64 (W64 (hi128 y)))
       refine (of2_x y _).mono ?_
       rintro e w2 ⟨v2, rfl, hown2, hn2⟩
       obtain ⟨av2, c2, rfl, hz2⟩ := bits_row hown2 (by omega)
       have HN2 := Lib.hid (HN1.out.trans hn2)
       have HR2 := Lib.hid (HZ1.out.stay hn2)
       have HZ2 := Lib.hid hz2
       clear hown2 hn2 hz2)
    | (go_simp
       go_at_call 81
       refine (badd_own x.toNat y.toNat 128 128 _ _ _ _ 128 128 rfl (by omega) _ HR2.out x.isLt HZ2.out y.isLt).mono ?_
       rintro e w3 ⟨v3, rfl, hown3, hn3⟩
       obtain ⟨av3, c3, rfl, hz3⟩ := bits_row hown3 (by omega)
       generalize cy _ _ _ = q
       have HN3 := Lib.hid (HN2.out.trans hn3)
       have HZ3 := Lib.hid hz3
       clear hown3 hn3 hz3))
  all_goals (
    go_wp2_with fail
    refine (HTO.out _ _ _ HZ3.out).mono ?_
    rintro e w7 ⟨rfl, hn7⟩
    have hn7 := HN3.out.trans hn7
    have hz := H3.out.stay hn7
    have k0 := hz.c0
    have k1 := hz.c1
    have kf := hz.free
    have HN7 := Lib.hid (H4.out.trans hn7)
    clear hz hn7
    go_wp2
    refine bodyPost_ret (by simp [results, Tryz.results28, go_sem, k0, k1]; try rfl) rfl ?_
    exact ⟨rfl, put2_new _ HN7.out (by omega)⟩)
end Go.Proofs.YtoplabhoedloeaaGreat
