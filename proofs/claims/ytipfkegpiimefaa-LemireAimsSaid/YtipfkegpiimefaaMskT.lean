/- The law MaskTakes, walked. -/
import Derived.Test.YtipfkegpiimefaaMskE
namespace Go.Bv
theorem first_same {p : Nat → Bool} {i j : Nat} (h1 : ∀ k, k < i → p k = false) (h2 : p i = true) (h3 : ∀ k, k < j → p k = false) (h4 : p j = true) : i = j := by
  rcases Nat.lt_trichotomy i j with h | h | h
  · rw [h3 i h] at h2; cases h2
  · exact h
  · rw [h1 j h] at h4; cases h4
end Go.Bv
namespace Go.Proofs.Ytipfkegpiimefaa
open Go.RowKit Go.Bv
set_option linter.unusedVariables false
/-- a draw's box -/
theorem draw_box (w : World) (x y z : Value) : (w.alloc (.cells #[x, y, z] 44)).cell? ⟨w.heap.size, 0, none⟩ = some x ∧ (w.alloc (.cells #[x, y, z] 44)).cell? ⟨w.heap.size, 1, none⟩ = some y ∧ (w.alloc (.cells #[x, y, z] 44)).cell? ⟨w.heap.size, 2, none⟩ = some z :=
  ⟨cell_of_row _ _ 0 _ _ _ (heap_alloc_new _ _), cell_of_row _ _ 1 _ _ _ (heap_alloc_new _ _), cell_of_row _ _ 2 _ _ _ (heap_alloc_new _ _)⟩
set_option maxHeartbeats 1000000 in
theorem MaskTakes_walk (W : World) (a0 : Option Addr) (n0 m0 : Nat) (z0 : List Int) (w0 : IRow .u64 W a0 n0 m0 z0) (r0 : m0 * 8 ≤ 140737488351232) (a1 : Int) (w1 : (Lit.int .u64 a1).wf = true) :
    Calls Try.prog 11 #[.slice a0 n0 m0, .int .u64 a1] W fun e w' => e = .returned (.bool true) ∧ Below W.heap.size W w' := by
  obtain ⟨n, rfl⟩ := ex64 a1 (by simp [Lit.wf, IntKind.min, IntKind.max, IntKind.signed, IntKind.bits] at w1; omega)
  obtain ⟨l, hq⟩ := w0.words r0
  have hmost := hq.most
  obtain rfl := hq.len_eq
  have HQ := Lib.hid hq
  clear hq w0 w1
  by_cases hlt : (100 : Int) < (l.length : Int)
  · go_enter Try.func11, Try.ntmps11
    go_wp2_with fail
    refine (awake_39 W).mono ?_
    rintro e w1 ⟨rfl, hn1⟩
    have HN1 := Lib.hid hn1
    clear hn1
    go_wp2
    go_ret
    exact ⟨rfl, HN1.out⟩
  by_cases h0 : n = 0#64
  · subst h0
    rw [show W64 0#64 = 0 by decide]
    go_enter Try.func11, Try.ntmps11
    go_wp2_with fail
    refine (awake_39 W).mono ?_
    rintro e w1 ⟨rfl, hn1⟩
    have HN1 := Lib.hid hn1
    clear hn1
    go_wp2_with fail
    refine (new_t _ _ _ _ _ (HQ.out.stay HN1.out)).mono ?_
    rintro e w2 ⟨b, rfl, hb, ht, hn2⟩
    have HT := Lib.hid ht
    have HN2 := Lib.hid (HN1.out.trans hn2)
    clear ht hn2 hb
    go_wp2_with fail
    refine (take_m0 b _).mono ?_
    rintro e w3 ⟨rfl, hn3⟩
    have HT3 := Lib.hid (HT.out.stay (hn3.alloc (.cells #[.int .u64 0, .int .u64 0, .int .i64 0] 44)))
    have HN3 := Lib.hid ((HN2.out.trans hn3).alloc (.cells #[.int .u64 0, .int .u64 0, .int .i64 0] 44))
    obtain ⟨d0, d1, d2⟩ := draw_box w3 (.int .u64 0) (.int .u64 0) (.int .i64 0)
    clear hn3
    go_wp2_with fail
    refine (used_t b b l 0 _ HT3.out).mono ?_
    rintro e w4 ⟨rfl, rfl⟩
    go_wp2
    go_ret
    exact ⟨rfl, HN3.out⟩
  · have z1 : (W64 n == 0) = false := by
      have := pos_of_ne h0
      rw [beq_eq_false_iff_ne]; unfold W64; omega
    have z2 : (n == 0#64) = false := beq_false_of_ne h0
    have HH0 := Lib.hid h0
    clear h0
    go_enter Try.func11, Try.ntmps11
    go_wp2_with fail
    refine (awake_39 W).mono ?_
    rintro e w1 ⟨rfl, hn1⟩
    have HN1 := Lib.hid hn1
    clear hn1
    go_wp2_with fail
    refine (new_t _ _ _ _ _ (HQ.out.stay HN1.out)).mono ?_
    rintro e w2 ⟨b, rfl, hb, ht, hn2⟩
    have HT := Lib.hid ht
    have HN2 := Lib.hid (HN1.out.trans hn2)
    have hbl : W.heap.size ≤ b := by have := HN1.out.le; omega
    clear ht hn2 hb
    go_wp2_with fail
    refine (take_m b b l 0 n HH0.out _ HT.out).mono ?_
    rintro e w3 (⟨j, _, hj, hno, htk, rfl, g, ht3, hbut, hg⟩ | ⟨hno, rfl, g, ht3, hbut, hg⟩)
    · obtain ⟨v, hv⟩ : ∃ v, telM (l.getD j 0) n = v := ⟨_, rfl⟩
      obtain ⟨r, hr⟩ : ∃ r, rnkM (l.getD j 0) n = r := ⟨_, rfl⟩
      obtain ⟨u, hu⟩ : ∃ u : Int, ((j + 1 : Nat) : Int) = u := ⟨_, rfl⟩
      rw [hv, hr, Nat.sub_zero, hu]
      have hu2 : (j : Int) + 1 = u := by omega
      have HU1 := Lib.hid hu
      have HU2 := Lib.hid hu2
      clear hu hu2
      have HN3 := Lib.hid (hbut.new W HN2.out hbl hbl)
      have HT3 := Lib.hid ht3
      have HF := Lib.hid (show (∀ k, k < j → takM (l.getD k 0) n = false) ∧ takM (l.getD j 0) n = true ∧ telM (l.getD j 0) n = v ∧ rnkM (l.getD j 0) n = r from ⟨fun k hk => hno k (Nat.zero_le _) hk, htk, hv, hr⟩)
      clear ht3 hbut hg hno htk hv hr
      have HN4 := Lib.hid (HN3.out.alloc (.cells #[.int .u64 (W64 v), .int .u64 (W64 r), .int .i64 u] 44))
      go_wp2_with fail
      refine (rtake_m _ _ _ _ n HH0.out _ (HQ.out.stay HN4.out)).mono ?_
      rintro e w5 ⟨⟨j2, _, hno2, htk2, rfl⟩ | ⟨hno2, rfl⟩, hn5⟩
      · obtain rfl : j = j2 := first_same (p := fun k => takM (l.getD k 0) n) HF.out.1 HF.out.2.1 hno2 htk2
        rw [HF.out.2.2.1, HF.out.2.2.2]
        rw [HU2.out]
        have hb1 := (hn5.block w3.heap.size (by simp)).trans (heap_alloc_new w3 (.cells #[.int .u64 (W64 v), .int .u64 (W64 r), .int .i64 u] 44))
        have hn6 := (New.refl w5).alloc (.cells #[.int .u64 (W64 v), .int .u64 (W64 r), .int .i64 u] 44)
        have hb2 := heap_alloc_new w5 (.cells #[.int .u64 (W64 v), .int .u64 (W64 r), .int .i64 u] 44)
        have hb16 := (hn6.block _ (lt_of_block hb1)).trans hb1
        have HT6 := Lib.hid (HT3.out.stay ((((New.refl w3).alloc (.cells #[.int .u64 (W64 v), .int .u64 (W64 r), .int .i64 u] 44)).trans hn5).trans hn6))
        have HN6 := Lib.hid ((HN4.out.trans hn5).trans hn6)
        clear hno2 htk2 hn5 hn6 hb1 HT3 HN3 HN4 HT
        go_wp2_with fail
        generalize w5.alloc (.cells #[.int .u64 (W64 v), .int .u64 (W64 r), .int .i64 u] 44) = w6 at *
        generalize w3.heap.size = p1 at *
        generalize w5.heap.size = p2 at *
        have SK : Hid (∀ w', New w6 w' → New w6 w' ∧ w'.cell? ⟨p1, 0, none⟩ = some (.int .u64 (W64 v)) ∧ w'.cell? ⟨p1, 1, none⟩ = some (.int .u64 (W64 r)) ∧ w'.cell? ⟨p1, 2, none⟩ = some (.int .i64 u) ∧ w'.cell? ⟨p2, 0, none⟩ = some (.int .u64 (W64 v)) ∧ w'.cell? ⟨p2, 1, none⟩ = some (.int .u64 (W64 r)) ∧ w'.cell? ⟨p2, 2, none⟩ = some (.int .i64 u)) := Lib.hid (fun w' hn => by
          have h1 := (hn.block _ (lt_of_block hb16)).trans hb16
          have h2 := (hn.block _ (lt_of_block hb2)).trans hb2
          exact ⟨hn, cell_of_row _ _ 0 _ _ _ h1, cell_of_row _ _ 1 _ _ _ h1, cell_of_row _ _ 2 _ _ _ h1, cell_of_row _ _ 0 _ _ _ h2, cell_of_row _ _ 1 _ _ _ h2, cell_of_row _ _ 2 _ _ _ h2⟩)
        have HU := Lib.hid (fun w' (hn : New w6 w') => used_t b g l (j + 1) w' (HT6.out.stay hn))
        rw [HU1.out] at HU
        obtain ⟨_, c0, c1, c2, e0, e1, e2⟩ := SK.out w6 (New.refl _)
        clear hb16 hb2
        go_cut [4] (fun x wx => x = .bool true ∧ New w6 wx)
        case first =>
          go_region_held3 (fun w' => New w6 w' ∧ w'.cell? ⟨p1, 0, none⟩ = some (.int .u64 (W64 v)) ∧ w'.cell? ⟨p1, 1, none⟩ = some (.int .u64 (W64 r)) ∧ w'.cell? ⟨p1, 2, none⟩ = some (.int .i64 u) ∧ w'.cell? ⟨p2, 0, none⟩ = some (.int .u64 (W64 v)) ∧ w'.cell? ⟨p2, 1, none⟩ = some (.int .u64 (W64 r)) ∧ w'.cell? ⟨p2, 2, none⟩ = some (.int .i64 u))
            ((refine SK.out _ ?_; first | with_reducible assumption | with_reducible exact (New.refl _).drew | with_reducible exact New.drew (by assumption)))
            (first
            | (go_at_call 29
               refine (HU.out _ (by first | with_reducible exact (New.refl _).drew | with_reducible assumption)).mono ?_
               rintro e w4 ⟨rfl, rfl⟩))
          all_goals (
            go_wp2_with fail
            go_meet
            case rel => exact ⟨rfl, (New.refl _).drew⟩)
        case rest =>
          obtain ⟨rfl, hn⟩ := hcut
          have HN7 := Lib.hid (HN6.out.trans hn)
          clear hn c0 c1 c2 e0 e1 e2
          go_wp2
          go_ret
          exact ⟨rfl, HN7.out⟩
      · exfalso
        have := hno2 j hj
        rw [HF.out.2.1] at this; cases this
    · have HN3 := Lib.hid (hbut.new W HN2.out hbl hbl)
      have HT3 := Lib.hid ht3
      have HNO := Lib.hid hno
      clear ht3 hbut hg hno
      have HN4 := Lib.hid (HN3.out.alloc (.cells #[.int .u64 0, .int .u64 0, .int .i64 0] 44))
      go_wp2_with fail
      refine (rtake_m _ _ _ _ n HH0.out _ (HQ.out.stay HN4.out)).mono ?_
      rintro e w5 ⟨⟨j2, hj2, _, htk2, rfl⟩ | ⟨_, rfl⟩, hn5⟩
      · exfalso
        have := HNO.out j2 (Nat.zero_le _) hj2
        rw [htk2] at this; cases this
      · have hb1 := (hn5.block w3.heap.size (by simp)).trans (heap_alloc_new w3 (.cells #[.int .u64 0, .int .u64 0, .int .i64 0] 44))
        have hn6 := (New.refl w5).alloc (.cells #[.int .u64 0, .int .u64 0, .int .i64 0] 44)
        have hb2 := heap_alloc_new w5 (.cells #[.int .u64 0, .int .u64 0, .int .i64 0] 44)
        have hb16 := (hn6.block _ (lt_of_block hb1)).trans hb1
        have c0 := cell_of_row _ _ 0 _ _ _ hb16
        have c1 := cell_of_row _ _ 1 _ _ _ hb16
        have c2 := cell_of_row _ _ 2 _ _ _ hb16
        have HT6 := Lib.hid (HT3.out.stay ((((New.refl w3).alloc (.cells #[.int .u64 0, .int .u64 0, .int .i64 0] 44)).trans hn5).trans hn6))
        have HN6 := Lib.hid ((HN4.out.trans hn5).trans hn6)
        clear hn5 hn6 hb1 hb2 hb16 HT3 HN3 HN4 HT
        go_wp2_with fail
        refine (used_t b g l l.length _ HT6.out).mono ?_
        rintro e w7 ⟨rfl, rfl⟩
        go_wp2
        go_ret
        exact ⟨rfl, HN6.out⟩
end Go.Proofs.Ytipfkegpiimefaa
