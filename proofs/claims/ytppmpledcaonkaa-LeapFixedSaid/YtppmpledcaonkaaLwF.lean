/- The walk of the statement LeapFixed. -/
import Derived.Deep.DeepCutAuto
import Derived.Deep.RegionHeld3
import Derived.Test.YtppmpledcaonkaaLwR
namespace Go.Proofs.Ytppmpledcaonkaa
open Go Go.RowKit Go.Bv Go.G2
set_option linter.unusedVariables false
set_option maxRecDepth 100000 in
theorem power_192 (w : World) : Calls Try.prog 50 #[.int .i64 192] w fun e w' => e = .returned (.agg #[.int .u64 0, .int .u64 0, .int .u64 0, .int .u64 1]) ∧ New w w' := by
  have h := power_q 192 (by omega) w
  rw [show pwN 192 = 6277101735386680763835789423207666416102355444464034512896 from by decide +kernel] at h
  exact h
set_option maxRecDepth 100000 in
theorem power_96 (w : World) : Calls Try.prog 50 #[.int .i64 96] w fun e w' => e = .returned (.agg #[.int .u64 0, .int .u64 4294967296, .int .u64 0, .int .u64 0]) ∧ New w w' := by
  have h := power_q 96 (by omega) w
  rw [show pwN 96 = 79228162514264337593543950336 from by decide +kernel] at h
  exact h
theorem s2_zd (w : World) : S2 (w.alloc (.cells #[.int .u64 0, .int .u64 0] 53)).drew w.heap.size ⟨0#64, 0#64⟩ := (s2_z w _ rfl).stay (New.refl _).drew
theorem s2_zdd (w : World) : S2 (w.drew.alloc (.cells #[.int .u64 0, .int .u64 0] 53)) w.heap.size ⟨0#64, 0#64⟩ := s2_z w.drew _ rfl
theorem n2_new {W w : World} {b : Nat} {x y : Value} (hn : New W w) (hb : W.heap.size ≤ b) : New W ((w.setCell ⟨b, 0, none⟩ x).setCell ⟨b, 1, none⟩ y) := (hn.setCell hb _).setCell hb _
theorem of4_lit (long : Bool) (a : Option Addr) (w : World) (h : QRow w a 4 4 (fx4 long)) :
    Calls Try.prog 38 #[.slice a 4 4] w fun e w' => ∃ a' c', e = .returned (.slice a' 256 c') ∧ LRow w' a' 256 c' (bO (vW (fx4 long)) 256) ∧ New w w' := of12_r a 4 4 _ w h (by omega)
theorem of2_lit (plus long : Bool) (a : Option Addr) (w : World) (h : QRow w a 2 2 (fx2 plus long)) :
    Calls Try.prog 38 #[.slice a 2 2] w fun e w' => ∃ a' c', e = .returned (.slice a' 128 c') ∧ LRow w' a' 128 c' (bO (vW (fx2 plus long)) 128) ∧ New w w' := of12_r a 2 2 _ w h (by omega)
theorem fx4_lt (long : Bool) : vW (fx4 long) < 2 ^ 256 := by
  have h := vW_lt (fx4 long)
  cases long <;> exact h
theorem fx2_lt (plus long : Bool) : vW (fx2 plus long) < 2 ^ 128 := by
  have h := vW_lt (fx2 plus long)
  cases plus <;> cases long <;> exact h
set_option maxRecDepth 100000 in
set_option maxHeartbeats 4000000 in
theorem LeapFixed_false (W : World) (s : V4) (k : Int) (t : V2) :
    Calls Try.prog 11 #[.agg #[.int .u64 (W64 s.a), .int .u64 (W64 s.b), .int .u64 (W64 s.c), .int .u64 (W64 s.d)], .int .i64 k, .agg #[.int .u64 (W64 t.a), .int .u64 (W64 t.b)], .bool false] W fun e w' => e = .returned (.bool true) ∧ New W w' := by
  have hf4 := fun w => fixed4_q false s w
  have hb4 : ∀ a c w, LRow w a 256 c (bO (vW (fx4 false)) 256) → Calls Try.prog 40 #[.slice a 256 c, .agg #[.int .u64 (W64 (s).a), .int .u64 (W64 (s).b), .int .u64 (W64 (s).c), .int .u64 (W64 (s).d)]] w fun e w' => e = .returned (.agg #[.int .u64 (W64 (LV4.act (vW (fx4 false)) s).a), .int .u64 (W64 (LV4.act (vW (fx4 false)) s).b), .int .u64 (W64 (LV4.act (vW (fx4 false)) s).c), .int .u64 (W64 (LV4.act (vW (fx4 false)) s).d)]) ∧ New w w' := fun a c w h => by
    have h2 := by4_r a 256 c _ s w h (by omega)
    rw [vB_bO_all (fx4_lt false)] at h2
    exact h2
  have hj4 : ∀ w, Calls Try.prog 45 #[.agg #[.int .u64 (W64 (s).a), .int .u64 (W64 (s).b), .int .u64 (W64 (s).c), .int .u64 (W64 (s).d)], .agg #[.int .u64 0, .int .u64 0, .int .u64 1, .int .u64 0]] w fun e w' => e = .returned (.agg #[.int .u64 (W64 (LV4.act (vW (fx4 false)) s).a), .int .u64 (W64 (LV4.act (vW (fx4 false)) s).b), .int .u64 (W64 (LV4.act (vW (fx4 false)) s).c), .int .u64 (W64 (LV4.act (vW (fx4 false)) s).d)]) ∧ New w w' := fun w => by
    have h := jump4_q s 0#64 0#64 1#64 0#64 w
    rw [show four 0#64 0#64 1#64 0#64 = 340282366920938463463374607431768211456 from by decide +kernel] at h
    have h2 := far4 false s
    rw [if_neg (by decide)] at h2
    rw [h2]
    exact h
  obtain ⟨x, hx⟩ : ∃ x, LV4.act (vW (fx4 false)) s = x := ⟨_, rfl⟩
  rw [hx] at hf4 hb4 hj4
  have heq4 := fun w => eq4_same w x
  have HF4 := Lib.hid hf4
  have HB4 := Lib.hid hb4
  have HJ4 := Lib.hid hj4
  have HO4 := Lib.hid (fun a w h => of4_lit false a w h)
  have HFR := Lib.hid (fun w => fixed4_r false w)
  have HPN := Lib.hid power_128
  have HPH := Lib.hid power_64
  have HKA := Lib.hid (k_all k)
  clear hf4 hb4 hj4 hx
  obtain ⟨W9, hW9, xHS, xHT, nW9⟩ : ∃ W9, (W.alloc (.cells #[.int .u64 (W64 s.a), .int .u64 (W64 s.b), .int .u64 (W64 s.c), .int .u64 (W64 s.d)] 44)).alloc (.cells #[.int .u64 (W64 t.a), .int .u64 (W64 t.b)] 53) = W9 ∧ W9.heap[W.heap.size]? = some (.cells #[.int .u64 (W64 s.a), .int .u64 (W64 s.b), .int .u64 (W64 s.c), .int .u64 (W64 s.d)] 44 (0, 0)) ∧ W9.heap[W.heap.size + 1]? = some (.cells #[.int .u64 (W64 t.a), .int .u64 (W64 t.b)] 53 (0, 0)) ∧ New W W9 := by
    refine ⟨_, rfl, ?_, ?_, (((New.refl _).alloc _).alloc _)⟩
    · have h := heap_alloc_new (W) (.cells #[.int .u64 (W64 s.a), .int .u64 (W64 s.b), .int .u64 (W64 s.c), .int .u64 (W64 s.d)] 44)
      replace h := (((New.refl (W.alloc (.cells #[.int .u64 (W64 s.a), .int .u64 (W64 s.b), .int .u64 (W64 s.c), .int .u64 (W64 s.d)] 44))).alloc (.cells #[.int .u64 (W64 t.a), .int .u64 (W64 t.b)] 53)).block _ (lt_of_block h)).trans h
      simpa using h
    · have h := heap_alloc_new (W.alloc (.cells #[.int .u64 (W64 s.a), .int .u64 (W64 s.b), .int .u64 (W64 s.c), .int .u64 (W64 s.d)] 44)) (.cells #[.int .u64 (W64 t.a), .int .u64 (W64 t.b)] 53)
      simpa using h
  have HW9 := Lib.hid hW9
  have NW9 := Lib.hid nW9
  have HS := Lib.hid xHS
  have HT := Lib.hid xHT
  clear hW9 nW9 xHS xHT
  go_enter Try.func11, Try.ntmps11
  go_wp2_with fail
  rw [HW9.out]
  clear HW9
  refine (awake12 _).mono ?_
  rintro e w1 ⟨rfl, hn1⟩
  replace HS := Lib.hid ((hn1.block _ (lt_of_block HS.out)).trans HS.out)
  replace HT := Lib.hid ((hn1.block _ (lt_of_block HT.out)).trans HT.out)
  have HN := Lib.hid (NW9.out.trans hn1)
  clear hn1 NW9
  have k0 := cell_of_row _ _ 0 _ _ _ HS.out
  have k1 := cell_of_row _ _ 1 _ _ _ HS.out
  have k2 := cell_of_row _ _ 2 _ _ _ HS.out
  have k3 := cell_of_row _ _ 3 _ _ _ HS.out
  go_wp2_with fail
  refine (HF4.out _).mono ?_
  rintro e w2 ⟨rfl, hn2⟩
  replace HS := Lib.hid ((hn2.block _ (lt_of_block HS.out)).trans HS.out)
  replace HT := Lib.hid ((hn2.block _ (lt_of_block HT.out)).trans HT.out)
  replace HN := Lib.hid (HN.out.trans hn2)
  have hn3 : New w2 (w2.alloc (.cells #[.int .u64 (W64 x.a), .int .u64 (W64 x.b), .int .u64 (W64 x.c), .int .u64 (W64 x.d)] 44)) := (New.refl _).alloc _
  have hb3 := heap_alloc_new w2 (.cells #[.int .u64 (W64 x.a), .int .u64 (W64 x.b), .int .u64 (W64 x.c), .int .u64 (W64 x.d)] 44)
  obtain ⟨W3, hW3⟩ : ∃ z, w2.alloc (.cells #[.int .u64 (W64 x.a), .int .u64 (W64 x.b), .int .u64 (W64 x.c), .int .u64 (W64 x.d)] 44) = z := ⟨_, rfl⟩
  rw [hW3] at hn3 hb3
  obtain ⟨bx, hbx⟩ : ∃ b, w2.heap.size = b := ⟨_, rfl⟩
  rw [hbx] at hb3
  have HW3 := Lib.hid hW3
  have HBX := Lib.hid hbx
  have HX := Lib.hid hb3
  replace HS := Lib.hid ((hn3.block _ (lt_of_block HS.out)).trans HS.out)
  replace HT := Lib.hid ((hn3.block _ (lt_of_block HT.out)).trans HT.out)
  replace HN := Lib.hid (HN.out.trans hn3)
  clear hn2 hn3 hb3 hW3 hbx HF4 k0 k1 k2 k3
  have SK : Hid (∀ w', New W3 w' → New W3 w' ∧ w'.cell? ⟨W.heap.size, 0, none⟩ = some (.int .u64 (W64 s.a)) ∧ w'.cell? ⟨W.heap.size, 1, none⟩ = some (.int .u64 (W64 s.b)) ∧ w'.cell? ⟨W.heap.size, 2, none⟩ = some (.int .u64 (W64 s.c)) ∧ w'.cell? ⟨W.heap.size, 3, none⟩ = some (.int .u64 (W64 s.d)) ∧ w'.cell? ⟨bx, 0, none⟩ = some (.int .u64 (W64 x.a)) ∧ w'.cell? ⟨bx, 1, none⟩ = some (.int .u64 (W64 x.b)) ∧ w'.cell? ⟨bx, 2, none⟩ = some (.int .u64 (W64 x.c)) ∧ w'.cell? ⟨bx, 3, none⟩ = some (.int .u64 (W64 x.d))) := Lib.hid (fun w' hn => by
    have h1 := (hn.block _ (lt_of_block HS.out)).trans HS.out
    have h2 := (hn.block _ (lt_of_block HX.out)).trans HX.out
    exact ⟨hn, cell_of_row _ _ 0 _ _ _ h1, cell_of_row _ _ 1 _ _ _ h1, cell_of_row _ _ 2 _ _ _ h1, cell_of_row _ _ 3 _ _ _ h1, cell_of_row _ _ 0 _ _ _ h2, cell_of_row _ _ 1 _ _ _ h2, cell_of_row _ _ 2 _ _ _ h2, cell_of_row _ _ 3 _ _ _ h2⟩)
  obtain ⟨_, k0, k1, k2, k3, x0, x1, x2, x3⟩ := SK.out W3 (New.refl _)
  go_wp2_with fail
  rw [HW3.out, HBX.out]
  clear HW3 HBX
  go_cut [33] (fun v wx => v = .bool false ∧ New W3 wx)
  case first =>
    go_region_held3 (fun w' => New W3 w' ∧ w'.cell? ⟨W.heap.size, 0, none⟩ = some (.int .u64 (W64 s.a)) ∧ w'.cell? ⟨W.heap.size, 1, none⟩ = some (.int .u64 (W64 s.b)) ∧ w'.cell? ⟨W.heap.size, 2, none⟩ = some (.int .u64 (W64 s.c)) ∧ w'.cell? ⟨W.heap.size, 3, none⟩ = some (.int .u64 (W64 s.d)) ∧ w'.cell? ⟨bx, 0, none⟩ = some (.int .u64 (W64 x.a)) ∧ w'.cell? ⟨bx, 1, none⟩ = some (.int .u64 (W64 x.b)) ∧ w'.cell? ⟨bx, 2, none⟩ = some (.int .u64 (W64 x.c)) ∧ w'.cell? ⟨bx, 3, none⟩ = some (.int .u64 (W64 x.d)))
      ((refine SK.out _ ?_; first | with_reducible assumption | with_reducible exact (New.refl _).drew | with_reducible exact New.drew (by assumption)))
      (first
      | (go_at_call 49
         refine (HFR.out _).mono ?_
         rintro e w4 ⟨af, rfl, hqf, hnf⟩
         have hn4 : New W3 w4 := by first | with_reducible exact (New.refl W3).drew.trans hnf | with_reducible exact hnf
         have HQF := Lib.hid hqf
         clear hqf hnf)
      | (go_at_call 38
         refine (HO4.out _ _ (by first | with_reducible exact HQF.out | with_reducible exact HQF.out.stay (New.refl _).drew)).mono ?_
         rintro e w5 ⟨ao, co, rfl, hlo, hno⟩
         have hn5 : New W3 w5 := by first | with_reducible exact hn4.trans hno | with_reducible exact hn4.drew.trans hno
         have HLO := Lib.hid hlo
         clear hlo hno)
      | (go_at_call 40
         refine (HB4.out _ _ _ (by first | with_reducible exact HLO.out | with_reducible exact HLO.out.stay (New.refl _).drew)).mono ?_
         rintro e w6 ⟨rfl, hnb⟩
         have hn6 : New W3 w6 := by first | with_reducible exact hn5.trans hnb | with_reducible exact hn5.drew.trans hnb
         clear hnb)
      | (go_at_call 50
         refine (HPN.out _).mono ?_
         rintro e w7 ⟨rfl, hnp⟩
         have hn7 : New W3 w7 := by first | with_reducible exact hn6.trans hnp | with_reducible exact hn6.drew.trans hnp
         clear hnp)
      | (go_at_call 45
         refine (HJ4.out _).mono ?_
         rintro e w8 ⟨rfl, hnj⟩
         have hn8 : New W3 w8 := by first | with_reducible exact hn7.trans hnj | with_reducible exact hn7.drew.trans hnj
         clear hnj))
    all_goals (
      go_wp2_with fail
      go_meet
      case rel => exact ⟨rfl, by first | with_reducible exact hn8 | with_reducible exact hn8.drew⟩)
  case rest =>
    obtain ⟨rfl, hn⟩ := hcut
    replace HN := Lib.hid (HN.out.trans hn)
    replace HS := Lib.hid ((hn.block _ (lt_of_block HS.out)).trans HS.out)
    replace HT := Lib.hid ((hn.block _ (lt_of_block HT.out)).trans HT.out)
    clear hn SK k0 k1 k2 k3 x0 x1 x2 x3 heq4 HFR HO4 HB4 HJ4 HPN HX
    have t0 : wc.cell? ⟨W.heap.size + 1, 0, none⟩ = some (.int .u64 (W64 t.a)) := cell_of_row _ _ 0 _ _ _ HT.out
    have t1 : wc.cell? ⟨W.heap.size + 1, 1, none⟩ = some (.int .u64 (W64 t.b)) := cell_of_row _ _ 1 _ _ _ HT.out
    rcases HKA.out with ⟨h5, h6⟩ | ⟨plus, L, hK⟩
    · have HR := Lib.hid (fun w => right_no k h5 h6 w)
      have HFX := Lib.hid (fun w => fixed2_of k h5 h6 t w)
      have heq2 := fun w => eq2_same w t
      clear HKA h5 h6
      go_wp2_with fail
      refine (HFX.out _).mono ?_
      rintro e w6 ⟨rfl, hn6⟩
      have ht6 := (hn6.block _ (lt_of_block HT.out)).trans HT.out
      have n7 : New w6 (w6.alloc (.cells #[.int .u64 (W64 t.a), .int .u64 (W64 t.b)] 53)) := (New.refl _).alloc _
      have ht7 := (n7.block _ (lt_of_block ht6)).trans ht6
      have u0 := cell_of_row _ _ 0 _ _ _ ht7
      have u1 := cell_of_row _ _ 1 _ _ _ ht7
      have hy := heap_alloc_new w6 (.cells #[.int .u64 (W64 t.a), .int .u64 (W64 t.b)] 53)
      have y0 := cell_of_row _ _ 0 _ _ _ hy
      have y1 := cell_of_row _ _ 1 _ _ _ hy
      have HN7 := Lib.hid ((HN.out.trans hn6).trans n7)
      clear ht6 n7 ht7 hy hn6 t0 t1 HFX
      go_wp2_with fail
      refine (HR.out _).mono ?_
      rintro e w9 ⟨rfl, hw⟩
      replace hw := hw.symm
      subst hw
      go_wp2
      go_ret
      exact ⟨rfl, HN7.out⟩
    · have HR := Lib.hid (fun w => right_yes k hK.yes w)
      have HPL := Lib.hid hK.six
      have hfx := fun w => hK.fixed false t w
      have hb2 : ∀ a c w, LRow w a 128 c (bO (vW (fx2 plus false)) 128) → Calls Try.prog 44 #[.int .i64 k, .slice a 128 c, .agg #[.int .u64 (W64 (t).a), .int .u64 (W64 (t).b)]] w fun e w' => e = .returned (.agg #[.int .u64 (W64 (L.act (vW (fx2 plus false)) t).a), .int .u64 (W64 (L.act (vW (fx2 plus false)) t).b)]) ∧ New w w' := fun a c w h => by
        have h2 := by2_r L hK.lx hK.lz k hK.kd.stepr a 128 c _ t w h (by omega)
        rw [vB_bO_all (fx2_lt plus false)] at h2
        exact h2
      have hj2 : ∀ w, Calls Try.prog 43 #[.int .i64 k, .agg #[.int .u64 (W64 (t).a), .int .u64 (W64 (t).b)], .agg #[.int .u64 0, .int .u64 1, .int .u64 0, .int .u64 0]] w fun e w' => e = .returned (.agg #[.int .u64 (W64 (L.act (vW (fx2 plus false)) t).a), .int .u64 (W64 (L.act (vW (fx2 plus false)) t).b)]) ∧ New w w' := fun w => by
        have h := hK.kd.jump t 0#64 1#64 0#64 0#64 w
        rw [show four 0#64 1#64 0#64 0#64 = 18446744073709551616 from by decide +kernel] at h
        have h2 := hK.far false t
        rw [if_neg (by decide)] at h2
        rw [h2]
        exact h
      obtain ⟨y, hy⟩ : ∃ y, L.act (vW (fx2 plus false)) t = y := ⟨_, rfl⟩
      rw [hy] at hfx hb2 hj2
      have heq2 := fun w => eq2_same w y
      have HFX := Lib.hid hfx
      have HB2 := Lib.hid hb2
      have HJ2 := Lib.hid hj2
      have HO2 := Lib.hid (fun a w h => of2_lit plus false a w h)
      have HR2 := Lib.hid (fun w => fixed2_r plus false w)
      clear HKA hfx hb2 hj2 hy hK
      go_wp2_with fail
      refine (HFX.out _).mono ?_
      rintro e w6 ⟨rfl, hn6⟩
      replace HN := Lib.hid (HN.out.trans hn6)
      replace HT := Lib.hid ((hn6.block _ (lt_of_block HT.out)).trans HT.out)
      have n7 : New w6 (w6.alloc (.cells #[.int .u64 (W64 y.a), .int .u64 (W64 y.b)] 53)) := (New.refl _).alloc _
      have hyb := heap_alloc_new w6 (.cells #[.int .u64 (W64 y.a), .int .u64 (W64 y.b)] 53)
      obtain ⟨W7, hW7⟩ : ∃ z, w6.alloc (.cells #[.int .u64 (W64 y.a), .int .u64 (W64 y.b)] 53) = z := ⟨_, rfl⟩
      rw [hW7] at n7 hyb
      obtain ⟨by7, hby⟩ : ∃ b, w6.heap.size = b := ⟨_, rfl⟩
      rw [hby] at hyb
      have HY := Lib.hid hyb
      have HW7 := Lib.hid hW7
      have HBY := Lib.hid hby
      replace HN := Lib.hid (HN.out.trans n7)
      replace HT := Lib.hid ((n7.block _ (lt_of_block HT.out)).trans HT.out)
      clear n7 hyb hn6 hW7 hby t0 t1 HFX
      go_wp2_with fail
      rw [HW7.out, HBY.out]
      clear HW7 HBY
      refine (HR.out _).mono ?_
      rintro e w9 ⟨rfl, hw⟩
      replace hw := hw.symm
      subst hw
      clear HR
      have SK : Hid (∀ w', New W7 w' → New W7 w' ∧ w'.cell? ⟨W.heap.size + 1, 0, none⟩ = some (.int .u64 (W64 t.a)) ∧ w'.cell? ⟨W.heap.size + 1, 1, none⟩ = some (.int .u64 (W64 t.b))) := Lib.hid (fun w' hn => by
        have h1 := (hn.block _ (lt_of_block HT.out)).trans HT.out
        exact ⟨hn, cell_of_row _ _ 0 _ _ _ h1, cell_of_row _ _ 1 _ _ _ h1⟩)
      obtain ⟨_, k0, k1⟩ := SK.out W7 (New.refl _)
      have hsix := HPL.out
      go_wp2_with fail
      go_cut [12] (fun p wx => ∃ b, p = .pointer (some ⟨b, 0, none⟩) ∧ wx.heap[b]? = some (.cells #[.int .u64 (W64 y.a), .int .u64 (W64 y.b)] 53 (0, 0)) ∧ New W7 wx)
      case first =>
        go_region_held3 (fun w' => New W7 w' ∧ w'.cell? ⟨W.heap.size + 1, 0, none⟩ = some (.int .u64 (W64 t.a)) ∧ w'.cell? ⟨W.heap.size + 1, 1, none⟩ = some (.int .u64 (W64 t.b)))
          ((refine SK.out _ ?_; first | with_reducible assumption | with_reducible exact (New.refl _).drew | with_reducible exact New.drew (by assumption) | with_reducible exact New.alloc (by assumption) _ | with_reducible exact (New.refl _).drew.alloc _ | with_reducible exact ((New.refl _).alloc _).drew | with_reducible exact n2_new (by assumption) (by assumption) | with_reducible exact (n2_new (by assumption) (by assumption)).drew))
          (first
          | (go_at_call 52
             refine (HR2.out _).mono ?_
             rintro e w4 ⟨af, rfl, hqf, hnf⟩
             first
             | (have hn4 : New W7 w4 := by first | with_reducible exact (New.refl W7).drew.trans hnf | with_reducible exact hnf)
             | (have hz4 : S2 w4 W7.heap.size ⟨0#64, 0#64⟩ := by first | with_reducible exact (s2_zd W7).stay hnf | with_reducible exact (s2_zdd W7).stay hnf
                have hn4 : New W7 w4 := by first | with_reducible exact ((New.refl W7).alloc _).drew.trans hnf | with_reducible exact ((New.refl W7).drew.alloc _).trans hnf
                have hzg : W7.heap.size ≤ W7.heap.size := Nat.le_refl _
                have HZ := Lib.hid hz4
                clear hz4)
             have HQF := Lib.hid hqf
             clear hqf hnf)
          | (go_at_call 38
             refine (HO2.out _ _ (by first | with_reducible exact HQF.out | with_reducible exact HQF.out.stay (New.refl _).drew | with_reducible exact HQF.out.stay ((New.refl _).alloc _))).mono ?_
             rintro e w5 ⟨ao, co, rfl, hlo, hno⟩
             first
             | (have hn5 : New W7 w5 := by first | with_reducible exact hn4.trans hno | with_reducible exact hn4.drew.trans hno
                first
                | (have hz5 := by first | with_reducible exact HZ.out.stay hno | with_reducible exact (HZ.out.stay (New.refl _).drew).stay hno
                   have HZ := Lib.hid hz5
                   clear hz5)
                | skip)
             | (have hn5 : New W7 w5 := by with_reducible exact (hn4.alloc _).trans hno
                have hz5 : S2 w5 w4.heap.size ⟨0#64, 0#64⟩ := by with_reducible exact (s2_z w4 _ rfl).stay hno
                have hzg : W7.heap.size ≤ w4.heap.size := hn4.le
                have HZ := Lib.hid hz5
                clear hz5)
             have HLO := Lib.hid hlo
             clear hlo hno)
          | (go_at_call 44
             refine (HB2.out _ _ _ (by first | with_reducible exact HLO.out | with_reducible exact HLO.out.stay (New.refl _).drew | with_reducible exact HLO.out.stay ((New.refl _).alloc _))).mono ?_
             rintro e w8 ⟨rfl, hnb⟩
             first
             | (have hn8 : New W7 w8 := by first | with_reducible exact hn5.trans hnb | with_reducible exact hn5.drew.trans hnb
                first
                | (have hz8 := by first | with_reducible exact HZ.out.stay hnb | with_reducible exact (HZ.out.stay (New.refl _).drew).stay hnb
                   have z0 := cell_of_row _ _ 0 _ _ _ hz8
                   have z1 := cell_of_row _ _ 1 _ _ _ hz8
                   have zf := fun i => frozen_of_row _ _ i _ _ hz8
                   have HZ := Lib.hid hz8
                   clear hz8)
                | skip)
             | (have hn8 : New W7 w8 := by with_reducible exact (hn5.alloc _).trans hnb
                have hz8 : S2 w8 w5.heap.size ⟨0#64, 0#64⟩ := by with_reducible exact (s2_z w5 _ rfl).stay hnb
                have hzg : W7.heap.size ≤ w5.heap.size := hn5.le
                have z0 := cell_of_row _ _ 0 _ _ _ hz8
                have z1 := cell_of_row _ _ 1 _ _ _ hz8
                have zf := fun i => frozen_of_row _ _ i _ _ hz8
                have HZ := Lib.hid hz8
                clear hz8)
             clear hnb))
        all_goals (
          go_wp2_with fail
          go_meet
          case rel => first
            | exact ⟨_, rfl, heap_alloc_new w8 _, hn8.alloc _⟩
            | exact ⟨_, rfl, HZ.out.put y, n2_new hn8 hzg⟩
            | exact ⟨_, rfl, (HZ.out.put y).stay (New.refl _).drew, (n2_new hn8 hzg).drew⟩)
      case rest =>
        obtain ⟨bw, rfl, hbw, hn⟩ := hcut
        replace HN := Lib.hid (HN.out.trans hn)
        replace HT := Lib.hid ((hn.block _ (lt_of_block HT.out)).trans HT.out)
        replace HY := Lib.hid ((hn.block _ (lt_of_block HY.out)).trans HY.out)
        have HWT := Lib.hid hbw
        clear hn hbw SK k0 k1 hsix HR2 HO2 HB2
        go_wp2_with fail
        refine wp_region_class (fun w' => (w'.heap[W.heap.size + 1]? = some (.cells #[.int .u64 (W64 t.a), .int .u64 (W64 t.b)] 53 (0, 0)) ∧ w'.heap[by7]? = some (.cells #[.int .u64 (W64 y.a), .int .u64 (W64 y.b)] 53 (0, 0)) ∧ w'.heap[bw]? = some (.cells #[.int .u64 (W64 y.a), .int .u64 (W64 y.b)] 53 (0, 0))) ∧ New wc w') (by kernel_rfl) (by kernel_rfl) ⟨⟨((New.refl wc).drew.block _ (lt_of_block HT.out)).trans HT.out, ((New.refl wc).drew.block _ (lt_of_block HY.out)).trans HY.out, ((New.refl wc).drew.block _ (lt_of_block HWT.out)).trans HWT.out⟩, (New.refl _).drew⟩ ?_
        intro I _ f hall hback
        have HSTEP : Hid (∀ n w', New (f n) w' → ∃ m, w' = f m) := Lib.hid fun n w' hn => hback w' ⟨⟨(hn.block _ (lt_of_block ((hall n).1.1))).trans ((hall n).1.1), (hn.block _ (lt_of_block ((hall n).1.2.1))).trans ((hall n).1.2.1), (hn.block _ (lt_of_block ((hall n).1.2.2))).trans ((hall n).1.2.2)⟩, (hall n).2.trans hn⟩
        have HALL := Lib.hid fun n => (hall n).2
        have s0 := fun n => cell_of_row _ _ 0 _ _ _ ((hall n).1.1)
        have s1 := fun n => cell_of_row _ _ 1 _ _ _ ((hall n).1.1)
        have s2 := fun n => cell_of_row _ _ 0 _ _ _ ((hall n).1.2.1)
        have s3 := fun n => cell_of_row _ _ 1 _ _ _ ((hall n).1.2.1)
        have s4 := fun n => cell_of_row _ _ 0 _ _ _ ((hall n).1.2.2)
        have s5 := fun n => cell_of_row _ _ 1 _ _ _ ((hall n).1.2.2)
        clear hall hback
        repeat (go_big_quiet_step (first
          | (go_at_call 50; refine class_new HSTEP.out (HPH.out _))
          | (go_at_call 43; refine class_new HSTEP.out (HJ2.out _))))
        refine wpQuiet_nil ?_
        rintro w9 ⟨n1, hw1⟩
        have hS := HALL.out n1
        rw [← hw1] at hS
        replace HT := Lib.hid ((hS.block _ (lt_of_block HT.out)).trans HT.out)
        replace HY := Lib.hid ((hS.block _ (lt_of_block HY.out)).trans HY.out)
        replace HWT := Lib.hid ((hS.block _ (lt_of_block HWT.out)).trans HWT.out)
        replace HN := Lib.hid (HN.out.trans hS)
        clear HALL HSTEP hw1 hS s0 s1 s2 s3 s4 s5
        go_wp2
        go_ret
        exact ⟨rfl, HN.out⟩
set_option maxRecDepth 100000 in
set_option maxHeartbeats 4000000 in
theorem LeapFixed_true (W : World) (s : V4) (k : Int) (t : V2) :
    Calls Try.prog 11 #[.agg #[.int .u64 (W64 s.a), .int .u64 (W64 s.b), .int .u64 (W64 s.c), .int .u64 (W64 s.d)], .int .i64 k, .agg #[.int .u64 (W64 t.a), .int .u64 (W64 t.b)], .bool true] W fun e w' => e = .returned (.bool true) ∧ New W w' := by
  have hf4 := fun w => fixed4_q true s w
  have hb4 : ∀ a c w, LRow w a 256 c (bO (vW (fx4 true)) 256) → Calls Try.prog 40 #[.slice a 256 c, .agg #[.int .u64 (W64 (s).a), .int .u64 (W64 (s).b), .int .u64 (W64 (s).c), .int .u64 (W64 (s).d)]] w fun e w' => e = .returned (.agg #[.int .u64 (W64 (LV4.act (vW (fx4 true)) s).a), .int .u64 (W64 (LV4.act (vW (fx4 true)) s).b), .int .u64 (W64 (LV4.act (vW (fx4 true)) s).c), .int .u64 (W64 (LV4.act (vW (fx4 true)) s).d)]) ∧ New w w' := fun a c w h => by
    have h2 := by4_r a 256 c _ s w h (by omega)
    rw [vB_bO_all (fx4_lt true)] at h2
    exact h2
  have hj4 : ∀ w, Calls Try.prog 45 #[.agg #[.int .u64 (W64 (s).a), .int .u64 (W64 (s).b), .int .u64 (W64 (s).c), .int .u64 (W64 (s).d)], .agg #[.int .u64 0, .int .u64 0, .int .u64 0, .int .u64 1]] w fun e w' => e = .returned (.agg #[.int .u64 (W64 (LV4.act (vW (fx4 true)) s).a), .int .u64 (W64 (LV4.act (vW (fx4 true)) s).b), .int .u64 (W64 (LV4.act (vW (fx4 true)) s).c), .int .u64 (W64 (LV4.act (vW (fx4 true)) s).d)]) ∧ New w w' := fun w => by
    have h := jump4_q s 0#64 0#64 0#64 1#64 w
    rw [show four 0#64 0#64 0#64 1#64 = 6277101735386680763835789423207666416102355444464034512896 from by decide +kernel] at h
    have h2 := far4 true s
    rw [if_pos rfl] at h2
    rw [h2]
    exact h
  obtain ⟨x, hx⟩ : ∃ x, LV4.act (vW (fx4 true)) s = x := ⟨_, rfl⟩
  rw [hx] at hf4 hb4 hj4
  have heq4 := fun w => eq4_same w x
  have HF4 := Lib.hid hf4
  have HB4 := Lib.hid hb4
  have HJ4 := Lib.hid hj4
  have HO4 := Lib.hid (fun a w h => of4_lit true a w h)
  have HFR := Lib.hid (fun w => fixed4_r true w)
  have HPN := Lib.hid power_192
  have HPH := Lib.hid power_96
  have HKA := Lib.hid (k_all k)
  clear hf4 hb4 hj4 hx
  obtain ⟨W9, hW9, xHS, xHT, nW9⟩ : ∃ W9, (W.alloc (.cells #[.int .u64 (W64 s.a), .int .u64 (W64 s.b), .int .u64 (W64 s.c), .int .u64 (W64 s.d)] 44)).alloc (.cells #[.int .u64 (W64 t.a), .int .u64 (W64 t.b)] 53) = W9 ∧ W9.heap[W.heap.size]? = some (.cells #[.int .u64 (W64 s.a), .int .u64 (W64 s.b), .int .u64 (W64 s.c), .int .u64 (W64 s.d)] 44 (0, 0)) ∧ W9.heap[W.heap.size + 1]? = some (.cells #[.int .u64 (W64 t.a), .int .u64 (W64 t.b)] 53 (0, 0)) ∧ New W W9 := by
    refine ⟨_, rfl, ?_, ?_, (((New.refl _).alloc _).alloc _)⟩
    · have h := heap_alloc_new (W) (.cells #[.int .u64 (W64 s.a), .int .u64 (W64 s.b), .int .u64 (W64 s.c), .int .u64 (W64 s.d)] 44)
      replace h := (((New.refl (W.alloc (.cells #[.int .u64 (W64 s.a), .int .u64 (W64 s.b), .int .u64 (W64 s.c), .int .u64 (W64 s.d)] 44))).alloc (.cells #[.int .u64 (W64 t.a), .int .u64 (W64 t.b)] 53)).block _ (lt_of_block h)).trans h
      simpa using h
    · have h := heap_alloc_new (W.alloc (.cells #[.int .u64 (W64 s.a), .int .u64 (W64 s.b), .int .u64 (W64 s.c), .int .u64 (W64 s.d)] 44)) (.cells #[.int .u64 (W64 t.a), .int .u64 (W64 t.b)] 53)
      simpa using h
  have HW9 := Lib.hid hW9
  have NW9 := Lib.hid nW9
  have HS := Lib.hid xHS
  have HT := Lib.hid xHT
  clear hW9 nW9 xHS xHT
  go_enter Try.func11, Try.ntmps11
  go_wp2_with fail
  rw [HW9.out]
  clear HW9
  refine (awake12 _).mono ?_
  rintro e w1 ⟨rfl, hn1⟩
  replace HS := Lib.hid ((hn1.block _ (lt_of_block HS.out)).trans HS.out)
  replace HT := Lib.hid ((hn1.block _ (lt_of_block HT.out)).trans HT.out)
  have HN := Lib.hid (NW9.out.trans hn1)
  clear hn1 NW9
  have k0 := cell_of_row _ _ 0 _ _ _ HS.out
  have k1 := cell_of_row _ _ 1 _ _ _ HS.out
  have k2 := cell_of_row _ _ 2 _ _ _ HS.out
  have k3 := cell_of_row _ _ 3 _ _ _ HS.out
  go_wp2_with fail
  refine (HF4.out _).mono ?_
  rintro e w2 ⟨rfl, hn2⟩
  replace HS := Lib.hid ((hn2.block _ (lt_of_block HS.out)).trans HS.out)
  replace HT := Lib.hid ((hn2.block _ (lt_of_block HT.out)).trans HT.out)
  replace HN := Lib.hid (HN.out.trans hn2)
  have hn3 : New w2 (w2.alloc (.cells #[.int .u64 (W64 x.a), .int .u64 (W64 x.b), .int .u64 (W64 x.c), .int .u64 (W64 x.d)] 44)) := (New.refl _).alloc _
  have hb3 := heap_alloc_new w2 (.cells #[.int .u64 (W64 x.a), .int .u64 (W64 x.b), .int .u64 (W64 x.c), .int .u64 (W64 x.d)] 44)
  obtain ⟨W3, hW3⟩ : ∃ z, w2.alloc (.cells #[.int .u64 (W64 x.a), .int .u64 (W64 x.b), .int .u64 (W64 x.c), .int .u64 (W64 x.d)] 44) = z := ⟨_, rfl⟩
  rw [hW3] at hn3 hb3
  obtain ⟨bx, hbx⟩ : ∃ b, w2.heap.size = b := ⟨_, rfl⟩
  rw [hbx] at hb3
  have HW3 := Lib.hid hW3
  have HBX := Lib.hid hbx
  have HX := Lib.hid hb3
  replace HS := Lib.hid ((hn3.block _ (lt_of_block HS.out)).trans HS.out)
  replace HT := Lib.hid ((hn3.block _ (lt_of_block HT.out)).trans HT.out)
  replace HN := Lib.hid (HN.out.trans hn3)
  clear hn2 hn3 hb3 hW3 hbx HF4 k0 k1 k2 k3
  have SK : Hid (∀ w', New W3 w' → New W3 w' ∧ w'.cell? ⟨W.heap.size, 0, none⟩ = some (.int .u64 (W64 s.a)) ∧ w'.cell? ⟨W.heap.size, 1, none⟩ = some (.int .u64 (W64 s.b)) ∧ w'.cell? ⟨W.heap.size, 2, none⟩ = some (.int .u64 (W64 s.c)) ∧ w'.cell? ⟨W.heap.size, 3, none⟩ = some (.int .u64 (W64 s.d)) ∧ w'.cell? ⟨bx, 0, none⟩ = some (.int .u64 (W64 x.a)) ∧ w'.cell? ⟨bx, 1, none⟩ = some (.int .u64 (W64 x.b)) ∧ w'.cell? ⟨bx, 2, none⟩ = some (.int .u64 (W64 x.c)) ∧ w'.cell? ⟨bx, 3, none⟩ = some (.int .u64 (W64 x.d))) := Lib.hid (fun w' hn => by
    have h1 := (hn.block _ (lt_of_block HS.out)).trans HS.out
    have h2 := (hn.block _ (lt_of_block HX.out)).trans HX.out
    exact ⟨hn, cell_of_row _ _ 0 _ _ _ h1, cell_of_row _ _ 1 _ _ _ h1, cell_of_row _ _ 2 _ _ _ h1, cell_of_row _ _ 3 _ _ _ h1, cell_of_row _ _ 0 _ _ _ h2, cell_of_row _ _ 1 _ _ _ h2, cell_of_row _ _ 2 _ _ _ h2, cell_of_row _ _ 3 _ _ _ h2⟩)
  obtain ⟨_, k0, k1, k2, k3, x0, x1, x2, x3⟩ := SK.out W3 (New.refl _)
  go_wp2_with fail
  rw [HW3.out, HBX.out]
  clear HW3 HBX
  go_cut [33] (fun v wx => v = .bool false ∧ New W3 wx)
  case first =>
    go_region_held3 (fun w' => New W3 w' ∧ w'.cell? ⟨W.heap.size, 0, none⟩ = some (.int .u64 (W64 s.a)) ∧ w'.cell? ⟨W.heap.size, 1, none⟩ = some (.int .u64 (W64 s.b)) ∧ w'.cell? ⟨W.heap.size, 2, none⟩ = some (.int .u64 (W64 s.c)) ∧ w'.cell? ⟨W.heap.size, 3, none⟩ = some (.int .u64 (W64 s.d)) ∧ w'.cell? ⟨bx, 0, none⟩ = some (.int .u64 (W64 x.a)) ∧ w'.cell? ⟨bx, 1, none⟩ = some (.int .u64 (W64 x.b)) ∧ w'.cell? ⟨bx, 2, none⟩ = some (.int .u64 (W64 x.c)) ∧ w'.cell? ⟨bx, 3, none⟩ = some (.int .u64 (W64 x.d)))
      ((refine SK.out _ ?_; first | with_reducible assumption | with_reducible exact (New.refl _).drew | with_reducible exact New.drew (by assumption)))
      (first
      | (go_at_call 49
         refine (HFR.out _).mono ?_
         rintro e w4 ⟨af, rfl, hqf, hnf⟩
         have hn4 : New W3 w4 := by first | with_reducible exact (New.refl W3).drew.trans hnf | with_reducible exact hnf
         have HQF := Lib.hid hqf
         clear hqf hnf)
      | (go_at_call 38
         refine (HO4.out _ _ (by first | with_reducible exact HQF.out | with_reducible exact HQF.out.stay (New.refl _).drew)).mono ?_
         rintro e w5 ⟨ao, co, rfl, hlo, hno⟩
         have hn5 : New W3 w5 := by first | with_reducible exact hn4.trans hno | with_reducible exact hn4.drew.trans hno
         have HLO := Lib.hid hlo
         clear hlo hno)
      | (go_at_call 40
         refine (HB4.out _ _ _ (by first | with_reducible exact HLO.out | with_reducible exact HLO.out.stay (New.refl _).drew)).mono ?_
         rintro e w6 ⟨rfl, hnb⟩
         have hn6 : New W3 w6 := by first | with_reducible exact hn5.trans hnb | with_reducible exact hn5.drew.trans hnb
         clear hnb)
      | (go_at_call 50
         refine (HPN.out _).mono ?_
         rintro e w7 ⟨rfl, hnp⟩
         have hn7 : New W3 w7 := by first | with_reducible exact hn6.trans hnp | with_reducible exact hn6.drew.trans hnp
         clear hnp)
      | (go_at_call 45
         refine (HJ4.out _).mono ?_
         rintro e w8 ⟨rfl, hnj⟩
         have hn8 : New W3 w8 := by first | with_reducible exact hn7.trans hnj | with_reducible exact hn7.drew.trans hnj
         clear hnj))
    all_goals (
      go_wp2_with fail
      go_meet
      case rel => exact ⟨rfl, by first | with_reducible exact hn8 | with_reducible exact hn8.drew⟩)
  case rest =>
    obtain ⟨rfl, hn⟩ := hcut
    replace HN := Lib.hid (HN.out.trans hn)
    replace HS := Lib.hid ((hn.block _ (lt_of_block HS.out)).trans HS.out)
    replace HT := Lib.hid ((hn.block _ (lt_of_block HT.out)).trans HT.out)
    clear hn SK k0 k1 k2 k3 x0 x1 x2 x3 heq4 HFR HO4 HB4 HJ4 HPN HX
    have t0 : wc.cell? ⟨W.heap.size + 1, 0, none⟩ = some (.int .u64 (W64 t.a)) := cell_of_row _ _ 0 _ _ _ HT.out
    have t1 : wc.cell? ⟨W.heap.size + 1, 1, none⟩ = some (.int .u64 (W64 t.b)) := cell_of_row _ _ 1 _ _ _ HT.out
    rcases HKA.out with ⟨h5, h6⟩ | ⟨plus, L, hK⟩
    · have HR := Lib.hid (fun w => right_no k h5 h6 w)
      have HFX := Lib.hid (fun w => fixed2_ot k h5 h6 t w)
      have heq2 := fun w => eq2_same w t
      clear HKA h5 h6
      go_wp2_with fail
      refine (HFX.out _).mono ?_
      rintro e w6 ⟨rfl, hn6⟩
      have ht6 := (hn6.block _ (lt_of_block HT.out)).trans HT.out
      have n7 : New w6 (w6.alloc (.cells #[.int .u64 (W64 t.a), .int .u64 (W64 t.b)] 53)) := (New.refl _).alloc _
      have ht7 := (n7.block _ (lt_of_block ht6)).trans ht6
      have u0 := cell_of_row _ _ 0 _ _ _ ht7
      have u1 := cell_of_row _ _ 1 _ _ _ ht7
      have hy := heap_alloc_new w6 (.cells #[.int .u64 (W64 t.a), .int .u64 (W64 t.b)] 53)
      have y0 := cell_of_row _ _ 0 _ _ _ hy
      have y1 := cell_of_row _ _ 1 _ _ _ hy
      have HN7 := Lib.hid ((HN.out.trans hn6).trans n7)
      clear ht6 n7 ht7 hy hn6 t0 t1 HFX
      go_wp2_with fail
      refine (HR.out _).mono ?_
      rintro e w9 ⟨rfl, hw⟩
      replace hw := hw.symm
      subst hw
      go_wp2
      go_ret
      exact ⟨rfl, HN7.out⟩
    · have HR := Lib.hid (fun w => right_yes k hK.yes w)
      have HPL := Lib.hid hK.six
      have hfx := fun w => hK.fixed true t w
      have hb2 : ∀ a c w, LRow w a 128 c (bO (vW (fx2 plus true)) 128) → Calls Try.prog 44 #[.int .i64 k, .slice a 128 c, .agg #[.int .u64 (W64 (t).a), .int .u64 (W64 (t).b)]] w fun e w' => e = .returned (.agg #[.int .u64 (W64 (L.act (vW (fx2 plus true)) t).a), .int .u64 (W64 (L.act (vW (fx2 plus true)) t).b)]) ∧ New w w' := fun a c w h => by
        have h2 := by2_r L hK.lx hK.lz k hK.kd.stepr a 128 c _ t w h (by omega)
        rw [vB_bO_all (fx2_lt plus true)] at h2
        exact h2
      have hj2 : ∀ w, Calls Try.prog 43 #[.int .i64 k, .agg #[.int .u64 (W64 (t).a), .int .u64 (W64 (t).b)], .agg #[.int .u64 0, .int .u64 4294967296, .int .u64 0, .int .u64 0]] w fun e w' => e = .returned (.agg #[.int .u64 (W64 (L.act (vW (fx2 plus true)) t).a), .int .u64 (W64 (L.act (vW (fx2 plus true)) t).b)]) ∧ New w w' := fun w => by
        have h := hK.kd.jump t 0#64 4294967296#64 0#64 0#64 w
        rw [show four 0#64 4294967296#64 0#64 0#64 = 79228162514264337593543950336 from by decide +kernel] at h
        have h2 := hK.far true t
        rw [if_pos rfl] at h2
        rw [h2]
        exact h
      obtain ⟨y, hy⟩ : ∃ y, L.act (vW (fx2 plus true)) t = y := ⟨_, rfl⟩
      rw [hy] at hfx hb2 hj2
      have heq2 := fun w => eq2_same w y
      have HFX := Lib.hid hfx
      have HB2 := Lib.hid hb2
      have HJ2 := Lib.hid hj2
      have HO2 := Lib.hid (fun a w h => of2_lit plus true a w h)
      have HR2 := Lib.hid (fun w => fixed2_r plus true w)
      clear HKA hfx hb2 hj2 hy hK
      go_wp2_with fail
      refine (HFX.out _).mono ?_
      rintro e w6 ⟨rfl, hn6⟩
      replace HN := Lib.hid (HN.out.trans hn6)
      replace HT := Lib.hid ((hn6.block _ (lt_of_block HT.out)).trans HT.out)
      have n7 : New w6 (w6.alloc (.cells #[.int .u64 (W64 y.a), .int .u64 (W64 y.b)] 53)) := (New.refl _).alloc _
      have hyb := heap_alloc_new w6 (.cells #[.int .u64 (W64 y.a), .int .u64 (W64 y.b)] 53)
      obtain ⟨W7, hW7⟩ : ∃ z, w6.alloc (.cells #[.int .u64 (W64 y.a), .int .u64 (W64 y.b)] 53) = z := ⟨_, rfl⟩
      rw [hW7] at n7 hyb
      obtain ⟨by7, hby⟩ : ∃ b, w6.heap.size = b := ⟨_, rfl⟩
      rw [hby] at hyb
      have HY := Lib.hid hyb
      have HW7 := Lib.hid hW7
      have HBY := Lib.hid hby
      replace HN := Lib.hid (HN.out.trans n7)
      replace HT := Lib.hid ((n7.block _ (lt_of_block HT.out)).trans HT.out)
      clear n7 hyb hn6 hW7 hby t0 t1 HFX
      go_wp2_with fail
      rw [HW7.out, HBY.out]
      clear HW7 HBY
      refine (HR.out _).mono ?_
      rintro e w9 ⟨rfl, hw⟩
      replace hw := hw.symm
      subst hw
      clear HR
      have SK : Hid (∀ w', New W7 w' → New W7 w' ∧ w'.cell? ⟨W.heap.size + 1, 0, none⟩ = some (.int .u64 (W64 t.a)) ∧ w'.cell? ⟨W.heap.size + 1, 1, none⟩ = some (.int .u64 (W64 t.b))) := Lib.hid (fun w' hn => by
        have h1 := (hn.block _ (lt_of_block HT.out)).trans HT.out
        exact ⟨hn, cell_of_row _ _ 0 _ _ _ h1, cell_of_row _ _ 1 _ _ _ h1⟩)
      obtain ⟨_, k0, k1⟩ := SK.out W7 (New.refl _)
      have hsix := HPL.out
      go_wp2_with fail
      go_cut [12] (fun p wx => ∃ b, p = .pointer (some ⟨b, 0, none⟩) ∧ wx.heap[b]? = some (.cells #[.int .u64 (W64 y.a), .int .u64 (W64 y.b)] 53 (0, 0)) ∧ New W7 wx)
      case first =>
        go_region_held3 (fun w' => New W7 w' ∧ w'.cell? ⟨W.heap.size + 1, 0, none⟩ = some (.int .u64 (W64 t.a)) ∧ w'.cell? ⟨W.heap.size + 1, 1, none⟩ = some (.int .u64 (W64 t.b)))
          ((refine SK.out _ ?_; first | with_reducible assumption | with_reducible exact (New.refl _).drew | with_reducible exact New.drew (by assumption) | with_reducible exact New.alloc (by assumption) _ | with_reducible exact (New.refl _).drew.alloc _ | with_reducible exact ((New.refl _).alloc _).drew | with_reducible exact n2_new (by assumption) (by assumption) | with_reducible exact (n2_new (by assumption) (by assumption)).drew))
          (first
          | (go_at_call 52
             refine (HR2.out _).mono ?_
             rintro e w4 ⟨af, rfl, hqf, hnf⟩
             first
             | (have hn4 : New W7 w4 := by first | with_reducible exact (New.refl W7).drew.trans hnf | with_reducible exact hnf)
             | (have hz4 : S2 w4 W7.heap.size ⟨0#64, 0#64⟩ := by first | with_reducible exact (s2_zd W7).stay hnf | with_reducible exact (s2_zdd W7).stay hnf
                have hn4 : New W7 w4 := by first | with_reducible exact ((New.refl W7).alloc _).drew.trans hnf | with_reducible exact ((New.refl W7).drew.alloc _).trans hnf
                have hzg : W7.heap.size ≤ W7.heap.size := Nat.le_refl _
                have HZ := Lib.hid hz4
                clear hz4)
             have HQF := Lib.hid hqf
             clear hqf hnf)
          | (go_at_call 38
             refine (HO2.out _ _ (by first | with_reducible exact HQF.out | with_reducible exact HQF.out.stay (New.refl _).drew | with_reducible exact HQF.out.stay ((New.refl _).alloc _))).mono ?_
             rintro e w5 ⟨ao, co, rfl, hlo, hno⟩
             first
             | (have hn5 : New W7 w5 := by first | with_reducible exact hn4.trans hno | with_reducible exact hn4.drew.trans hno
                first
                | (have hz5 := by first | with_reducible exact HZ.out.stay hno | with_reducible exact (HZ.out.stay (New.refl _).drew).stay hno
                   have HZ := Lib.hid hz5
                   clear hz5)
                | skip)
             | (have hn5 : New W7 w5 := by with_reducible exact (hn4.alloc _).trans hno
                have hz5 : S2 w5 w4.heap.size ⟨0#64, 0#64⟩ := by with_reducible exact (s2_z w4 _ rfl).stay hno
                have hzg : W7.heap.size ≤ w4.heap.size := hn4.le
                have HZ := Lib.hid hz5
                clear hz5)
             have HLO := Lib.hid hlo
             clear hlo hno)
          | (go_at_call 44
             refine (HB2.out _ _ _ (by first | with_reducible exact HLO.out | with_reducible exact HLO.out.stay (New.refl _).drew | with_reducible exact HLO.out.stay ((New.refl _).alloc _))).mono ?_
             rintro e w8 ⟨rfl, hnb⟩
             first
             | (have hn8 : New W7 w8 := by first | with_reducible exact hn5.trans hnb | with_reducible exact hn5.drew.trans hnb
                first
                | (have hz8 := by first | with_reducible exact HZ.out.stay hnb | with_reducible exact (HZ.out.stay (New.refl _).drew).stay hnb
                   have z0 := cell_of_row _ _ 0 _ _ _ hz8
                   have z1 := cell_of_row _ _ 1 _ _ _ hz8
                   have zf := fun i => frozen_of_row _ _ i _ _ hz8
                   have HZ := Lib.hid hz8
                   clear hz8)
                | skip)
             | (have hn8 : New W7 w8 := by with_reducible exact (hn5.alloc _).trans hnb
                have hz8 : S2 w8 w5.heap.size ⟨0#64, 0#64⟩ := by with_reducible exact (s2_z w5 _ rfl).stay hnb
                have hzg : W7.heap.size ≤ w5.heap.size := hn5.le
                have z0 := cell_of_row _ _ 0 _ _ _ hz8
                have z1 := cell_of_row _ _ 1 _ _ _ hz8
                have zf := fun i => frozen_of_row _ _ i _ _ hz8
                have HZ := Lib.hid hz8
                clear hz8)
             clear hnb))
        all_goals (
          go_wp2_with fail
          go_meet
          case rel => first
            | exact ⟨_, rfl, heap_alloc_new w8 _, hn8.alloc _⟩
            | exact ⟨_, rfl, HZ.out.put y, n2_new hn8 hzg⟩
            | exact ⟨_, rfl, (HZ.out.put y).stay (New.refl _).drew, (n2_new hn8 hzg).drew⟩)
      case rest =>
        obtain ⟨bw, rfl, hbw, hn⟩ := hcut
        replace HN := Lib.hid (HN.out.trans hn)
        replace HT := Lib.hid ((hn.block _ (lt_of_block HT.out)).trans HT.out)
        replace HY := Lib.hid ((hn.block _ (lt_of_block HY.out)).trans HY.out)
        have HWT := Lib.hid hbw
        clear hn hbw SK k0 k1 hsix HR2 HO2 HB2
        go_wp2_with fail
        refine wp_region_class (fun w' => (w'.heap[W.heap.size + 1]? = some (.cells #[.int .u64 (W64 t.a), .int .u64 (W64 t.b)] 53 (0, 0)) ∧ w'.heap[by7]? = some (.cells #[.int .u64 (W64 y.a), .int .u64 (W64 y.b)] 53 (0, 0)) ∧ w'.heap[bw]? = some (.cells #[.int .u64 (W64 y.a), .int .u64 (W64 y.b)] 53 (0, 0))) ∧ New wc w') (by kernel_rfl) (by kernel_rfl) ⟨⟨((New.refl wc).drew.block _ (lt_of_block HT.out)).trans HT.out, ((New.refl wc).drew.block _ (lt_of_block HY.out)).trans HY.out, ((New.refl wc).drew.block _ (lt_of_block HWT.out)).trans HWT.out⟩, (New.refl _).drew⟩ ?_
        intro I _ f hall hback
        have HSTEP : Hid (∀ n w', New (f n) w' → ∃ m, w' = f m) := Lib.hid fun n w' hn => hback w' ⟨⟨(hn.block _ (lt_of_block ((hall n).1.1))).trans ((hall n).1.1), (hn.block _ (lt_of_block ((hall n).1.2.1))).trans ((hall n).1.2.1), (hn.block _ (lt_of_block ((hall n).1.2.2))).trans ((hall n).1.2.2)⟩, (hall n).2.trans hn⟩
        have HALL := Lib.hid fun n => (hall n).2
        have s0 := fun n => cell_of_row _ _ 0 _ _ _ ((hall n).1.1)
        have s1 := fun n => cell_of_row _ _ 1 _ _ _ ((hall n).1.1)
        have s2 := fun n => cell_of_row _ _ 0 _ _ _ ((hall n).1.2.1)
        have s3 := fun n => cell_of_row _ _ 1 _ _ _ ((hall n).1.2.1)
        have s4 := fun n => cell_of_row _ _ 0 _ _ _ ((hall n).1.2.2)
        have s5 := fun n => cell_of_row _ _ 1 _ _ _ ((hall n).1.2.2)
        clear hall hback
        repeat (go_big_quiet_step (first
          | (go_at_call 50; refine class_new HSTEP.out (HPH.out _))
          | (go_at_call 43; refine class_new HSTEP.out (HJ2.out _))))
        refine wpQuiet_nil ?_
        rintro w9 ⟨n1, hw1⟩
        have hS := HALL.out n1
        rw [← hw1] at hS
        replace HT := Lib.hid ((hS.block _ (lt_of_block HT.out)).trans HT.out)
        replace HY := Lib.hid ((hS.block _ (lt_of_block HY.out)).trans HY.out)
        replace HWT := Lib.hid ((hS.block _ (lt_of_block HWT.out)).trans HWT.out)
        replace HN := Lib.hid (HN.out.trans hS)
        clear HALL HSTEP hw1 hS s0 s1 s2 s3 s4 s5
        go_wp2
        go_ret
        exact ⟨rfl, HN.out⟩
theorem LeapFixed_walk (W : World) (x0_0 : BitVec 64) (x0_1 : BitVec 64) (x0_2 : BitVec 64) (x0_3 : BitVec 64) (a1 : Int) (w1 : (Lit.int .i64 a1).wf = true) (x2_0 : BitVec 64) (x2_1 : BitVec 64) (a3 : Bool) :
    Calls Try.prog 11 #[.agg #[.int .u64 (W64 x0_0), .int .u64 (W64 x0_1), .int .u64 (W64 x0_2), .int .u64 (W64 x0_3)], .int .i64 a1, .agg #[.int .u64 (W64 x2_0), .int .u64 (W64 x2_1)], .bool a3] W fun e w' => e = .returned (.bool true) ∧ Below W.heap.size W w' := by
  cases a3
  · exact LeapFixed_false W ⟨x0_0, x0_1, x0_2, x0_3⟩ a1 ⟨x2_0, x2_1⟩
  · exact LeapFixed_true W ⟨x0_0, x0_1, x0_2, x0_3⟩ a1 ⟨x2_0, x2_1⟩
end Go.Proofs.Ytppmpledcaonkaa
