/- Contracts of mers89's Add, Sub, Fold, Mul: for all numbers. -/
import Derived.Test.YtadaaihbeapibaaMeiB
namespace Go.Proofs.Ytadaaihbeapibaa
open Go.RowKit Go.Bv
set_option linter.unusedVariables false
theorem add_89_eq (x y : BitVec 128) : m89 (m89 x.toNat + m89 y.toNat).toNat = m89 (x.toNat + y.toNat) := by
  apply m89_congr
  have h1 := m89_lt x.toNat
  have h2 := m89_lt y.toNat
  rw [BitVec.toNat_add, Nat.mod_eq_of_lt (a := (m89 x.toNat).toNat + (m89 y.toNat).toNat) (by omega), m89_nat, m89_nat, ← Nat.add_mod]
set_option maxHeartbeats 2000000 in
theorem add_89 (x y : BitVec 128) (w : World) : Calls Try.prog 37 #[.agg #[.int .u64 (W64 (hi128 x)), .int .u64 (W64 (lo128 x))], .agg #[.int .u64 (W64 (hi128 y)), .int .u64 (W64 (lo128 y))]] w fun e w' => e = .returned (.agg #[.int .u64 (W64 (hi128 (m89 (x.toNat + y.toNat)))), .int .u64 (W64 (lo128 (m89 (x.toNat + y.toNat))))]) ∧ New w w' := by
  have C1 := Lib.hid (fun w => reduce_89 x w)
  have C2 := Lib.hid (fun w => reduce_89 y w)
  have C3 := Lib.hid (fun w => plus_89 (m89 x.toNat) (m89 y.toNat) w)
  have c4 := fun w => reduce_89 (m89 x.toNat + m89 y.toNat) w
  rw [add_89_eq] at c4
  have C4 := Lib.hid c4
  clear c4
  generalize m89 (x.toNat + y.toNat) = r at *
  obtain ⟨s, hs⟩ : ∃ s, m89 x.toNat + m89 y.toNat = s := ⟨_, rfl⟩
  rw [hs] at C3 C4
  obtain ⟨xr, hx⟩ : ∃ s, m89 x.toNat = s := ⟨_, rfl⟩
  obtain ⟨yr, hy⟩ : ∃ s, m89 y.toNat = s := ⟨_, rfl⟩
  rw [hx] at C1 C3
  rw [hy] at C2 C3
  clear hs hx hy
  obtain ⟨h1, h2, h3, h4⟩ := three_blocks w (.cells #[.int .u64 (W64 (hi128 x)), .int .u64 (W64 (lo128 x))] 35) (.cells #[.int .u64 (W64 (hi128 y)), .int .u64 (W64 (lo128 y))] 35) (.cells #[.int .u64 0, .int .u64 0] 35)
  have H1 := Lib.hid ((show B2 _ _ _ x from h1).stay (New.refl _).drew)
  have H2 := Lib.hid ((show B2 _ _ _ y from h2).stay (New.refl _).drew)
  have H3 := Lib.hid ((show Z2 _ _ _ from h3).stay (New.refl _).drew)
  have H4 := Lib.hid h4.drew
  clear h1 h2 h3 h4
  go_enter Try.func37, Try.ntmps37
  go_wp2_with fail
  generalize ((w.alloc (.cells #[.int .u64 (W64 (hi128 x)), .int .u64 (W64 (lo128 x))] 35)).alloc (.cells #[.int .u64 (W64 (hi128 y)), .int .u64 (W64 (lo128 y))] 35)).alloc (.cells #[.int .u64 0, .int .u64 0] 35) = w0 at H1 H2 H3 H4 ⊢
  have x0 := H1.out.c0
  have x1 := H1.out.c1
  have y0 := H2.out.c0
  have y1 := H2.out.c1
  go_region_law (first
    | (go_simp
       go_at_call_of 64 (Value.int IntKind.u64 (W64 (hi128 x)))
       refine (C1.out _).mono ?_
       rintro e q0 ⟨rfl, hn0⟩
       have HQ0 : Hid (New w0.drew q0) := Lib.hid hn0
       have x0 := (H1.out.stay HQ0.out).c0
       have x1 := (H1.out.stay HQ0.out).c1
       have y0 := (H2.out.stay HQ0.out).c0
       have y1 := (H2.out.stay HQ0.out).c1
       clear hn0)
    | (go_simp
       go_at_call_of 64 (Value.int IntKind.u64 (W64 (hi128 y)))
       refine (C2.out _).mono ?_
       rintro e q1 ⟨rfl, hn1⟩
       have HQ1 : Hid (New w0.drew q1) := Lib.hid (HQ0.out.trans hn1)
       have x0 := (H1.out.stay HQ1.out).c0
       have x1 := (H1.out.stay HQ1.out).c1
       have y0 := (H2.out.stay HQ1.out).c0
       have y1 := (H2.out.stay HQ1.out).c1
       clear hn1)
    | (go_simp
       go_at_call 65
       refine (C3.out _).mono ?_
       rintro e q2 ⟨rfl, hn2⟩
       have HQ2 : Hid (New w0.drew q2) := Lib.hid (HQ1.out.trans hn2)
       have x0 := (H1.out.stay HQ2.out).c0
       have x1 := (H1.out.stay HQ2.out).c1
       have y0 := (H2.out.stay HQ2.out).c0
       have y1 := (H2.out.stay HQ2.out).c1
       clear hn2)
    | (go_simp
       go_at_call_of 64 (Value.int IntKind.u64 (W64 (hi128 s)))
       refine (C4.out _).mono ?_
       rintro e q3 ⟨rfl, hn3⟩
       have HQ3 : Hid (New w0.drew q3) := Lib.hid (HQ2.out.trans hn3)
       have hz := H3.out.stay HQ3.out
       have k0 := hz.c0
       have k1 := hz.c1
       have kf := hz.free
       have HNF := Lib.hid (H4.out.trans HQ3.out)
       clear hz
       clear hn3))
  all_goals (
    go_wp2
    refine bodyPost_ret (by simp [results, Try.results37, go_sem, k0, k1]; try rfl) rfl ?_
    exact ⟨rfl, put2_new _ HNF.out (by omega)⟩)
set_option maxHeartbeats 4000000 in
theorem sub_89 (x y : BitVec 128) (w : World) : Calls Try.prog 41 #[.agg #[.int .u64 (W64 (hi128 x)), .int .u64 (W64 (lo128 x))], .agg #[.int .u64 (W64 (hi128 y)), .int .u64 (W64 (lo128 y))]] w fun e w' => e = .returned (.agg #[.int .u64 (W64 (hi128 (m89 (x.toNat + (p89 - m89 y.toNat).toNat)))), .int .u64 (W64 (lo128 (m89 (x.toNat + (p89 - m89 y.toNat).toNat))))]) ∧ New w w' := by
  have HPP := Lib.hid (fun w => p_89 w)
  have HRD := Lib.hid (fun w => reduce_89 y w)
  have HSB := Lib.hid (fun w => wsub_x p89 (m89 y.toNat) w)
  have HAD := Lib.hid (fun w => add_89 x (p89 - m89 y.toNat) w)
  generalize m89 (x.toNat + (p89 - m89 y.toNat).toNat) = r at *
  generalize decide (p89.toNat < (m89 y.toNat).toNat) = ov at *
  generalize p89 - m89 y.toNat = d at *
  generalize m89 y.toNat = yr at *
  generalize p89 = p at *
  obtain ⟨h1, h2, h3, h4⟩ := three_blocks w (.cells #[.int .u64 (W64 (hi128 x)), .int .u64 (W64 (lo128 x))] 35) (.cells #[.int .u64 (W64 (hi128 y)), .int .u64 (W64 (lo128 y))] 35) (.cells #[.int .u64 0, .int .u64 0] 35)
  have H1 := Lib.hid ((show B2 _ _ _ x from h1))
  have H2 := Lib.hid ((show B2 _ _ _ y from h2))
  have H3 := Lib.hid ((show Z2 _ _ _ from h3))
  have H4 := Lib.hid h4
  clear h1 h2 h3 h4
  go_enter Try.func41, Try.ntmps41
  go_wp2_with fail
  generalize ((w.alloc (.cells #[.int .u64 (W64 (hi128 x)), .int .u64 (W64 (lo128 x))] 35)).alloc (.cells #[.int .u64 (W64 (hi128 y)), .int .u64 (W64 (lo128 y))] 35)).alloc (.cells #[.int .u64 0, .int .u64 0] 35) = w0 at H1 H2 H3 H4 ⊢
  have hlow : w.heap.size + 1 + 1 < w0.heap.size := lt_of_block H3.out
  have b_y := H2.out.stay (New.refl w0).drew
  have y0 := b_y.c0
  have y1 := b_y.c1
  have ba_y := H2.out.stay ((New.refl w0).alloc (.cells #[.int .u64 0, .int .u64 0] 35))
  have y0a := ba_y.c0
  have y1a := ba_y.c1
  have HBD_y := Lib.hid b_y
  clear b_y ba_y
  go_cut [5] (fun p wx => ∃ g, p = .pointer (some ⟨g, 0, none⟩) ∧ w.heap.size + 1 + 1 < g ∧ B2 wx g 35 d ∧ New w0.drew wx)
  case first =>
    go_region_law (first
      | (go_simp
         go_at_call 69
         refine (HPP.out _).mono ?_
         rintro e q0 ⟨rfl, hn0⟩
         first
         | (have hz := Z2.stay (show Z2 (w0.alloc (.cells #[.int .u64 0, .int .u64 0] 35)).drew w0.heap.size 35 from heap_alloc_new w0 _) hn0
            have HG : Hid (w.heap.size + 1 + 1 < w0.heap.size) := Lib.hid (by omega)
            have HGE : Hid (w0.drew.heap.size ≤ w0.heap.size) := Lib.hid (Nat.le_refl _)
            have HQ0 : Hid (New w0.drew q0) := Lib.hid (left_drew (((New.refl w0).alloc (.cells #[.int .u64 0, .int .u64 0] 35)).drew.trans hn0))
            have HZ := Lib.hid hz
            clear hz)
         | (have HQ0 : Hid (New w0.drew q0) := Lib.hid hn0)
         have bb_y := HBD_y.out.stay HQ0.out
         have y0 := bb_y.c0
         have y1 := bb_y.c1
         have bc_y := bb_y.stay ((New.refl q0).alloc (.cells #[.int .u64 0, .int .u64 0] 35))
         have y0c := bc_y.c0
         have y1c := bc_y.c1
         clear bb_y bc_y
         clear hn0)
      | (go_simp
         go_at_call 64
         refine (HRD.out _).mono ?_
         rintro e q1 ⟨rfl, hn1⟩
         first
         | (have hz := HZ.out.stay hn1
            have HQ1 := Lib.hid (HQ0.out.trans hn1)
            have HZ := Lib.hid hz
            clear hz)
         | (have hz := Z2.stay (show Z2 (q0.alloc (.cells #[.int .u64 0, .int .u64 0] 35)) q0.heap.size 35 from heap_alloc_new _ _) hn1
            have HG := Lib.hid (show w.heap.size + 1 + 1 < q0.heap.size by have := HQ0.out.le; simp at this; omega)
            have HGE : Hid (w0.drew.heap.size ≤ q0.heap.size) := Lib.hid HQ0.out.le
            have HQ1 := Lib.hid ((HQ0.out.alloc (.cells #[.int .u64 0, .int .u64 0] 35)).trans hn1)
            have HZ := Lib.hid hz
            clear hz)
         | (have HQ1 := Lib.hid (HQ0.out.trans hn1))
         have bb_y := HBD_y.out.stay HQ1.out
         have y0 := bb_y.c0
         have y1 := bb_y.c1
         have bc_y := bb_y.stay ((New.refl q1).alloc (.cells #[.int .u64 0, .int .u64 0] 35))
         have y0c := bc_y.c0
         have y1c := bc_y.c1
         clear bb_y bc_y
         clear hn1)
      | (go_simp
         go_at_call 68
         refine (HSB.out _).mono ?_
         rintro e q2 ⟨rfl, hn2⟩
         first
         | (have hz := HZ.out.stay hn2
            have HQ2 := Lib.hid (HQ1.out.trans hn2)
            have k0 := hz.c0
            have k1 := hz.c1
            have kf := hz.free
            have HZ := Lib.hid hz
            clear hz)
         | (have hz := Z2.stay (show Z2 (q1.alloc (.cells #[.int .u64 0, .int .u64 0] 35)) q1.heap.size 35 from heap_alloc_new _ _) hn2
            have HG := Lib.hid (show w.heap.size + 1 + 1 < q1.heap.size by have := HQ1.out.le; simp at this; omega)
            have HGE : Hid (w0.drew.heap.size ≤ q1.heap.size) := Lib.hid HQ1.out.le
            have HQ2 := Lib.hid ((HQ1.out.alloc (.cells #[.int .u64 0, .int .u64 0] 35)).trans hn2)
            have k0 := hz.c0
            have k1 := hz.c1
            have kf := hz.free
            have HZ := Lib.hid hz
            clear hz)
         | (have HQ2 := Lib.hid (HQ1.out.trans hn2)
            have HG := Lib.hid (show w.heap.size + 1 + 1 < q2.heap.size by have := HQ2.out.le; simp at this; omega))
         clear hn2))
    all_goals (
      go_wp2_with fail
      go_meet
      case rel => first
        | exact ⟨_, rfl, HG.out, heap_alloc_new _ _, HQ2.out.alloc _⟩
        | exact ⟨_, rfl, HG.out, B2.put _ HZ.out, put2_new _ HQ2.out HGE.out⟩)
  case rest =>
    obtain ⟨g2, rfl, hg2, hb, hn⟩ := hcut
    have b0 := hb.c0
    have b1 := hb.c1
    have HN0 := Lib.hid ((New.refl w0).drew.trans hn)
    have x0 := (H1.out.stay HN0.out).c0
    have x1 := (H1.out.stay HN0.out).c1
    clear hb hn y0 y1 y0a y1a
    go_wp2_with fail
    refine (HAD.out _).mono ?_
    rintro e w5 ⟨rfl, hn5⟩
    have HN1 := Lib.hid (HN0.out.trans hn5)
    have hz := H3.out.stay HN1.out
    have k0 := hz.c0
    have k1 := hz.c1
    have kf := hz.free
    have HN := Lib.hid (H4.out.trans HN1.out)
    clear hz hn5 b0 b1 x0 x1
    go_wp2
    refine bodyPost_ret (by simp [results, Try.results41, go_sem, k0, k1]; try rfl) rfl ?_
    exact ⟨rfl, put2_new _ HN.out (by omega)⟩
end Go.Proofs.Ytadaaihbeapibaa
