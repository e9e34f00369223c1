/- Contracts of mers89: P, Is, plus, reduce, Add, Sub, Fold, Mul: for all numbers. -/
import Derived.Test.YtagidgboebjkhaaDoorMeiA
import Derived.Handy
import Derived.Deep.DeepCutAuto
namespace Go.Proofs.YtagidgboebjkhaaDoor
open Go.RowKit Go.Bv
set_option linter.unusedVariables false
set_option maxHeartbeats 1000000 in
theorem p_89 (w : World) : Calls Tryd.prog 6 #[] w fun e w' => e = .returned (.agg #[.int .u64 (W64 (hi128 p89)), .int .u64 (W64 (lo128 p89))]) ∧ New w w' := by
  rw [p89_hi, p89_lo]
  go_enter Tryd.func6, Tryd.ntmps6
  go_wp2
  go_returns
  exact ⟨rfl, (New.refl _).alloc _⟩
set_option maxHeartbeats 1000000 in
theorem number_89 (w : World) : Calls Tryd.prog 7 #[] w fun e w' => e = .returned (.agg #[.int .u64 (W64 (hi128 p89)), .int .u64 (W64 (lo128 p89))]) ∧ New w w' := by
  rw [p89_hi, p89_lo]
  go_enter Tryd.func7, Tryd.ntmps7
  go_wp2
  go_returns
  exact ⟨rfl, (New.refl _).alloc _⟩
theorem left_drew {w X : World} (h : New w X) : New w.drew X := by
  obtain ⟨a, b, c, d, e⟩ := h
  exact ⟨a, b, c, d, e⟩
set_option maxHeartbeats 1000000 in
theorem plus_89 (x y : BitVec 128) (w : World) : Calls Tryd.prog 20 #[.agg #[.int .u64 (W64 (hi128 x)), .int .u64 (W64 (lo128 x))], .agg #[.int .u64 (W64 (hi128 y)), .int .u64 (W64 (lo128 y))]] w fun e w' => e = .returned (.agg #[.int .u64 (W64 (hi128 (x + y))), .int .u64 (W64 (lo128 (x + y)))]) ∧ New w w' := by
  obtain ⟨h1, h2, h3, h4⟩ := three_blocks w (.cells #[.int .u64 (W64 (hi128 x)), .int .u64 (W64 (lo128 x))] 26) (.cells #[.int .u64 (W64 (hi128 y)), .int .u64 (W64 (lo128 y))] 26) (.cells #[.int .u64 0, .int .u64 0] 26)
  have H3 := Lib.hid (show Z2 _ _ _ from h3)
  have H4 := Lib.hid h4
  clear h1 h2 h3 h4
  go_enter Tryd.func20, Tryd.ntmps20
  go_wp2_with fail
  refine (wadd_x x y _).mono ?_
  rintro e w1 ⟨rfl, hn1⟩
  generalize decide (2 ^ 128 ≤ x.toNat + y.toNat) = ov
  have hn2 := hn1.alloc (.cells #[.int .u64 (W64 (hi128 (x + y))), .int .u64 (W64 (lo128 (x + y)))] 26)
  have hz := H3.out.stay hn2
  have k0 := hz.c0
  have k1 := hz.c1
  have kf := hz.free
  have HN := Lib.hid (H4.out.trans hn2)
  clear hz hn1 hn2
  go_wp2
  refine bodyPost_ret (by simp [results, Tryd.results20, go_sem, k0, k1]; try rfl) rfl ?_
  exact ⟨rfl, put2_new _ HN.out (by omega)⟩
theorem wcmp_x (x y : BitVec 128) (w : World) : Calls Tryd.prog 23 #[.agg #[.int .u64 (W64 (hi128 x)), .int .u64 (W64 (lo128 x))], .agg #[.int .u64 (W64 (hi128 y)), .int .u64 (W64 (lo128 y))]] w fun e w' => e = .returned (.int .i64 (if x.toNat < y.toNat then -1 else if y.toNat < x.toNat then 1 else 0)) ∧ New w w' := by
  have h := wcmp_two (hi128 x) (lo128 x) (hi128 y) (lo128 y) w
  rw [two_x, two_x] at h
  exact h
set_option maxHeartbeats 1000000 in
theorem is_89 (x : BitVec 128) (w : World) : Calls Tryd.prog 11 #[.agg #[.int .u64 (W64 (hi128 x)), .int .u64 (W64 (lo128 x))]] w fun e w' => e = .returned (.bool (decide (x.toNat < 618970019642690137449562111))) ∧ New w w' := by
  have hB := heap_alloc_new w (.cells #[.int .u64 (W64 (hi128 x)), .int .u64 (W64 (lo128 x))] 26)
  have hn0 := (New.refl w).alloc (.cells #[.int .u64 (W64 (hi128 x)), .int .u64 (W64 (lo128 x))] 26)
  have hc := fun w => wcmp_x x p89 w
  have hd : decide ((if x.toNat < p89.toNat then (-1 : Int) else if p89.toNat < x.toNat then 1 else 0) < 0) = decide (x.toNat < 618970019642690137449562111) := by
    rw [p89_nat]; split
    · rename_i h; simp [h]
    · rename_i h; split <;> simp [h]
  obtain ⟨c, hce⟩ : ∃ c : Int, (if x.toNat < p89.toNat then (-1 : Int) else if p89.toNat < x.toNat then 1 else 0) = c := ⟨_, rfl⟩
  rw [hce] at hd hc
  rw [← hd]
  have HC := Lib.hid hc
  clear hd hc hce
  go_enter Tryd.func11, Tryd.ntmps11
  go_wp2_with fail
  generalize w.alloc (.cells #[.int .u64 (W64 (hi128 x)), .int .u64 (W64 (lo128 x))] 26) = w0 at *
  have hb := (show B2 _ _ _ x from hB)
  have HN := Lib.hid hn0
  refine wp_region_class (fun w' => B2 w' w.heap.size 26 x ∧ New w0 w') (by kernel_rfl) (by kernel_rfl) ⟨hb.stay (New.refl _).drew, (New.refl _).drew⟩ ?_
  intro I _ f hall hback
  have HSTEP : Hid (∀ n w', New (f n) w' → ∃ m, w' = f m) := Lib.hid fun n w' hn => hback w' ⟨(hall n).1.stay hn, (hall n).2.trans hn⟩
  have HALL := Lib.hid hall
  have s0 := fun n => (hall n).1.c0
  have s1 := fun n => (hall n).1.c1
  clear hall hback hb hB hn0
  repeat (go_big_quiet_step (first
    | (go_at_call 6; refine class_new HSTEP.out (p_89 _))
    | (go_at_call 23; refine class_new HSTEP.out (HC.out _))))
  refine wpQuiet_nil ?_
  rintro w9 ⟨n1, hw1⟩
  have hS := HN.out.trans (HALL.out n1).2
  rw [← hw1] at hS
  clear HALL HSTEP hw1 s0 s1
  go_wp2
  go_ret
  exact ⟨rfl, hS⟩
theorem red_small (x : BitVec 128) (h : decide ((low89 x + x >>> 89).toNat < 618970019642690137449562111) = true) : low89 x + x >>> 89 = m89 x.toNat := by
  have h1 := of_decide_eq_true h
  apply BitVec.eq_of_toNat_eq
  rw [m89_nat, ← (red_sum x).1, Nat.mod_eq_of_lt h1]
theorem red_big (x : BitVec 128) (h : decide ((low89 x + x >>> 89).toNat < 618970019642690137449562111) = false) : low89 x + x >>> 89 - p89 = m89 x.toNat := by
  have h1 := of_decide_eq_false h
  obtain ⟨h2, h3⟩ := red_sum x
  apply BitVec.eq_of_toNat_eq
  rw [m89_nat, ← h2, BitVec.toNat_sub_of_le (by rw [BitVec.le_def, p89_nat]; omega), p89_nat]
  omega
set_option maxHeartbeats 2000000 in
theorem reduce_89 (x : BitVec 128) (w : World) : Calls Tryd.prog 19 #[.agg #[.int .u64 (W64 (hi128 x)), .int .u64 (W64 (lo128 x))]] w fun e w' => e = .returned (.agg #[.int .u64 (W64 (hi128 (m89 x.toNat))), .int .u64 (W64 (lo128 (m89 x.toNat)))]) ∧ New w w' := by
  obtain ⟨h1, h2, h3, h4⟩ := three_blocks w (.cells #[.int .u64 (W64 (hi128 x)), .int .u64 (W64 (lo128 x))] 26) (.cells #[.int .u64 0, .int .u64 0] 26) (.cells #[.int .u64 (W64 (hi128 (low89 x))), .int .u64 (W64 (lo128 (low89 x)))] 26)
  have hlo := low_lo x
  have hhi := low_hi x
  have HS := Lib.hid (fun w => wshr_x x 89 (by omega) 89 rfl w)
  have HPL := Lib.hid (fun w => plus_89 (low89 x) (x >>> 89) w)
  have HI := Lib.hid (fun w => is_89 (low89 x + x >>> 89) w)
  have HSUB := Lib.hid (fun w => wsub_x (low89 x + x >>> 89) p89 w)
  have HP89 := Lib.hid (fun w => p_89 w)
  have HB1 := Lib.hid (red_small x)
  have HB2 := Lib.hid (red_big x)
  generalize low89 x = l at *
  rw [hlo] at h1 h2 h3 h4 HPL
  generalize x >>> 89 = y at *
  generalize l + y = s at *
  generalize decide (s.toNat < p89.toNat) = ov at *
  have H1 := Lib.hid ((show B2 _ _ _ x from h1).stay (New.refl _).drew)
  have H2 := Lib.hid ((show Z2 _ _ _ from h2).stay (New.refl _).drew)
  have H4 := Lib.hid h4.drew
  have H3 := Lib.hid (((New.refl _).drew.block _ (lt_of_block h3)).trans h3)
  clear h1 h2 h4 hlo h3
  go_enter Tryd.func19, Tryd.ntmps19
  go_wp2_with fail
  generalize ((w.alloc (.cells #[.int .u64 (W64 (hi128 x)), .int .u64 (W64 (lo128 x))] 26)).alloc (.cells #[.int .u64 0, .int .u64 0] 26)).alloc (.cells #[.int .u64 (W64 (hi128 l)), .int .u64 (W64 (lo128 x))] 26) = w0 at H1 H2 H3 H4 ⊢
  have l0 := cell_of_row _ _ 0 _ _ _ H3.out
  have l1 := cell_of_row _ _ 1 _ _ _ H3.out
  have x0 := H1.out.c0
  have x1 := H1.out.c1
  have hlow : w.heap.size + 1 + 1 < w0.heap.size := by have := lt_of_block H3.out; simpa using this
  have xa := B2.stay (show B2 w0 w.heap.size 26 x from H1.out) ((New.refl w0).alloc (.cells #[.int .u64 0, .int .u64 0] 26))
  have x0a := xa.c0
  have x1a := xa.c1
  have la := (((New.refl w0).alloc (.cells #[.int .u64 0, .int .u64 0] 26)).block _ (by omega)).trans (show w0.heap[w.heap.size + 1 + 1]? = _ from H3.out)
  have l0a := cell_of_row _ _ 0 _ _ _ la
  have l1a := cell_of_row _ _ 1 _ _ _ la
  have HLA := Lib.hid la
  clear xa la
  go_cut [4] (fun p wx => ∃ g, p = .pointer (some ⟨g, 0, none⟩) ∧ w.heap.size + 1 + 1 < g ∧ B2 wx g 26 s ∧ New w0.drew wx)
  case first =>
    go_region_law (first
      | (go_simp
         go_at_call 30
         refine (HS.out _).mono ?_
         rintro e w1 ⟨rfl, hn1⟩
         have HN1 := Lib.hid hn1
         have hl1 := (hn1.block (w.heap.size + 1 + 1) (by simp; omega)).trans (by first | exact H3.out | exact HLA.out)
         have l0b := cell_of_row _ _ 0 _ _ _ hl1
         have l1b := cell_of_row _ _ 1 _ _ _ hl1
         have hl2 := (((New.refl w1).alloc (.cells #[.int .u64 0, .int .u64 0] 26)).block _ (lt_of_block hl1)).trans hl1
         have l0c := cell_of_row _ _ 0 _ _ _ hl2
         have l1c := cell_of_row _ _ 1 _ _ _ hl2
         clear hn1 hl1 hl2)
      | (go_simp
         go_at_call 20
         refine (HPL.out _).mono ?_
         rintro e w2 ⟨rfl, hn2⟩
         first
         | (have hz := Z2.stay (show Z2 (w1.alloc (.cells #[.int .u64 0, .int .u64 0] 26)) w1.heap.size 26 from heap_alloc_new _ _) hn2
            have HG := Lib.hid (show w.heap.size + 1 + 1 < w1.heap.size by have := HN1.out.le; simp at this; omega)
            have HGE : Hid (w0.drew.heap.size ≤ w1.heap.size) := Lib.hid HN1.out.le
            have HNN := Lib.hid ((HN1.out.alloc (.cells #[.int .u64 0, .int .u64 0] 26)).trans hn2)
            have k0 := hz.c0
            have k1 := hz.c1
            have kf := hz.free
            have HZ := Lib.hid hz
            clear hz)
         | (have hz := Z2.stay (Z2.stay (show Z2 (w0.alloc (.cells #[.int .u64 0, .int .u64 0] 26)).drew w0.heap.size 26 from heap_alloc_new w0 _) HN1.out) hn2
            have HG := Lib.hid hlow
            have HGE : Hid (w0.drew.heap.size ≤ w0.heap.size) := Lib.hid (Nat.le_refl _)
            have HNN : Hid (New w0.drew w2) := Lib.hid (left_drew ((((New.refl w0).alloc (.cells #[.int .u64 0, .int .u64 0] 26)).drew.trans HN1.out).trans hn2))
            have k0 := hz.c0
            have k1 := hz.c1
            have kf := hz.free
            have HZ := Lib.hid hz
            clear hz)
         | (have HNN := Lib.hid (HN1.out.trans hn2)
            have HG := Lib.hid (show w.heap.size + 1 + 1 < w2.heap.size by have := (HN1.out.trans hn2).le; simp at this; omega))
         clear hn2))
    all_goals (
      go_wp2_with fail
      go_meet
      case rel => first
        | exact ⟨_, rfl, HG.out, heap_alloc_new _ _, HNN.out.alloc _⟩
        | exact ⟨_, rfl, HG.out, B2.put _ HZ.out, put2_new _ HNN.out HGE.out⟩)
  case rest =>
    obtain ⟨g, rfl, hg, hb, hn⟩ := hcut
    have b0 := hb.c0
    have b1 := hb.c1
    have HB := Lib.hid hb
    have HN := Lib.hid hn
    clear l0 l1 x0 x1 x0a x1a l0a l1a HLA hb hn HS HPL H3 H1
    go_wp2_with fail
    refine (HI.out _).mono ?_
    rintro e w5 ⟨rfl, hn5⟩
    have HB5 := Lib.hid (HB.out.stay hn5)
    have HN5 := Lib.hid ((H4.out.trans (show New w0.drew _ from HN.out)).trans hn5)
    have HZ5 := Lib.hid ((H2.out.stay (show New w0.drew _ from HN.out)).stay hn5)
    have hgl : g < w5.heap.size := lt_of_block HB5.out
    clear hn5 b0 b1 HB HN H2 H4 HI
    rcases hd : decide (s.toNat < 618970019642690137449562111)
    · have HR := Lib.hid (HB2.out hd)
      clear HB1 HB2
      go_wp2_with fail
      generalize s - p89 = r at *
      have b_g := HB5.out.stay (New.refl w5).drew
      have g0 := b_g.c0
      have g1 := b_g.c1
      have ba_g := HB5.out.stay ((New.refl w5).alloc (.cells #[.int .u64 0, .int .u64 0] 26))
      have g0a := ba_g.c0
      have g1a := ba_g.c1
      have HBA_g := Lib.hid ba_g
      have HBD_g := Lib.hid b_g
      clear b_g ba_g
      go_cut [5] (fun p wx => ∃ g, p = .pointer (some ⟨g, 0, none⟩) ∧ w.heap.size + 1 + 1 < g ∧ B2 wx g 26 r ∧ New w5.drew wx)
      case first =>
        go_region_law (first
          | (go_simp
             go_at_call 6
             refine (HP89.out _).mono ?_
             rintro e w1 ⟨rfl, hn1⟩
             have HN1 := Lib.hid hn1
             have bb_g : B2 w1 (g) 26 s := by first | exact HBD_g.out.stay hn1 | exact (show B2 (w5.alloc (.cells #[.int .u64 0, .int .u64 0] 26)).drew (g) 26 s from HBA_g.out).stay hn1
             have g0b := bb_g.c0
             have g1b := bb_g.c1
             have bc_g := bb_g.stay ((New.refl w1).alloc (.cells #[.int .u64 0, .int .u64 0] 26))
             have g0c := bc_g.c0
             have g1c := bc_g.c1
             clear bb_g bc_g
             clear hn1)
          | (go_simp
             go_at_call 28
             refine (HSUB.out _).mono ?_
             rintro e w2 ⟨rfl, hn2⟩
             first
             | (have hz := Z2.stay (show Z2 (w1.alloc (.cells #[.int .u64 0, .int .u64 0] 26)) w1.heap.size 26 from heap_alloc_new _ _) hn2
                have HG := Lib.hid (show w.heap.size + 1 + 1 < w1.heap.size by have := HN1.out.le; simp at this; omega)
                have HGE : Hid (w5.drew.heap.size ≤ w1.heap.size) := Lib.hid HN1.out.le
                have HNN := Lib.hid ((HN1.out.alloc (.cells #[.int .u64 0, .int .u64 0] 26)).trans hn2)
                have k0 := hz.c0
                have k1 := hz.c1
                have kf := hz.free
                have HZ := Lib.hid hz
                clear hz)
             | (have hz := Z2.stay (Z2.stay (show Z2 (w5.alloc (.cells #[.int .u64 0, .int .u64 0] 26)).drew w5.heap.size 26 from heap_alloc_new w5 _) HN1.out) hn2
                have HG : Hid (w.heap.size + 1 + 1 < w5.heap.size) := Lib.hid (by omega)
                have HGE : Hid (w5.drew.heap.size ≤ w5.heap.size) := Lib.hid (Nat.le_refl _)
                have HNN : Hid (New w5.drew w2) := Lib.hid (left_drew ((((New.refl w5).alloc (.cells #[.int .u64 0, .int .u64 0] 26)).drew.trans HN1.out).trans hn2))
                have k0 := hz.c0
                have k1 := hz.c1
                have kf := hz.free
                have HZ := Lib.hid hz
                clear hz)
             | (have HNN := Lib.hid (HN1.out.trans hn2)
                have HG := Lib.hid (show w.heap.size + 1 + 1 < w2.heap.size by have := (HN1.out.trans hn2).le; simp at this; omega))
             clear hn2))
        all_goals (
          go_wp2_with fail
          go_meet
          case rel => first
            | exact ⟨_, rfl, HG.out, heap_alloc_new _ _, HNN.out.alloc _⟩
            | exact ⟨_, rfl, HG.out, B2.put _ HZ.out, put2_new _ HNN.out HGE.out⟩)
      case rest =>
        obtain ⟨g2, rfl, hg2, hb, hn⟩ := hcut
        have b0 := hb.c0
        have b1 := hb.c1
        have hz := (HZ5.out.stay (New.refl w5).drew).stay hn
        have k0 := hz.c0
        have k1 := hz.c1
        have kf := hz.free
        have HN := Lib.hid (HN5.out.drew.trans hn)
        clear hb hn hz
        go_wp2
        refine bodyPost_ret (by simp [results, Tryd.results19, go_sem, k0, k1]; try rfl) rfl ?_
        rw [← HR.out]
        exact ⟨rfl, put2_new _ HN.out (by omega)⟩
    · have HR := Lib.hid (HB1.out hd)
      have b0 := HB5.out.c0
      have b1 := HB5.out.c1
      have k0 := HZ5.out.c0
      have k1 := HZ5.out.c1
      have kf := HZ5.out.free
      clear HB1 HB2
      go_wp2
      refine bodyPost_ret (by simp [results, Tryd.results19, go_sem, k0, k1]; try rfl) rfl ?_
      rw [← HR.out]
      exact ⟨rfl, put2_new _ HN5.out (by omega)⟩
end Go.Proofs.YtagidgboebjkhaaDoor
