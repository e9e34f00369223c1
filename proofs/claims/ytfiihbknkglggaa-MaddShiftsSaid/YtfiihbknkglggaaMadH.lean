/- Contracts of layer 21: sub, headed. -/
import Derived.Test.YtfiihbknkglggaaMadC
namespace Go.Proofs.Ytfiihbknkglggaa
open Go.RowKit Go.Bv
set_option linter.unusedVariables false
set_option maxHeartbeats 1000000 in
theorem sub_a (A B : Nat) (hA : A < 2 ^ 128) (hB : B < 2 ^ 128) (w : World) : Calls Try.prog 27 #[.agg #[.int .u64 (W64 (hiN (A))), .int .u64 (W64 (loN (A)))], .agg #[.int .u64 (W64 (hiN (B))), .int .u64 (W64 (loN (B)))]] w fun e w' => e = .returned (.agg #[.int .u64 (W64 (hiN (A + 2 ^ 128 - B))), .int .u64 (W64 (loN (A + 2 ^ 128 - B)))]) ∧ New w w' := by
  have H1 := Lib.hid (sub_n A B hA hB)
  generalize A + 2 ^ 128 - B = R at *
  generalize decide (A < B) = o at *
  clear hA hB
  obtain ⟨hbl, HNN⟩ := boxes3 w (.cells #[.int .u64 (W64 (hiN (A))), .int .u64 (W64 (loN (A)))] 24) (.cells #[.int .u64 (W64 (hiN (B))), .int .u64 (W64 (loN (B)))] 24) (.cells #[.int .u64 0, .int .u64 0] 24)
  obtain ⟨hb0, hb1, hb2⟩ := hbl
  have HN := Lib.hid HNN
  obtain ⟨w0, hw0⟩ : ∃ w0, (((((w.alloc (.cells #[.int .u64 (W64 (hiN (A))), .int .u64 (W64 (loN (A)))] 24))).alloc (.cells #[.int .u64 (W64 (hiN (B))), .int .u64 (W64 (loN (B)))] 24))).alloc (.cells #[.int .u64 0, .int .u64 0] 24)) = w0 := ⟨_, rfl⟩
  rw [hw0] at HN hb0 hb1 hb2
  have HW0 := Lib.hid hw0
  have HB0 := Lib.hid hb0
  have HB1 := Lib.hid hb1
  have HB2 := Lib.hid hb2
  clear hw0 HNN hb0 hb1 hb2
  have x0 := cell_of_row _ _ 0 _ _ _ HB0.out
  have x1 := cell_of_row _ _ 1 _ _ _ HB0.out
  have y0 := cell_of_row _ _ 0 _ _ _ HB1.out
  have y1 := cell_of_row _ _ 1 _ _ _ HB1.out
  go_enter Try.func27, Try.ntmps27
  go_wp2_with (rw [HW0.out])
  refine (H1.out _).mono ?_
  rintro e w9 ⟨rfl, hn⟩
  replace HN := Lib.hid (HN.out.trans hn)
  replace HB2 := Lib.hid ((hn.block _ (lt_of_block HB2.out)).trans HB2.out)
  clear hn x0 x1 y0 y1
  have hx := heap_alloc_new w9 (.cells #[.int .u64 (W64 (hiN R)), .int .u64 (W64 (loN R))] 24)
  have hn2 := (New.refl w9).alloc (.cells #[.int .u64 (W64 (hiN R)), .int .u64 (W64 (loN R))] 24)
  obtain ⟨wb5, hw2⟩ : ∃ w2, w9.alloc (.cells #[.int .u64 (W64 (hiN R)), .int .u64 (W64 (loN R))] 24) = w2 := ⟨_, rfl⟩
  rw [hw2] at hx hn2
  obtain ⟨q5, hq⟩ : ∃ q, w9.heap.size = q := ⟨_, rfl⟩
  rw [hq] at hx
  have HX5 := Lib.hid hx
  replace HN := Lib.hid (HN.out.trans hn2)
  have HM5 := Lib.hid hn2
  have HE5 := Lib.hid (show w9.alloc (.cells #[.int .u64 (W64 (hiN R)), .int .u64 (W64 (loN R))] 24) = wb5 ∧ w9.heap.size = q5 from ⟨hw2, hq⟩)
  clear hx hn2 hw2 hq
  replace HB2 := Lib.hid ((HM5.out.block _ (lt_of_block HB2.out)).trans HB2.out)
  have k0 := cell_of_row _ _ 0 _ _ _ HB2.out
  have k1 := cell_of_row _ _ 1 _ _ _ HB2.out
  have x0 := cell_of_row _ _ 0 _ _ _ HX5.out
  have x1 := cell_of_row _ _ 1 _ _ _ HX5.out
  have kf := fun i => frozen_of_row _ _ i _ _ HB2.out
  go_wp2_with (rw [HE5.out.1, HE5.out.2])
  refine bodyPost_ret (by simp [results, Try.results27, go_sem, k0, k1]; try rfl) rfl ?_
  exact ⟨rfl, (HN.out.setCell (by show w.heap.size ≤ w.heap.size + 1 + 1; omega) _).setCell (by show w.heap.size ≤ w.heap.size + 1 + 1; omega) _⟩
set_option maxRecDepth 100000 in
set_option maxHeartbeats 2000000 in
theorem headed_a (A wd kd j : Nat) (x : BitVec 64) (hA : A < 2 ^ 128) (hwd : wd ≤ 128) (hj : j ≤ wd) (w : World) : Calls Try.prog 25 #[.agg #[.int .i64 (wd : Int), .int .i64 (kd : Int), .int .i64 (kd : Int)], .agg #[.int .u64 (W64 (hiN (A))), .int .u64 (W64 (loN (A)))], .int .i64 (j : Int), .int .u64 (W64 x)] w fun e w' => e = .returned (.agg #[.int .u64 (W64 (hiN (A % 2 ^ (wd - j) + x.toNat * 2 ^ (wd - j) % 2 ^ 128))), .int .u64 (W64 (loN (A % 2 ^ (wd - j) + x.toNat * 2 ^ (wd - j) % 2 ^ 128)))]) ∧ New w w' := by
  have h1 := lowest_a A (wd - j) hA (by omega)
  have h2 := shl_n x.toNat (wd - j) (by have := x.isLt; omega) (by omega)
  rw [hi_word, lo_word, ← hi_mod (x.toNat * 2 ^ (wd - j)), ← lo_mod (x.toNat * 2 ^ (wd - j))] at h2
  have hL : A % 2 ^ (wd - j) < 2 ^ 128 := Nat.lt_of_le_of_lt (Nat.mod_le _ _) hA
  have h3 := add_a (A % 2 ^ (wd - j)) (x.toNat * 2 ^ (wd - j) % 2 ^ 128) hL (Nat.mod_lt _ (Nat.two_pow_pos _))
  rw [show ((wd - j : Nat) : Int) = (wd : Int) - (j : Int) by omega] at h1 h2
  have hw : wrap64 ((wd : Int) - (j : Int)) = (wd : Int) - (j : Int) := by unfold wrap64; omega
  have hw2 : IntKind.i64.wrap ((wd : Int) - (j : Int)) = (wd : Int) - (j : Int) := by first | (rw [IntKind.wrap_i64]; exact hw) | (simp [IntKind.wrap, IntKind.signed, IntKind.bits]; omega)
  generalize A % 2 ^ (wd - j) + x.toNat * 2 ^ (wd - j) % 2 ^ 128 = R at *
  generalize x.toNat * 2 ^ (wd - j) % 2 ^ 128 = M at *
  generalize A % 2 ^ (wd - j) = L at *
  have H1 := Lib.hid h1
  have H2 := Lib.hid h2
  have H3 := Lib.hid h3
  clear h1 h2 h3 hL hA hwd hj
  obtain ⟨hbl, HNN⟩ := boxes3 w (.cells #[.int .i64 (wd : Int), .int .i64 (kd : Int), .int .i64 (kd : Int)] 41) (.cells #[.int .u64 (W64 (hiN (A))), .int .u64 (W64 (loN (A)))] 24) (.cells #[.int .u64 0, .int .u64 0] 24)
  obtain ⟨hb0, hb1, hb2⟩ := hbl
  have HN := Lib.hid HNN
  obtain ⟨w0, hw0⟩ : ∃ w0, (((((w.alloc (.cells #[.int .i64 (wd : Int), .int .i64 (kd : Int), .int .i64 (kd : Int)] 41))).alloc (.cells #[.int .u64 (W64 (hiN (A))), .int .u64 (W64 (loN (A)))] 24))).alloc (.cells #[.int .u64 0, .int .u64 0] 24)) = w0 := ⟨_, rfl⟩
  rw [hw0] at HN hb0 hb1 hb2
  have HW0 := Lib.hid hw0
  have HB0 := Lib.hid hb0
  have HB1 := Lib.hid hb1
  have HB2 := Lib.hid hb2
  clear hw0 HNN hb0 hb1 hb2
  have s0 := cell_of_row _ _ 0 _ _ _ HB0.out
  have s1 := cell_of_row _ _ 1 _ _ _ HB0.out
  have s2 := cell_of_row _ _ 2 _ _ _ HB0.out
  have x0 := cell_of_row _ _ 0 _ _ _ HB1.out
  have x1 := cell_of_row _ _ 1 _ _ _ HB1.out
  go_enter Try.func25, Try.ntmps25
  go_wp2_with (rw [HW0.out])
  refine (H1.out _).mono ?_
  rintro e w9 ⟨rfl, hn⟩
  replace HN := Lib.hid (HN.out.trans hn)
  replace HB0 := Lib.hid ((hn.block _ (lt_of_block HB0.out)).trans HB0.out)
  replace HB2 := Lib.hid ((hn.block _ (lt_of_block HB2.out)).trans HB2.out)
  clear hn x0 x1 s0 s1 s2
  have HLT := Lib.hid (lt_of_block HB2.out)
  have hx := heap_alloc_new w9 (.cells #[.int .u64 (W64 (hiN L)), .int .u64 (W64 (loN L))] 24)
  have hn2 := (New.refl w9).alloc (.cells #[.int .u64 (W64 (hiN L)), .int .u64 (W64 (loN L))] 24)
  obtain ⟨wb5, hw2⟩ : ∃ w2, w9.alloc (.cells #[.int .u64 (W64 (hiN L)), .int .u64 (W64 (loN L))] 24) = w2 := ⟨_, rfl⟩
  rw [hw2] at hx hn2
  obtain ⟨q5, hq⟩ : ∃ q, w9.heap.size = q := ⟨_, rfl⟩
  rw [hq] at hx
  have HX5 := Lib.hid hx
  replace HN := Lib.hid (HN.out.trans hn2)
  have HM5 := Lib.hid hn2
  have HE5 := Lib.hid (show w9.alloc (.cells #[.int .u64 (W64 (hiN L)), .int .u64 (W64 (loN L))] 24) = wb5 ∧ w9.heap.size = q5 from ⟨hw2, hq⟩)
  clear hx hn2 hw2 hq
  replace HB0 := Lib.hid ((HM5.out.block _ (lt_of_block HB0.out)).trans HB0.out)
  replace HB2 := Lib.hid ((HM5.out.block _ (lt_of_block HB2.out)).trans HB2.out)
  go_wp2_with (rw [HE5.out.1, HE5.out.2])
  have HQ5 : Hid (¬ q5 = w.heap.size + 1 + 1) := Lib.hid (by have h1 := HLT.out; have h2 := HE5.out.2; omega)
  refine Grow.wp_region_growS (fun w' => (w'.heap[w.heap.size]? = some (.cells #[.int .i64 (wd : Int), .int .i64 (kd : Int), .int .i64 (kd : Int)] 41) ∧ w'.heap[q5]? = some (.cells #[.int .u64 (W64 (hiN (L))), .int .u64 (W64 (loN (L)))] 24) ∧ ∃ u v, w'.heap[w.heap.size + 1 + 1]? = some (.cells #[u, v] 24 (0, 0))) ∧ New w w') (fun k => [7, 8, 9].contains k) (by kernel_rfl) (by kernel_rfl) (by kernel_rfl) ⟨⟨HB0.out, HX5.out, ⟨_, _, HB2.out⟩⟩, HN.out.drew⟩ ?_
  intro I _ f hall hback
  have HALL := Lib.hid hall
  have HSTEP : Hid (∀ n w', New (f n) w' → ∃ m, w' = f m) := Lib.hid fun n w' hn => hback w' ⟨⟨(hn.block _ (lt_of_block (hall n).1.1)).trans (hall n).1.1, (hn.block _ (lt_of_block (hall n).1.2.1)).trans (hall n).1.2.1, (by obtain ⟨u, v, h⟩ := (hall n).1.2.2; exact ⟨u, v, (hn.block _ (lt_of_block h)).trans h⟩)⟩, (hall n).2.trans hn⟩
  have HBACK := Lib.hid hback
  have s0 := fun n => cell_of_row _ _ 0 _ _ _ (hall n).1.1
  have s3 := fun n => cell_of_row _ _ 0 _ _ _ (hall n).1.2.1
  have s4 := fun n => cell_of_row _ _ 1 _ _ _ (hall n).1.2.1
  clear hall hback
  refine Grow.wpGrow_take 7 (by kernel_rfl) ?_
  simp only [List.take, List.drop, List.length]
  repeat (go_big_quiet_step (fail))
  refine wpQuiet_nil ?_
  refine Grow.wpGrow_one (.agg #[.int .u64 (W64 (hiN (M))), .int .u64 (W64 (loN (M)))]) rfl rfl (fun w1 hB hG => ?_) (fun A4 hA => ?_)
  · obtain ⟨n, rfl⟩ := hB
    go_simp
    refine (H2.out _).mono ?_
    rintro e w2 ⟨rfl, hn⟩
    first | exact ⟨_, rfl, HSTEP.out _ _ hn, rfl⟩ | exact ⟨rfl, HSTEP.out _ _ hn⟩ | exact ⟨_, rfl, HSTEP.out _ _ hn, rfl, hG⟩
  simp [Act.put] at hA
  subst hA
  refine Grow.wpGrow_one (.agg #[.int .u64 (W64 (hiN (R))), .int .u64 (W64 (loN (R)))]) rfl rfl (fun w1 hB hG => ?_) (fun A4 hA => ?_)
  · obtain ⟨n, rfl⟩ := hB
    go_simp
    refine (H3.out _).mono ?_
    rintro e w2 ⟨rfl, hn⟩
    first | exact ⟨_, rfl, HSTEP.out _ _ hn, rfl⟩ | exact ⟨rfl, HSTEP.out _ _ hn⟩ | exact ⟨_, rfl, HSTEP.out _ _ hn, rfl, hG⟩
  simp [Act.put] at hA
  subst hA
  refine Grow.wpGrow_turn (fun v => v = undef) (fun _ w9 => w9.heap[w.heap.size + 1 + 1]? = some (.cells #[.int .u64 (W64 (hiN (R))), .int .u64 (W64 (loN (R)))] 24)) rfl rfl ⟨_, rfl⟩ (fun w1 hB hG => ?_) (fun v7 A7 hv7 hA => ?_)
  · obtain ⟨n, rfl⟩ := hB
    obtain ⟨⟨hx, hy, u, v, hr⟩, hnw⟩ := HALL.out n
    have hc0 := cell_of_row _ _ 0 _ _ _ hr
    have hc1 := cell_of_row _ _ 1 _ _ _ hr
    have hfr := fun i => frozen_of_row _ _ i _ _ hr
    have HP := Lib.hid (put_two (.int .u64 (W64 (hiN R))) (.int .u64 (W64 (loN R))) hr)
    have HX := Lib.hid hx
    have HY := Lib.hid hy
    have HNW := Lib.hid hnw
    clear hx hy hr hnw
    go_simp
    exact ⟨HBACK.out _ ⟨⟨(HP.out.2 _ (by omega)).trans HX.out, (HP.out.2 _ HQ5.out).trans HY.out, ⟨_, _, HP.out.1⟩⟩, (HNW.out.setCell (by show w.heap.size ≤ w.heap.size + 1 + 1; omega) _).setCell (by show w.heap.size ≤ w.heap.size + 1 + 1; omega) _⟩, HP.out.1⟩
  simp [Act.put] at hA
  subst hA
  refine Grow.wpGrow_nil ?_
  rintro w9 ⟨n9, rfl⟩ hG
  have HN9 := Lib.hid (HALL.out n9).2
  have k0 := cell_of_row _ _ 0 _ _ _ hG
  have k1 := cell_of_row _ _ 1 _ _ _ hG
  clear HALL HSTEP HBACK s0 s3 s4 hG
  generalize f n9 = w9 at *
  go_wp2
  refine bodyPost_ret (by simp [results, Try.results25, go_sem, k0, k1]; try rfl) rfl ?_
  exact ⟨rfl, HN9.out⟩
end Go.Proofs.Ytfiihbknkglggaa
