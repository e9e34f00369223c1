import Derived.Test.YtebcfbcfipmahaaGreatYMadA
import Derived.Test.YtebcfbcfipmahaaGreatGrow
/- Contracts of layer 21: fits, sum. -/
namespace Go.Bv
open Go Go.RowKit
theorem put_two {w : World} {r : Nat} {u v : Value} {T : TypeId} (h l : Value) (hz : w.heap[r]? = some (.cells #[u, v] T (0, 0))) :
    ((w.setCell ⟨r, 0, none⟩ h).setCell ⟨r, 1, none⟩ l).heap[r]? = some (.cells #[h, l] T (0, 0)) ∧ (∀ j, j ≠ r → ((w.setCell ⟨r, 0, none⟩ h).setCell ⟨r, 1, none⟩ l).heap[j]? = w.heap[j]?) := by
  refine ⟨?_, fun j hj => ?_⟩
  · have h1 := heap_setCell_same w r 0 _ _ h hz
    exact heap_setCell_same _ r 1 _ _ l h1
  · rw [heap_setCell_other _ _ _ _ hj, heap_setCell_other _ _ _ _ hj]
end Go.Bv
namespace Go.Proofs.YtebcfbcfipmahaaGreat
open Go.RowKit Go.Bv
set_option linter.unusedVariables false
theorem fits_a (x : BitVec 64) (n : Nat) (w : World) : Calls Tryz.prog 127 #[.int .u64 (W64 x), .int .i64 (n : Int)] w fun e w' => e = .returned (.bool (x >>> n == 0#64)) ∧ New w w' := by
  go_enter Tryz.func127, Tryz.ntmps127
  go_wp2
  go_ret
  exact ⟨rfl, New.refl _⟩
set_option maxRecDepth 100000 in
set_option maxHeartbeats 2000000 in
theorem sum_a (A B wd kd : Nat) (x : BitVec 64) (hA : A < 2 ^ 128) (hB : B < 2 ^ 128) (hwd : wd ≤ 128) (w : World) : Calls Tryz.prog 129 #[.agg #[.int .i64 (wd : Int), .int .i64 (kd : Int), .int .i64 (kd : Int)], .agg #[.int .u64 (W64 (hiN (A))), .int .u64 (W64 (loN (A)))], .agg #[.int .u64 (W64 (hiN (B))), .int .u64 (W64 (loN (B)))], .int .u64 (W64 x)] w fun e w' => e = .returned (.agg #[.int .u64 (W64 (hiN ((A * x.toNat + B) % 2 ^ wd))), .int .u64 (W64 (loN ((A * x.toNat + B) % 2 ^ wd)))]) ∧ New w w' := by
  have h1 := times_n A x.toNat hA (by have := x.isLt; omega)
  rw [hi_word, lo_word, ← hi_mod (A * x.toNat), ← lo_mod (A * x.toNat)] at h1
  have hM : A * x.toNat % 2 ^ 128 < 2 ^ 128 := Nat.mod_lt _ (Nat.two_pow_pos _)
  have h2 := add_a (A * x.toNat % 2 ^ 128) B hM hB
  rw [← hi_mod (A * x.toNat % 2 ^ 128 + B), ← lo_mod (A * x.toNat % 2 ^ 128 + B)] at h2
  have h3 := cut_a ((A * x.toNat % 2 ^ 128 + B) % 2 ^ 128) wd kd (Nat.mod_lt _ (Nat.two_pow_pos _)) hwd
  have e : (A * x.toNat % 2 ^ 128 + B) % 2 ^ 128 % 2 ^ wd = (A * x.toNat + B) % 2 ^ wd := by
    rw [Nat.mod_add_mod]
    exact Nat.mod_mod_of_dvd _ (Nat.pow_dvd_pow 2 hwd)
  rw [e] at h3
  have H1 := Lib.hid h1
  have H2 := Lib.hid h2
  have H3 := Lib.hid h3
  generalize (A * x.toNat + B) % 2 ^ wd = R at *
  generalize (A * x.toNat % 2 ^ 128 + B) % 2 ^ 128 = M2 at *
  generalize A * x.toNat % 2 ^ 128 = M1 at *
  clear h1 h2 h3 e hM hA hB hwd
  obtain ⟨hbl, HNN⟩ := boxes4 w (.cells #[.int .i64 (wd : Int), .int .i64 (kd : Int), .int .i64 (kd : Int)] 133) (.cells #[.int .u64 (W64 (hiN (A))), .int .u64 (W64 (loN (A)))] 63) (.cells #[.int .u64 (W64 (hiN (B))), .int .u64 (W64 (loN (B)))] 63) (.cells #[.int .u64 0, .int .u64 0] 63)
  obtain ⟨hb0, hb1, hb2, hb3⟩ := hbl
  have HN := Lib.hid HNN
  obtain ⟨w0, hw0⟩ : ∃ w0, (((((((w.alloc (.cells #[.int .i64 (wd : Int), .int .i64 (kd : Int), .int .i64 (kd : Int)] 133))).alloc (.cells #[.int .u64 (W64 (hiN (A))), .int .u64 (W64 (loN (A)))] 63))).alloc (.cells #[.int .u64 (W64 (hiN (B))), .int .u64 (W64 (loN (B)))] 63))).alloc (.cells #[.int .u64 0, .int .u64 0] 63)) = w0 := ⟨_, rfl⟩
  rw [hw0] at HN hb0 hb1 hb2 hb3
  have HW0 := Lib.hid hw0
  have HB0 := Lib.hid hb0
  have HB1 := Lib.hid hb1
  have HB2 := Lib.hid hb2
  have HB3 := Lib.hid hb3
  clear hw0 HNN hb0 hb1 hb2 hb3
  go_enter Tryz.func129, Tryz.ntmps129
  go_wp2_with fail
  rw [HW0.out]
  refine Grow.wp_region_growS (fun w' => (w'.heap[w.heap.size]? = some (.cells #[.int .i64 (wd : Int), .int .i64 (kd : Int), .int .i64 (kd : Int)] 133) ∧ w'.heap[(w.heap.size + 1)]? = some (.cells #[.int .u64 (W64 (hiN (A))), .int .u64 (W64 (loN (A)))] 63) ∧ w'.heap[(w.heap.size + 1 + 1)]? = some (.cells #[.int .u64 (W64 (hiN (B))), .int .u64 (W64 (loN (B)))] 63) ∧ ∃ u v, w'.heap[w.heap.size + 1 + 1 + 1]? = some (.cells #[u, v] 63 (0, 0))) ∧ New w w') (fun k => [4, 6, 7, 8].contains k) (by kernel_rfl) (by kernel_rfl) (by kernel_rfl) ⟨⟨HB0.out, HB1.out, HB2.out, ⟨_, _, HB3.out⟩⟩, HN.out.drew⟩ ?_
  intro I _ f hall hback
  have HALL := Lib.hid hall
  have HSTEP : Hid (∀ n w', New (f n) w' → ∃ m, w' = f m) := Lib.hid fun n w' hn => hback w' ⟨⟨(hn.block _ (lt_of_block (hall n).1.1)).trans (hall n).1.1, (hn.block _ (lt_of_block (hall n).1.2.1)).trans (hall n).1.2.1, (hn.block _ (lt_of_block (hall n).1.2.2.1)).trans (hall n).1.2.2.1, (by obtain ⟨u, v, h⟩ := (hall n).1.2.2.2; exact ⟨u, v, (hn.block _ (lt_of_block h)).trans h⟩)⟩, (hall n).2.trans hn⟩
  have HBACK := Lib.hid hback
  have s0 := fun n => cell_of_row _ _ 0 _ _ _ (hall n).1.1
  have s1 := fun n => cell_of_row _ _ 1 _ _ _ (hall n).1.1
  have s2 := fun n => cell_of_row _ _ 2 _ _ _ (hall n).1.1
  have s3 := fun n => cell_of_row _ _ 0 _ _ _ (hall n).1.2.1
  have s4 := fun n => cell_of_row _ _ 1 _ _ _ (hall n).1.2.1
  have s5 := fun n => cell_of_row _ _ 0 _ _ _ (hall n).1.2.2.1
  have s6 := fun n => cell_of_row _ _ 1 _ _ _ (hall n).1.2.2.1
  clear hall hback
  refine Grow.wpGrow_take 4 (by kernel_rfl) ?_
  simp only [List.take, List.drop, List.length]
  repeat (go_big_quiet_step (fail))
  refine wpQuiet_nil ?_
  refine Grow.wpGrow_one (.agg #[.int .u64 (W64 (hiN (M1))), .int .u64 (W64 (loN (M1)))]) rfl rfl (fun w1 hB hG => ?_) (fun A4 hA => ?_)
  · obtain ⟨n, rfl⟩ := hB
    go_simp
    refine (H1.out _).mono ?_
    rintro e w2 ⟨rfl, hn⟩
    first | exact ⟨_, rfl, HSTEP.out _ _ hn, rfl⟩ | exact ⟨rfl, HSTEP.out _ _ hn⟩ | exact ⟨_, rfl, HSTEP.out _ _ hn, rfl, hG⟩
  simp [Act.put] at hA
  subst hA
  refine Grow.wpGrow_take 1 (by kernel_rfl) ?_
  simp only [List.take, List.drop, List.length]
  repeat (go_big_quiet_step (fail))
  refine wpQuiet_nil ?_
  refine Grow.wpGrow_one (.agg #[.int .u64 (W64 (hiN (M2))), .int .u64 (W64 (loN (M2)))]) rfl rfl (fun w1 hB hG => ?_) (fun A4 hA => ?_)
  · obtain ⟨n, rfl⟩ := hB
    go_simp
    refine (H2.out _).mono ?_
    rintro e w2 ⟨rfl, hn⟩
    first | exact ⟨_, rfl, HSTEP.out _ _ hn, rfl⟩ | exact ⟨rfl, HSTEP.out _ _ hn⟩ | exact ⟨_, rfl, HSTEP.out _ _ hn, rfl, hG⟩
  simp [Act.put] at hA
  subst hA
  refine Grow.wpGrow_one (.agg #[.int .u64 (W64 (hiN (R))), .int .u64 (W64 (loN (R)))]) rfl rfl (fun w1 hB hG => ?_) (fun A4 hA => ?_)
  · obtain ⟨n, rfl⟩ := hB
    go_simp
    refine (H3.out _).mono ?_
    rintro e w2 ⟨rfl, hn⟩
    first | exact ⟨_, rfl, HSTEP.out _ _ hn, rfl⟩ | exact ⟨rfl, HSTEP.out _ _ hn⟩ | exact ⟨_, rfl, HSTEP.out _ _ hn, rfl, hG⟩
  simp [Act.put] at hA
  subst hA
  refine Grow.wpGrow_turn (fun v => v = undef) (fun _ w9 => w9.heap[w.heap.size + 1 + 1 + 1]? = some (.cells #[.int .u64 (W64 (hiN (R))), .int .u64 (W64 (loN (R)))] 63)) rfl rfl ⟨_, rfl⟩ (fun w1 hB hG => ?_) (fun v7 A7 hv7 hA => ?_)
  · obtain ⟨n, rfl⟩ := hB
    obtain ⟨⟨hx, hy, hz, u, v, hr⟩, hnw⟩ := HALL.out n
    have hc0 := cell_of_row _ _ 0 _ _ _ hr
    have hc1 := cell_of_row _ _ 1 _ _ _ hr
    have hfr := fun i => frozen_of_row _ _ i _ _ hr
    have HP := Lib.hid (put_two (.int .u64 (W64 (hiN R))) (.int .u64 (W64 (loN R))) hr)
    have HX := Lib.hid hx
    have HY := Lib.hid hy
    have HZZ := Lib.hid hz
    have HNW := Lib.hid hnw
    clear hx hy hz hr hnw
    go_simp
    exact ⟨HBACK.out _ ⟨⟨(HP.out.2 _ (by omega)).trans HX.out, (HP.out.2 _ (by omega)).trans HY.out, (HP.out.2 _ (by omega)).trans HZZ.out, ⟨_, _, HP.out.1⟩⟩, (HNW.out.setCell (by show w.heap.size ≤ w.heap.size + 1 + 1 + 1; omega) _).setCell (by show w.heap.size ≤ w.heap.size + 1 + 1 + 1; omega) _⟩, HP.out.1⟩
  simp [Act.put] at hA
  subst hA
  refine Grow.wpGrow_nil ?_
  rintro w9 ⟨n9, rfl⟩ hG
  have HN9 := Lib.hid (HALL.out n9).2
  have k0 := cell_of_row _ _ 0 _ _ _ hG
  have k1 := cell_of_row _ _ 1 _ _ _ hG
  clear HALL HSTEP HBACK s0 s1 s2 s3 s4 s5 s6 hG
  generalize f n9 = w9 at *
  go_wp2
  refine bodyPost_ret (by simp [results, Tryz.results129, go_sem, k0, k1]; try rfl) rfl ?_
  exact ⟨rfl, HN9.out⟩
end Go.Proofs.YtebcfbcfipmahaaGreat
