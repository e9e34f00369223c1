import Derived.Test.YtebcfbcfipmahaaGreatZ3MadB
import Derived.Test.YtebcfbcfipmahaaGreatZ3Grow
import Derived.Test.YtebcfbcfipmahaaGreatZ3WidS
section
/- Contracts of layer 21: fits, sum. -/
namespace Go.Bv
open Go Go.RowKit
theorem put_two {w : World} {r : Nat} {u v : Value} {T : TypeId} (h l : Value) (hz : w.heap[r]? = some (.cells #[u, v] T (0, 0))) :
    ((w.setCell ⟨r, 0, none⟩ h).setCell ⟨r, 1, none⟩ l).heap[r]? = some (.cells #[h, l] T (0, 0)) ∧ (∀ j, j ≠ r → ((w.setCell ⟨r, 0, none⟩ h).setCell ⟨r, 1, none⟩ l).heap[j]? = w.heap[j]?) := by
  refine ⟨?_, fun j hj => ?_⟩
  · have h1 := heap_setCell_same w r 0 _ _ h hz
    exact heap_setCell_same _ r 1 _ _ l h1
  · rw [heap_setCell_other _ _ _ _ hj, heap_setCell_other _ _ _ _ hj]
end Go.Bv
namespace Go.Proofs.YtebcfbcfipmahaaGreat
open Go.RowKit Go.Bv
set_option linter.unusedVariables false
theorem fits_a (x : BitVec 64) (n : Nat) (w : World) : Calls Tryz.prog 127 #[.int .u64 (W64 x), .int .i64 (n : Int)] w fun e w' => e = .returned (.bool (x >>> n == 0#64)) ∧ New w w' := by
  go_enter Tryz.func127, Tryz.ntmps127
  go_wp2
  go_ret
  exact ⟨rfl, New.refl _⟩
set_option maxRecDepth 100000 in
set_option maxHeartbeats 2000000 in
theorem sum_a (A B wd kd : Nat) (x : BitVec 64) (hA : A < 2 ^ 128) (hB : B < 2 ^ 128) (hwd : wd ≤ 128) (w : World) : Calls Tryz.prog 129 #[.agg #[.int .i64 (wd : Int), .int .i64 (kd : Int), .int .i64 (kd : Int)], .agg #[.int .u64 (W64 (hiN (A))), .int .u64 (W64 (loN (A)))], .agg #[.int .u64 (W64 (hiN (B))), .int .u64 (W64 (loN (B)))], .int .u64 (W64 x)] w fun e w' => e = .returned (.agg #[.int .u64 (W64 (hiN ((A * x.toNat + B) % 2 ^ wd))), .int .u64 (W64 (loN ((A * x.toNat + B) % 2 ^ wd)))]) ∧ New w w' := by
  have h1 := times_n A x.toNat hA (by have := x.isLt; omega)
  rw [hi_word, lo_word, ← hi_mod (A * x.toNat), ← lo_mod (A * x.toNat)] at h1
  have hM : A * x.toNat % 2 ^ 128 < 2 ^ 128 := Nat.mod_lt _ (Nat.two_pow_pos _)
  have h2 := add_a (A * x.toNat % 2 ^ 128) B hM hB
  rw [← hi_mod (A * x.toNat % 2 ^ 128 + B), ← lo_mod (A * x.toNat % 2 ^ 128 + B)] at h2
  have h3 := cut_a ((A * x.toNat % 2 ^ 128 + B) % 2 ^ 128) wd kd (Nat.mod_lt _ (Nat.two_pow_pos _)) hwd
  have e : (A * x.toNat % 2 ^ 128 + B) % 2 ^ 128 % 2 ^ wd = (A * x.toNat + B) % 2 ^ wd := by
    rw [Nat.mod_add_mod]
    exact Nat.mod_mod_of_dvd _ (Nat.pow_dvd_pow 2 hwd)
  rw [e] at h3
  have H1 := Lib.hid h1
  have H2 := Lib.hid h2
  have H3 := Lib.hid h3
  generalize (A * x.toNat + B) % 2 ^ wd = R at *
  generalize (A * x.toNat % 2 ^ 128 + B) % 2 ^ 128 = M2 at *
  generalize A * x.toNat % 2 ^ 128 = M1 at *
  clear h1 h2 h3 e hM hA hB hwd
  obtain ⟨hbl, HNN⟩ := boxes4 w (.cells #[.int .i64 (wd : Int), .int .i64 (kd : Int), .int .i64 (kd : Int)] 133) (.cells #[.int .u64 (W64 (hiN (A))), .int .u64 (W64 (loN (A)))] 63) (.cells #[.int .u64 (W64 (hiN (B))), .int .u64 (W64 (loN (B)))] 63) (.cells #[.int .u64 0, .int .u64 0] 63)
  obtain ⟨hb0, hb1, hb2, hb3⟩ := hbl
  have HN := Lib.hid HNN
  obtain ⟨w0, hw0⟩ : ∃ w0, (((((((w.alloc (.cells #[.int .i64 (wd : Int), .int .i64 (kd : Int), .int .i64 (kd : Int)] 133))).alloc (.cells #[.int .u64 (W64 (hiN (A))), .int .u64 (W64 (loN (A)))] 63))).alloc (.cells #[.int .u64 (W64 (hiN (B))), .int .u64 (W64 (loN (B)))] 63))).alloc (.cells #[.int .u64 0, .int .u64 0] 63)) = w0 := ⟨_, rfl⟩
  rw [hw0] at HN hb0 hb1 hb2 hb3
  have HW0 := Lib.hid hw0
  have HB0 := Lib.hid hb0
  have HB1 := Lib.hid hb1
  have HB2 := Lib.hid hb2
  have HB3 := Lib.hid hb3
  clear hw0 HNN hb0 hb1 hb2 hb3
  go_enter Tryz.func129, Tryz.ntmps129
  go_wp2_with fail
  rw [HW0.out]
  refine Grow.wp_region_growS (fun w' => (w'.heap[w.heap.size]? = some (.cells #[.int .i64 (wd : Int), .int .i64 (kd : Int), .int .i64 (kd : Int)] 133) ∧ w'.heap[(w.heap.size + 1)]? = some (.cells #[.int .u64 (W64 (hiN (A))), .int .u64 (W64 (loN (A)))] 63) ∧ w'.heap[(w.heap.size + 1 + 1)]? = some (.cells #[.int .u64 (W64 (hiN (B))), .int .u64 (W64 (loN (B)))] 63) ∧ ∃ u v, w'.heap[w.heap.size + 1 + 1 + 1]? = some (.cells #[u, v] 63 (0, 0))) ∧ New w w') (fun k => [4, 6, 7, 8].contains k) (by kernel_rfl) (by kernel_rfl) (by kernel_rfl) ⟨⟨HB0.out, HB1.out, HB2.out, ⟨_, _, HB3.out⟩⟩, HN.out.drew⟩ ?_
  intro I _ f hall hback
  have HALL := Lib.hid hall
  have HSTEP : Hid (∀ n w', New (f n) w' → ∃ m, w' = f m) := Lib.hid fun n w' hn => hback w' ⟨⟨(hn.block _ (lt_of_block (hall n).1.1)).trans (hall n).1.1, (hn.block _ (lt_of_block (hall n).1.2.1)).trans (hall n).1.2.1, (hn.block _ (lt_of_block (hall n).1.2.2.1)).trans (hall n).1.2.2.1, (by obtain ⟨u, v, h⟩ := (hall n).1.2.2.2; exact ⟨u, v, (hn.block _ (lt_of_block h)).trans h⟩)⟩, (hall n).2.trans hn⟩
  have HBACK := Lib.hid hback
  have s0 := fun n => cell_of_row _ _ 0 _ _ _ (hall n).1.1
  have s1 := fun n => cell_of_row _ _ 1 _ _ _ (hall n).1.1
  have s2 := fun n => cell_of_row _ _ 2 _ _ _ (hall n).1.1
  have s3 := fun n => cell_of_row _ _ 0 _ _ _ (hall n).1.2.1
  have s4 := fun n => cell_of_row _ _ 1 _ _ _ (hall n).1.2.1
  have s5 := fun n => cell_of_row _ _ 0 _ _ _ (hall n).1.2.2.1
  have s6 := fun n => cell_of_row _ _ 1 _ _ _ (hall n).1.2.2.1
  clear hall hback
  refine Grow.wpGrow_take 4 (by kernel_rfl) ?_
  simp only [List.take, List.drop, List.length]
  repeat (go_big_quiet_step (fail))
  refine wpQuiet_nil ?_
  refine Grow.wpGrow_one (.agg #[.int .u64 (W64 (hiN (M1))), .int .u64 (W64 (loN (M1)))]) rfl rfl (fun w1 hB hG => ?_) (fun A4 hA => ?_)
  · obtain ⟨n, rfl⟩ := hB
    go_simp
    refine (H1.out _).mono ?_
    rintro e w2 ⟨rfl, hn⟩
    first | exact ⟨_, rfl, HSTEP.out _ _ hn, rfl⟩ | exact ⟨rfl, HSTEP.out _ _ hn⟩ | exact ⟨_, rfl, HSTEP.out _ _ hn, rfl, hG⟩
  simp [Act.put] at hA
  subst hA
  refine Grow.wpGrow_take 1 (by kernel_rfl) ?_
  simp only [List.take, List.drop, List.length]
  repeat (go_big_quiet_step (fail))
  refine wpQuiet_nil ?_
  refine Grow.wpGrow_one (.agg #[.int .u64 (W64 (hiN (M2))), .int .u64 (W64 (loN (M2)))]) rfl rfl (fun w1 hB hG => ?_) (fun A4 hA => ?_)
  · obtain ⟨n, rfl⟩ := hB
    go_simp
    refine (H2.out _).mono ?_
    rintro e w2 ⟨rfl, hn⟩
    first | exact ⟨_, rfl, HSTEP.out _ _ hn, rfl⟩ | exact ⟨rfl, HSTEP.out _ _ hn⟩ | exact ⟨_, rfl, HSTEP.out _ _ hn, rfl, hG⟩
  simp [Act.put] at hA
  subst hA
  refine Grow.wpGrow_one (.agg #[.int .u64 (W64 (hiN (R))), .int .u64 (W64 (loN (R)))]) rfl rfl (fun w1 hB hG => ?_) (fun A4 hA => ?_)
  · obtain ⟨n, rfl⟩ := hB
    go_simp
    refine (H3.out _).mono ?_
    rintro e w2 ⟨rfl, hn⟩
    first | exact ⟨_, rfl, HSTEP.out _ _ hn, rfl⟩ | exact ⟨rfl, HSTEP.out _ _ hn⟩ | exact ⟨_, rfl, HSTEP.out _ _ hn, rfl, hG⟩
  simp [Act.put] at hA
  subst hA
  refine Grow.wpGrow_turn (fun v => v = undef) (fun _ w9 => w9.heap[w.heap.size + 1 + 1 + 1]? = some (.cells #[.int .u64 (W64 (hiN (R))), .int .u64 (W64 (loN (R)))] 63)) rfl rfl ⟨_, rfl⟩ (fun w1 hB hG => ?_) (fun v7 A7 hv7 hA => ?_)
  · obtain ⟨n, rfl⟩ := hB
    obtain ⟨⟨hx, hy, hz, u, v, hr⟩, hnw⟩ := HALL.out n
    have hc0 := cell_of_row _ _ 0 _ _ _ hr
    have hc1 := cell_of_row _ _ 1 _ _ _ hr
    have hfr := fun i => frozen_of_row _ _ i _ _ hr
    have HP := Lib.hid (put_two (.int .u64 (W64 (hiN R))) (.int .u64 (W64 (loN R))) hr)
    have HX := Lib.hid hx
    have HY := Lib.hid hy
    have HZZ := Lib.hid hz
    have HNW := Lib.hid hnw
    clear hx hy hz hr hnw
    go_simp
    exact ⟨HBACK.out _ ⟨⟨(HP.out.2 _ (by omega)).trans HX.out, (HP.out.2 _ (by omega)).trans HY.out, (HP.out.2 _ (by omega)).trans HZZ.out, ⟨_, _, HP.out.1⟩⟩, (HNW.out.setCell (by show w.heap.size ≤ w.heap.size + 1 + 1 + 1; omega) _).setCell (by show w.heap.size ≤ w.heap.size + 1 + 1 + 1; omega) _⟩, HP.out.1⟩
  simp [Act.put] at hA
  subst hA
  refine Grow.wpGrow_nil ?_
  rintro w9 ⟨n9, rfl⟩ hG
  have HN9 := Lib.hid (HALL.out n9).2
  have k0 := cell_of_row _ _ 0 _ _ _ hG
  have k1 := cell_of_row _ _ 1 _ _ _ hG
  clear HALL HSTEP HBACK s0 s1 s2 s3 s4 s5 s6 hG
  generalize f n9 = w9 at *
  go_wp2
  refine bodyPost_ret (by simp [results, Tryz.results129, go_sem, k0, k1]; try rfl) rfl ?_
  exact ⟨rfl, HN9.out⟩
end Go.Proofs.YtebcfbcfipmahaaGreat
end
section
/- Layer 22: checkRows, where nothing is wrong. -/
namespace Go.Proofs.YtebcfbcfipmahaaGreat
open Go Go.RowKit Go.Bv Go.Tab
set_option linter.unusedVariables false
set_option maxRecDepth 100000
theorem xs_sm (l : List (BitVec 64)) (R : Nat → List Int) (i : Nat) : ∀ m : Nat, xs l (R i) m = sm (fun j => l.getD j 0) (rn R i) m
  | 0 => rfl
  | m + 1 => by
    show xs l (R i) m ^^^ _ = sm _ (rn R i) m ^^^ _
    rw [xs_sm l R i m]; rfl
theorem Rws.get2 {w : World} {g gf n m : Nat} {R : Nat → List Int} (h : Rws w g gf n m R) {i : Nat} (hi : i < n) : ∃ a c, (∀ w', New w w' → w'.cell? ⟨g, gf + i, none⟩ = some (.slice a m c)) ∧ ZRow w a m c (R i) := by
  obtain ⟨a, c, e, hz⟩ := h i hi
  exact ⟨a, c, fun w' hn => zcell e hn, hz⟩
set_option maxHeartbeats 8000000 in
theorem check_rows_ok (a : Option Addr) (nw ca : Nat) (l : List (BitVec 64)) (g gf n cg m : Nat) (hcg : n ≤ cg) (hn : n ≤ 3) (hn0 : 0 < n) (hm0 : 0 < m) (hm : m ≤ 17592186044416) (R : Nat → List Int) (hf : ∀ i, i < n → fitE l.length (R i) = 0) (hd : ∀ i j, i < n → j < n → i ≠ j → R i ≠ R j) (b : Option Addr) (cb : Nat) (w : World) (ha : QRow w a nw ca l) (h : Rws w g gf n m R) :
    Calls Tryz.prog 136 #[.slice a nw ca, .slice (some ⟨g, gf, none⟩) n cg, .slice b n cb] w fun e w' => e = .returned (.int .i64 0) ∧ New w w' := by
  have h1 : ((n : Int) == 0) = false := by rw [beq_eq_false_iff_ne]; omega
  have h2 : ¬ (3 : Int) < (n : Int) := by omega
  have h3 : (0 : Int) < (n : Int) := by omega
  have h4 : ((m : Int) == 0) = false := by rw [beq_eq_false_iff_ne]; omega
  have HA := Lib.hid ha
  have HR := Lib.hid h
  have HF := Lib.hid hf
  have HD := Lib.hid hd
  obtain ⟨a0, c0, f0, y0⟩ := h.get0 hn0
  clear ha h hf hd y0
  go_enter Tryz.func136, Tryz.ntmps136
  go_wp2
  go_loopw [41] (fun iv wr => ∃ k : Nat, k ≤ n ∧ iv = .int .i64 (k : Int) ∧ New w wr) (fun iv _ => n - (intOf iv).toNat)
  case atStart => exact ⟨0, Nat.zero_le _, rfl, New.refl _⟩
  case round =>
    obtain ⟨k, hk, rfl, hnew⟩ := hrel
    by_cases hlt : (k : Int) < (n : Int)
    · have hk0 : (0 : Int) ≤ (k : Int) := by omega
      obtain ⟨a1, c1, f1, y1⟩ := (HR.out.stay hnew).get (show k < n by omega)
      obtain ⟨a2, c2, f2, y2⟩ := (HR.out.stay hnew).get0 hn0
      clear y1 y2 f0
      have HN := Lib.hid hnew
      clear hnew
      go_wp2
      exact ⟨⟨k + 1, by omega, by go_num, HN.out⟩, by simp [intOf]; omega⟩
    · obtain rfl : k = n := by omega
      have HN := Lib.hid hnew
      clear hnew f0
      go_wp2
      go_loopw [55] (fun iv wr => ∃ i : Nat, i ≤ k ∧ iv = .int .i64 (i : Int) ∧ New w wr) (fun iv _ => k - (intOf iv).toNat)
      case atStart => exact ⟨0, Nat.zero_le _, rfl, HN.out⟩
      case round =>
        obtain ⟨i, hi2, rfl, hnew⟩ := hrel
        by_cases hlt2 : (i : Int) < (k : Int)
        · have hi0 : (0 : Int) ≤ (i : Int) := by omega
          obtain ⟨a1, c1, f1, y1⟩ := (HR.out.stay hnew).get (show i < k by omega)
          have HS := Lib.hid (fun w' (hn' : New w w') (hz : ZRow w' a1 m c1 (R i)) => sum_any a a1 nw ca m c1 l (R i) w' (HA.out.stay hn') hz)
          rw [HF.out i (by omega)] at HS
          have HY := Lib.hid y1
          have HN2 := Lib.hid hnew
          clear y1 hnew
          go_wp2_with fail
          refine (HS.out _ HN2.out HY.out).mono ?_
          rintro e w5 ⟨rfl, n5⟩
          have HN5 := Lib.hid (HN2.out.trans n5)
          clear n5 HS f1
          go_wp2
          exact ⟨⟨i + 1, by omega, by go_num, HN5.out⟩, by simp [intOf]; omega⟩
        · have HN2 := Lib.hid hnew
          clear hnew
          go_wp2
          go_loopw [71] (fun iv wr => ∃ i : Nat, i ≤ k ∧ iv = .int .i64 (i : Int) ∧ New w wr) (fun iv _ => k - (intOf iv).toNat)
          case atStart => exact ⟨0, Nat.zero_le _, rfl, HN2.out⟩
          case round =>
            obtain ⟨i3, hi3, rfl, hnew⟩ := hrel
            by_cases hlt3 : (i3 : Int) < (k : Int)
            · have hi0 : (0 : Int) ≤ (i3 : Int) := by omega
              have hi0k : (i3 : Int) ≤ (cg : Int) := by omega
              obtain ⟨a1, c1, f1, y1⟩ := HR.out.get2 (show i3 < k by omega)
              replace f1 := f1 _ hnew
              have HY1 := Lib.hid y1
              have HN3 := Lib.hid hnew
              clear hnew y1
              go_wp2
              go_loopw [80] (fun iv wr => ∃ j : Nat, j ≤ i3 ∧ iv = .int .i64 (j : Int) ∧ New w wr) (fun iv _ => i3 - (intOf iv).toNat)
              case atStart => exact ⟨0, Nat.zero_le _, rfl, HN3.out⟩
              case round =>
                obtain ⟨j, hj, rfl, hnew⟩ := hrel
                by_cases hlt4 : (j : Int) < (i3 : Int)
                · have hj0 : (0 : Int) ≤ (j : Int) := by omega
                  obtain ⟨a5, c5, f5, y5⟩ := HR.out.get2 (show j < k by omega)
                  replace f5 := f5 _ hnew
                  have HE := Lib.hid (equal_any a1 a5 m c1 c5 (R i3) (R j) _ (HY1.out.stay hnew) (y5.stay hnew))
                  rw [beq_eq_false_iff_ne.2 (HD.out i3 j (by omega) (by omega) (by omega))] at HE
                  have HN4 := Lib.hid hnew
                  clear hnew y5 f1
                  go_wp2_with fail
                  refine HE.out.mono ?_
                  rintro e w5 ⟨rfl, n5⟩
                  have HN5 := Lib.hid (HN4.out.trans n5)
                  clear n5 HE f5
                  go_wp2
                  exact ⟨⟨j + 1, by omega, by go_num, HN5.out⟩, by simp [intOf]; omega⟩
                · have HN4 := Lib.hid hnew
                  clear hnew f1
                  go_wp2
                  exact ⟨⟨i3 + 1, by omega, by go_num, HN4.out⟩, by simp [intOf]; omega⟩
            · have HN3 := Lib.hid hnew
              clear hnew
              go_wp2
              go_ret
              exact ⟨rfl, HN3.out⟩
end Go.Proofs.YtebcfbcfipmahaaGreat
end
section
/- Layer 22: Aim, where nothing is wrong. -/
namespace Go.Proofs.YtebcfbcfipmahaaGreat
open Go Go.RowKit Go.Bv Go.Tab
set_option linter.unusedVariables false
set_option maxRecDepth 100000
/-- the last places of a list, from k on: their changes -/
def chK (m : Nat) (R : Nat → List Int) (by_ : Nat → BitVec 64) (pl : List (Nat × Nat)) (k : Nat) : Nat → BitVec 64 := aimF m (rn R) by_ (pl.drop k)
theorem chK_step (m : Nat) (R : Nat → List Int) (by_ : Nat → BitVec 64) (pl : List (Nat × Nat)) (k : Nat) (hk : k < pl.length) : chK m R by_ pl k = aim1 m (rn R) by_ (chK m R by_ pl (k + 1)) pl[k] := by
  unfold chK
  rw [List.drop_eq_getElem_cons hk]
  rfl
theorem chK_end (m : Nat) (R : Nat → List Int) (by_ : Nat → BitVec 64) (pl : List (Nat × Nat)) : chK m R by_ pl pl.length = fun _ => 0#64 := by
  unfold chK
  rw [List.drop_length]
  rfl
theorem plCs_get : ∀ (l : List (Nat × Nat)) (i : Nat) (h : i < l.length), (plCs l)[i * 2]? = some (.int .i64 (l[i].1 : Int)) ∧ (plCs l)[i * 2 + 1]? = some (.int .i64 (l[i].2 : Int))
  | [], i, h => absurd h (by simp)
  | x :: l, 0, h => ⟨rfl, rfl⟩
  | x :: l, i + 1, h => by
    have ih := plCs_get l i (by simpa using h)
    have e : plCs (x :: l) = plC x ++ plCs l := rfl
    rw [e]
    have h2 : (plC x).length = 2 := rfl
    constructor
    · rw [List.getElem?_append_right (by omega), h2, show (i + 1) * 2 - 2 = i * 2 by omega]; exact ih.1
    · rw [List.getElem?_append_right (by omega), h2, show (i + 1) * 2 + 1 - 2 = i * 2 + 1 by omega]; exact ih.2
end Go.Proofs.YtebcfbcfipmahaaGreat
end
