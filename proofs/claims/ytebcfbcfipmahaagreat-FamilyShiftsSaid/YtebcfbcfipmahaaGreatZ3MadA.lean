import Derived.Test.YtebcfbcfipmahaaGreatZ3PolM
import Derived.Test.YtebcfbcfipmahaaGreatZ3BitQ
import Derived.Test.YtebcfbcfipmahaaGreatZ3WidS
import Derived.Deep.RegionHeld3
import Derived.Deep.DeepCutAuto
section
/- Contracts of layer 21: shapes, the lowest bits, sums. -/
namespace Go.Bv
open Go Go.RowKit
theorem boxes2 (w : World) (A0 A1 : Obj) : (((w.alloc A0).alloc A1).heap[w.heap.size]? = some A0 ∧ ((w.alloc A0).alloc A1).heap[w.heap.size+ 1]? = some A1) ∧ New w ((w.alloc A0).alloc A1) := by
  have e1 : (w.alloc A0).heap.size = w.heap.size + 1 := by simp
  have e2 : ((w.alloc A0).alloc A1).heap.size = w.heap.size + 1 + 1 := by simp
  exact ⟨⟨(((((New.refl (w.alloc A0))).alloc A1)).block _ (by rw [e1]; omega)).trans (heap_alloc_new _ _), (((New.refl ((w.alloc A0).alloc A1))).block _ (by rw [e2]; omega)).trans (by rw [← e1]; exact heap_alloc_new _ _)⟩, (((New.refl w).alloc A0).alloc A1)⟩
theorem boxes3 (w : World) (A0 A1 A2 : Obj) : ((((w.alloc A0).alloc A1).alloc A2).heap[w.heap.size]? = some A0 ∧ (((w.alloc A0).alloc A1).alloc A2).heap[w.heap.size+ 1]? = some A1 ∧ (((w.alloc A0).alloc A1).alloc A2).heap[w.heap.size+ 1+ 1]? = some A2) ∧ New w (((w.alloc A0).alloc A1).alloc A2) := by
  have e1 : (w.alloc A0).heap.size = w.heap.size + 1 := by simp
  have e2 : ((w.alloc A0).alloc A1).heap.size = w.heap.size + 1 + 1 := by simp
  have e3 : (((w.alloc A0).alloc A1).alloc A2).heap.size = w.heap.size + 1 + 1 + 1 := by simp
  exact ⟨⟨(((((((New.refl (w.alloc A0))).alloc A1)).alloc A2)).block _ (by rw [e1]; omega)).trans (heap_alloc_new _ _), (((((New.refl ((w.alloc A0).alloc A1))).alloc A2)).block _ (by rw [e2]; omega)).trans (by rw [← e1]; exact heap_alloc_new _ _), (((New.refl (((w.alloc A0).alloc A1).alloc A2))).block _ (by rw [e3]; omega)).trans (by rw [← e2]; exact heap_alloc_new _ _)⟩, ((((New.refl w).alloc A0).alloc A1).alloc A2)⟩
theorem boxes4 (w : World) (A0 A1 A2 A3 : Obj) : (((((w.alloc A0).alloc A1).alloc A2).alloc A3).heap[w.heap.size]? = some A0 ∧ ((((w.alloc A0).alloc A1).alloc A2).alloc A3).heap[w.heap.size+ 1]? = some A1 ∧ ((((w.alloc A0).alloc A1).alloc A2).alloc A3).heap[w.heap.size+ 1+ 1]? = some A2 ∧ ((((w.alloc A0).alloc A1).alloc A2).alloc A3).heap[w.heap.size+ 1+ 1+ 1]? = some A3) ∧ New w ((((w.alloc A0).alloc A1).alloc A2).alloc A3) := by
  have e1 : (w.alloc A0).heap.size = w.heap.size + 1 := by simp
  have e2 : ((w.alloc A0).alloc A1).heap.size = w.heap.size + 1 + 1 := by simp
  have e3 : (((w.alloc A0).alloc A1).alloc A2).heap.size = w.heap.size + 1 + 1 + 1 := by simp
  have e4 : ((((w.alloc A0).alloc A1).alloc A2).alloc A3).heap.size = w.heap.size + 1 + 1 + 1 + 1 := by simp
  exact ⟨⟨(((((((((New.refl (w.alloc A0))).alloc A1)).alloc A2)).alloc A3)).block _ (by rw [e1]; omega)).trans (heap_alloc_new _ _), (((((((New.refl ((w.alloc A0).alloc A1))).alloc A2)).alloc A3)).block _ (by rw [e2]; omega)).trans (by rw [← e1]; exact heap_alloc_new _ _), (((((New.refl (((w.alloc A0).alloc A1).alloc A2))).alloc A3)).block _ (by rw [e3]; omega)).trans (by rw [← e2]; exact heap_alloc_new _ _), (((New.refl ((((w.alloc A0).alloc A1).alloc A2).alloc A3))).block _ (by rw [e4]; omega)).trans (by rw [← e3]; exact heap_alloc_new _ _)⟩, (((((New.refl w).alloc A0).alloc A1).alloc A2).alloc A3)⟩
theorem hi_mod (N : Nat) : hiN (N % 2 ^ 128) = hiN N := by
  apply BitVec.eq_of_toNat_eq
  unfold hiN
  rw [BitVec.toNat_ofNat, BitVec.toNat_ofNat]
  omega
theorem lo_mod (N : Nat) : loN (N % 2 ^ 128) = loN N := by
  apply BitVec.eq_of_toNat_eq
  unfold loN
  rw [BitVec.toNat_ofNat, BitVec.toNat_ofNat]
  omega
theorem low_cut (A n : Nat) (hn : n ≤ 128) : A * 2 ^ (128 - n) % 2 ^ 128 / 2 ^ (128 - n) = A % 2 ^ n := by
  have e : 2 ^ 128 = 2 ^ n * 2 ^ (128 - n) := by rw [← Nat.pow_add]; congr 1; omega
  rw [e, Nat.mul_mod_mul_right, Nat.mul_div_cancel _ (Nat.two_pow_pos _)]
end Go.Bv
namespace Go.Proofs.YtebcfbcfipmahaaGreat
open Go.RowKit Go.Bv
set_option linter.unusedVariables false
set_option maxHeartbeats 1000000 in
theorem lowest_a (A n : Nat) (hA : A < 2 ^ 128) (hn : n ≤ 128) (w : World) : Calls Tryz.prog 156 #[.agg #[.int .u64 (W64 (hiN (A))), .int .u64 (W64 (loN (A)))], .int .i64 (n : Int)] w fun e w' => e = .returned (.agg #[.int .u64 (W64 (hiN (A % 2 ^ n))), .int .u64 (W64 (loN (A % 2 ^ n)))]) ∧ New w w' := by
  have h1 := fun w => shl_n A (128 - n) hA (by omega) w
  rw [← hi_mod (A * 2 ^ (128 - n)), ← lo_mod (A * 2 ^ (128 - n))] at h1
  have h2 := fun w => shr_n (A * 2 ^ (128 - n) % 2 ^ 128) (128 - n) (Nat.mod_lt _ (Nat.two_pow_pos _)) (by omega) w
  rw [low_cut A n hn] at h2
  rw [show ((128 - n : Nat) : Int) = 128 - (n : Int) by omega] at h1 h2
  have hw : wrap64 (128 - (n : Int)) = 128 - (n : Int) := by unfold wrap64; omega
  have H1 := Lib.hid h1
  have H2 := Lib.hid h2
  generalize A * 2 ^ (128 - n) % 2 ^ 128 = M at *
  generalize A % 2 ^ n = R at *
  clear h1 h2 hA hn
  obtain ⟨hbl, HNN⟩ := boxes2 w (.cells #[.int .u64 (W64 (hiN (A))), .int .u64 (W64 (loN (A)))] 63) (.cells #[.int .u64 0, .int .u64 0] 63)
  obtain ⟨hb0, hb1⟩ := hbl
  have HN := Lib.hid HNN
  obtain ⟨w0, hw0⟩ : ∃ w0, (((w.alloc (.cells #[.int .u64 (W64 (hiN (A))), .int .u64 (W64 (loN (A)))] 63))).alloc (.cells #[.int .u64 0, .int .u64 0] 63)) = w0 := ⟨_, rfl⟩
  rw [hw0] at HN hb0 hb1
  have HW0 := Lib.hid hw0
  have HB0 := Lib.hid hb0
  have HB1 := Lib.hid hb1
  clear hw0 HNN hb0 hb1
  have x0 := cell_of_row _ _ 0 _ _ _ HB0.out
  have x1 := cell_of_row _ _ 1 _ _ _ HB0.out
  go_enter Tryz.func156, Tryz.ntmps156
  go_wp2_with (rw [HW0.out])
  refine (H1.out _).mono ?_
  rintro e w9 ⟨rfl, hn⟩
  replace HN := Lib.hid (HN.out.trans hn)
  replace HB1 := Lib.hid ((hn.block _ (lt_of_block HB1.out)).trans HB1.out)
  clear hn x0 x1
  go_wp2_with fail
  refine (H2.out _).mono ?_
  rintro e w9 ⟨rfl, hn⟩
  replace HN := Lib.hid (HN.out.trans hn)
  replace HB1 := Lib.hid ((hn.block _ (lt_of_block HB1.out)).trans HB1.out)
  clear hn
  have k0 := cell_of_row _ _ 0 _ _ _ HB1.out
  have k1 := cell_of_row _ _ 1 _ _ _ HB1.out
  have kf := fun i => frozen_of_row _ _ i _ _ HB1.out
  go_wp2
  refine bodyPost_ret (by simp [results, Tryz.results156, go_sem, k0, k1]; try rfl) rfl ?_
  exact ⟨rfl, (HN.out.setCell (Nat.le_succ _) _).setCell (Nat.le_succ _) _⟩
set_option maxHeartbeats 1000000 in
theorem cut_a (A wd kd : Nat) (hA : A < 2 ^ 128) (hn : wd ≤ 128) (w : World) : Calls Tryz.prog 133 #[.agg #[.int .i64 (wd : Int), .int .i64 (kd : Int), .int .i64 (kd : Int)], .agg #[.int .u64 (W64 (hiN (A))), .int .u64 (W64 (loN (A)))]] w fun e w' => e = .returned (.agg #[.int .u64 (W64 (hiN (A % 2 ^ wd))), .int .u64 (W64 (loN (A % 2 ^ wd)))]) ∧ New w w' := by
  have H1 := Lib.hid (lowest_a A wd hA hn)
  generalize A % 2 ^ wd = R at *
  clear hA hn
  obtain ⟨hbl, HNN⟩ := boxes3 w (.cells #[.int .i64 (wd : Int), .int .i64 (kd : Int), .int .i64 (kd : Int)] 133) (.cells #[.int .u64 (W64 (hiN (A))), .int .u64 (W64 (loN (A)))] 63) (.cells #[.int .u64 0, .int .u64 0] 63)
  obtain ⟨hb0, hb1, hb2⟩ := hbl
  have HN := Lib.hid HNN
  obtain ⟨w0, hw0⟩ : ∃ w0, (((((w.alloc (.cells #[.int .i64 (wd : Int), .int .i64 (kd : Int), .int .i64 (kd : Int)] 133))).alloc (.cells #[.int .u64 (W64 (hiN (A))), .int .u64 (W64 (loN (A)))] 63))).alloc (.cells #[.int .u64 0, .int .u64 0] 63)) = w0 := ⟨_, rfl⟩
  rw [hw0] at HN hb0 hb1 hb2
  have HW0 := Lib.hid hw0
  have HB0 := Lib.hid hb0
  have HB1 := Lib.hid hb1
  have HB2 := Lib.hid hb2
  clear hw0 HNN hb0 hb1 hb2
  have s0 := cell_of_row _ _ 0 _ _ _ HB0.out
  have s1 := cell_of_row _ _ 1 _ _ _ HB0.out
  have s2 := cell_of_row _ _ 2 _ _ _ HB0.out
  have x0 := cell_of_row _ _ 0 _ _ _ HB1.out
  have x1 := cell_of_row _ _ 1 _ _ _ HB1.out
  go_enter Tryz.func133, Tryz.ntmps133
  go_wp2_with (rw [HW0.out])
  refine (H1.out _).mono ?_
  rintro e w9 ⟨rfl, hn⟩
  replace HN := Lib.hid (HN.out.trans hn)
  replace HB2 := Lib.hid ((hn.block _ (lt_of_block HB2.out)).trans HB2.out)
  clear hn s0 s1 s2 x0 x1
  have k0 := cell_of_row _ _ 0 _ _ _ HB2.out
  have k1 := cell_of_row _ _ 1 _ _ _ HB2.out
  have kf := fun i => frozen_of_row _ _ i _ _ HB2.out
  go_wp2
  refine bodyPost_ret (by simp [results, Tryz.results133, go_sem, k0, k1]; try rfl) rfl ?_
  exact ⟨rfl, (HN.out.setCell (by show w.heap.size ≤ w.heap.size + 1 + 1; omega) _).setCell (by show w.heap.size ≤ w.heap.size + 1 + 1; omega) _⟩
set_option maxHeartbeats 1000000 in
theorem add_a (A B : Nat) (hA : A < 2 ^ 128) (hB : B < 2 ^ 128) (w : World) : Calls Tryz.prog 155 #[.agg #[.int .u64 (W64 (hiN (A))), .int .u64 (W64 (loN (A)))], .agg #[.int .u64 (W64 (hiN (B))), .int .u64 (W64 (loN (B)))]] w fun e w' => e = .returned (.agg #[.int .u64 (W64 (hiN (A + B))), .int .u64 (W64 (loN (A + B)))]) ∧ New w w' := by
  have H1 := Lib.hid (add_n A B hA hB)
  generalize A + B = R at *
  generalize decide (2 ^ 128 ≤ R) = o at *
  clear hA hB
  obtain ⟨hbl, HNN⟩ := boxes3 w (.cells #[.int .u64 (W64 (hiN (A))), .int .u64 (W64 (loN (A)))] 63) (.cells #[.int .u64 (W64 (hiN (B))), .int .u64 (W64 (loN (B)))] 63) (.cells #[.int .u64 0, .int .u64 0] 63)
  obtain ⟨hb0, hb1, hb2⟩ := hbl
  have HN := Lib.hid HNN
  obtain ⟨w0, hw0⟩ : ∃ w0, (((((w.alloc (.cells #[.int .u64 (W64 (hiN (A))), .int .u64 (W64 (loN (A)))] 63))).alloc (.cells #[.int .u64 (W64 (hiN (B))), .int .u64 (W64 (loN (B)))] 63))).alloc (.cells #[.int .u64 0, .int .u64 0] 63)) = w0 := ⟨_, rfl⟩
  rw [hw0] at HN hb0 hb1 hb2
  have HW0 := Lib.hid hw0
  have HB0 := Lib.hid hb0
  have HB1 := Lib.hid hb1
  have HB2 := Lib.hid hb2
  clear hw0 HNN hb0 hb1 hb2
  have x0 := cell_of_row _ _ 0 _ _ _ HB0.out
  have x1 := cell_of_row _ _ 1 _ _ _ HB0.out
  have y0 := cell_of_row _ _ 0 _ _ _ HB1.out
  have y1 := cell_of_row _ _ 1 _ _ _ HB1.out
  go_enter Tryz.func155, Tryz.ntmps155
  go_wp2_with (rw [HW0.out])
  refine (H1.out _).mono ?_
  rintro e w9 ⟨rfl, hn⟩
  replace HN := Lib.hid (HN.out.trans hn)
  replace HB2 := Lib.hid ((hn.block _ (lt_of_block HB2.out)).trans HB2.out)
  clear hn x0 x1 y0 y1
  have hx := heap_alloc_new w9 (.cells #[.int .u64 (W64 (hiN R)), .int .u64 (W64 (loN R))] 63)
  have hn2 := (New.refl w9).alloc (.cells #[.int .u64 (W64 (hiN R)), .int .u64 (W64 (loN R))] 63)
  obtain ⟨wb5, hw2⟩ : ∃ w2, w9.alloc (.cells #[.int .u64 (W64 (hiN R)), .int .u64 (W64 (loN R))] 63) = w2 := ⟨_, rfl⟩
  rw [hw2] at hx hn2
  obtain ⟨q5, hq⟩ : ∃ q, w9.heap.size = q := ⟨_, rfl⟩
  rw [hq] at hx
  have HX5 := Lib.hid hx
  replace HN := Lib.hid (HN.out.trans hn2)
  have HM5 := Lib.hid hn2
  have HE5 := Lib.hid (show w9.alloc (.cells #[.int .u64 (W64 (hiN R)), .int .u64 (W64 (loN R))] 63) = wb5 ∧ w9.heap.size = q5 from ⟨hw2, hq⟩)
  clear hx hn2 hw2 hq
  replace HB2 := Lib.hid ((HM5.out.block _ (lt_of_block HB2.out)).trans HB2.out)
  have k0 := cell_of_row _ _ 0 _ _ _ HB2.out
  have k1 := cell_of_row _ _ 1 _ _ _ HB2.out
  have x0 := cell_of_row _ _ 0 _ _ _ HX5.out
  have x1 := cell_of_row _ _ 1 _ _ _ HX5.out
  have kf := fun i => frozen_of_row _ _ i _ _ HB2.out
  go_wp2_with (rw [HE5.out.1, HE5.out.2])
  refine bodyPost_ret (by simp [results, Tryz.results155, go_sem, k0, k1]; try rfl) rfl ?_
  exact ⟨rfl, (HN.out.setCell (by show w.heap.size ≤ w.heap.size + 1 + 1; omega) _).setCell (by show w.heap.size ≤ w.heap.size + 1 + 1; omega) _⟩
end Go.Proofs.YtebcfbcfipmahaaGreat
end
section
/- Layer 22: a row that has an entry of its own. -/
namespace Go.Proofs.YtebcfbcfipmahaaGreat
open Go Go.RowKit Go.Bv Go.Tab
set_option linter.unusedVariables false
set_option maxRecDepth 100000
theorem infoB : (Tryz.prog.info? 4).isSome = true := by kernel_rfl
theorem plainB : Tryz.prog.plainKey 4 = true := by kernel_rfl
theorem cellsB : Tryz.prog.cellsOf 4 = 1 := by kernel_rfl
theorem eqB (w : World) (x y : Bool) : (Op.equalIn 9999 4 (.bool x) (.bool y)).run Tryz.prog w = .ok (x == y) w := by
  cases x <;> cases y <;> kernel_rfl
theorem eqB3 (w : World) (x0 x1 x2 y0 y1 y2 : Bool) :
    (Op.equalIn 10000 164 (.agg #[.bool x0, .bool x1, .bool x2]) (.agg #[.bool y0, .bool y1, .bool y2])).run Tryz.prog w = .ok (x0 == y0 && (x1 == y1 && x2 == y2)) w := by
  obtain ⟨i, hi⟩ := Option.isSome_iff_exists.1 infoB
  rw [run_equalIn_array w 9999 _ _ Tryz.underlying164 hi, cellsB, show List.range 3 = [0, 1, 2] from rfl]
  have e0 := run_part_plain (w := w) (v := .bool x0) plainB (xs := #[.bool x0, .bool x1, .bool x2]) (off := 0) rfl
  have e1 := run_part_plain (w := w) (v := .bool x1) plainB (xs := #[.bool x0, .bool x1, .bool x2]) (off := 1) rfl
  have e2 := run_part_plain (w := w) (v := .bool x2) plainB (xs := #[.bool x0, .bool x1, .bool x2]) (off := 2) rfl
  have f0 := run_part_plain (w := w) (v := .bool y0) plainB (xs := #[.bool y0, .bool y1, .bool y2]) (off := 0) rfl
  have f1 := run_part_plain (w := w) (v := .bool y1) plainB (xs := #[.bool y0, .bool y1, .bool y2]) (off := 1) rfl
  have f2 := run_part_plain (w := w) (v := .bool y2) plainB (xs := #[.bool y0, .bool y1, .bool y2]) (off := 2) rfl
  have g0 := eqB w x0 y0
  have g1 := eqB w x1 y1
  have g2 := eqB w x2 y2
  simp only [Op.eqItems, Sem.run_bind, Nat.mul_one, e0, f0, g0, Result.andThen_ok]
  rcases h0 : x0 == y0 <;> rcases h1 : x1 == y1 <;> rcases h2 : x2 == y2 <;> rw [h1] at g1 <;> rw [h2] at g2 <;> simp [Sem.run_bind, e1, e2, f1, f2, g1, g2]
/-- rows as rows of letters -/
def rn (R : Nat → List Int) : Nat → Nat → Nat := fun i p => ((R i).getD p 0).toNat
theorem own_sh {n : Nat} (hn : n ≤ 3) {R : Nat → List Int} {left : Nat → Bool} {i p : Nat} (hi : i < n) (hR : ∀ j, j < n → 0 ≤ (R j).getD p 0) :
    own n (rn R) left i p = (left i && (shF n R left i p 0 == decide (0 = i) && (shF n R left i p 1 == decide (1 = i) && shF n R left i p 2 == decide (2 = i)))) := by
  rw [Bool.eq_iff_iff, own_iff]
  have key : ∀ j, (shF n R left i p j == decide (j = i)) = true ↔ (shF n R left i p j = true ↔ j = i) := by
    intro j
    rw [beq_iff_eq, Bool.eq_iff_iff, decide_eq_true_iff]
  have sh : ∀ j, shF n R left i p j = true ↔ j < n ∧ left j = true ∧ (R j).getD p 0 = (R i).getD p 0 := by
    intro j; unfold shF; simp [and_assoc]
  simp only [Bool.and_eq_true, key, sh]
  have rr : ∀ j, j < n → (rn R j p = rn R i p ↔ (R j).getD p 0 = (R i).getD p 0) := by
    intro j hj
    have := hR j hj
    have := hR i hi
    unfold rn
    omega
  constructor
  · rintro ⟨hl, h⟩
    have g : ∀ j, (j < n ∧ left j = true ∧ (R j).getD p 0 = (R i).getD p 0) ↔ j = i := by
      intro j
      constructor
      · rintro ⟨hj, hlj, he⟩
        by_cases e : j = i
        · exact e
        · exact absurd ((rr j hj).2 he) (h j hj hlj e)
      · rintro rfl; exact ⟨hi, hl, rfl⟩
    exact ⟨hl, g 0, g 1, g 2⟩
  · rintro ⟨hl, g0, g1, g2⟩
    refine ⟨hl, fun j hj hlj hne he => hne ?_⟩
    have hj3 : j = 0 ∨ j = 1 ∨ j = 2 := by omega
    have he2 := (rr j hj).1 he
    rcases hj3 with rfl | rfl | rfl
    · exact g0.1 ⟨hj, hlj, he2⟩
    · exact g1.1 ⟨hj, hlj, he2⟩
    · exact g2.1 ⟨hj, hlj, he2⟩
end Go.Proofs.YtebcfbcfipmahaaGreat
end
section
/- Layer 22: alone: the first row that has an entry of its own. -/
namespace Go.Proofs.YtebcfbcfipmahaaGreat
open Go Go.RowKit Go.Bv Go.Tab
set_option linter.unusedVariables false
set_option maxRecDepth 100000
theorem three_blocks22 (w : World) (A B C : Obj) : ((((w.alloc A).alloc B).alloc C).heap[w.heap.size]? = some A) ∧ ((((w.alloc A).alloc B).alloc C).heap[w.heap.size + 1]? = some B) ∧ ((((w.alloc A).alloc B).alloc C).heap[w.heap.size + 1 + 1]? = some C) ∧ New w (((w.alloc A).alloc B).alloc C) := by
  have e1 : (w.alloc A).heap.size = w.heap.size + 1 := by simp
  have e2 : ((w.alloc A).alloc B).heap.size = w.heap.size + 1 + 1 := by simp
  refine ⟨?_, ?_, ?_, (((New.refl w).alloc _).alloc _).alloc _⟩
  · rw [(((New.refl (w.alloc A)).alloc B).alloc C).block _ (by rw [e1]; omega)]; exact heap_alloc_new _ _
  · rw [((New.refl ((w.alloc A).alloc B)).alloc C).block _ (by rw [e2]; omega), ← e1]; exact heap_alloc_new _ _
  · rw [← e2]; exact heap_alloc_new _ _
/-- what alone's loops keep -/
structure AlI (w wr : World) (left : Nat → Bool) : Prop where
  new : New w wr
  lf : B3 wr w.heap.size 164 left
  rs : wr.heap[w.heap.size + 1]? = some (.cells #[.int .i64 0, .int .i64 0] 147 (0, 0))
  fo : wr.heap[w.heap.size + 1 + 1]? = some (.cells #[.int .i64 0, .int .i64 0] 147 (0, 0))
theorem AlI.stay {w wr w2 : World} {left : Nat → Bool} (h : AlI w wr left) (hn : New wr w2) : AlI w w2 left :=
  ⟨h.new.trans hn, h.lf.stay hn, (hn.block _ (lt_of_block h.rs)).trans h.rs, (hn.block _ (lt_of_block h.fo)).trans h.fo⟩
set_option maxHeartbeats 8000000 in
theorem alone_any (g gf n cg m : Nat) (hn : n ≤ 3) (hn0 : 0 < n) (R : Nat → List Int) (left : Nat → Bool) (hR : ∀ j p, j < n → p < m → 0 ≤ (R j).getD p 0) (hex : ∃ i p, i < n ∧ p < m ∧ own n (rn R) left i p = true) (hm : m ≤ 17592186044416) (w : World) (h : Rws w g gf n m R) :
    Calls Tryz.prog 161 #[.slice (some ⟨g, gf, none⟩) n cg, .agg (b3 left)] w fun e w' => e = .returned (.agg #[.int .i64 ((aloF m n (rn R) left).1 : Int), .int .i64 ((aloF m n (rn R) left).2 : Int)]) ∧ New w w' := by
  obtain ⟨z1, z2, z3, z4⟩ := three_blocks22 w (.cells (b3 left) 164) (.cells #[.int .i64 0, .int .i64 0] 147) (.cells #[.int .i64 0, .int .i64 0] 147)
  have HST : Hid (AlI w (((w.alloc (.cells (b3 left) 164)).alloc (.cells #[.int .i64 0, .int .i64 0] 147)).alloc (.cells #[.int .i64 0, .int .i64 0] 147)) left) := Lib.hid ⟨z4, z1, z2, z3⟩
  have HR := Lib.hid h
  have HEX := Lib.hid hex
  have HRR := Lib.hid hR
  obtain ⟨x, hx⟩ : ∃ x, aloF m n (rn R) left = x := ⟨_, rfl⟩
  have HX := Lib.hid hx
  have hr0 := h.stay z4
  obtain ⟨a0, c0, f0, y0⟩ := hr0.get0 hn0
  have hn0' : (0 : Int) < (n : Int) := by omega
  rw [hx]
  clear h hex hR z1 z2 z3 z4 hr0 hx y0
  go_enter Tryz.func161, Tryz.ntmps161
  go_wp2
  go_step3
  go_wp2
  go_step3
  go_wp2
  go_loopw [12] (fun iv wr => ∃ p : Nat, p ≤ m ∧ iv = .int .i64 (p : Int) ∧ Hid (AlI w wr left) ∧ Hid (∀ q, q < p → ∀ j, j < n → own n (rn R) left j q = false)) (fun iv _ => m - (intOf iv).toNat)
  case atStart => exact ⟨0, Nat.zero_le _, rfl, HST, Lib.hid (fun q hq => absurd hq (by omega))⟩
  case round =>
    obtain ⟨p, hp, rfl, HI, HP⟩ := hrel
    clear HST
    by_cases hlt : (p : Int) < (m : Int)
    · go_wp2
      go_loopw [17] (fun iv wr2 => ∃ i : Nat, i ≤ n ∧ iv = .int .i64 (i : Int) ∧ Hid (AlI w wr2 left) ∧ Hid (∀ j, j < i → own n (rn R) left j p = false)) (fun iv _ => n - (intOf iv).toNat)
      case atStart => exact ⟨0, Nat.zero_le _, rfl, HI, Lib.hid (fun j hj => absurd hj (by omega))⟩
      case round =>
        obtain ⟨i, hi, rfl, HJ, HQ⟩ := hrel
        by_cases hlt2 : (i : Int) < (n : Int)
        · have hi3 : (i : Int) < 3 := by omega
          have hi0 : (0 : Int) ≤ (i : Int) := by omega
          have hii : i < n := by omega
          have hpm : p < m := by omega
          obtain ⟨l0, l1, l2⟩ := HJ.out.lf.c
          have li := HJ.out.lf.at (show i < 3 by omega)
          have HOWN := Lib.hid (own_sh hn (R := R) (left := left) (i := i) (p := p) hii (fun j hj => HRR.out j p hj hpm))
          have HSH := Lib.hid (sharing_any g gf n cg m hn R left i p hii hpm _ (HR.out.stay HJ.out.new))
          rcases hli : left i with _ | _
          · rw [hli] at li
            have HQ2 : Hid (∀ j, j < i + 1 → own n (rn R) left j p = false) := Lib.hid (fun j hj => by
              by_cases e : j = i
              · subst e; rw [HOWN.out, hli]; rfl
              · exact HQ.out j (by omega))
            clear HSH
            go_wp2
            exact ⟨⟨i + 1, by omega, by go_num, HJ, HQ2⟩, by simp [intOf]; omega⟩
          · rw [hli] at li
            go_wp2_with fail
            refine HSH.out.mono ?_
            rintro e w5 ⟨rfl, n5⟩
            have HJ5 := Lib.hid (HJ.out.stay n5)
            clear n5 HSH
            go_wp2_with fail
            refine (only_any i (by omega) _).mono ?_
            rintro e w6 ⟨rfl, n6⟩
            have HJ6 := Lib.hid (HJ5.out.stay n6)
            clear n6
            have heq := fun w => eqB3 w (shF n R left i p 0) (shF n R left i p 1) (shF n R left i p 2) (decide (0 = i)) (decide (1 = i)) (decide (2 = i))
            have HO2 : Hid (own n (rn R) left i p = (shF n R left i p 0 == decide (0 = i) && (shF n R left i p 1 == decide (1 = i) && shF n R left i p 2 == decide (2 = i)))) := Lib.hid (by rw [HOWN.out, hli, Bool.true_and])
            obtain ⟨b, hb⟩ : ∃ b, (shF n R left i p 0 == decide (0 = i) && (shF n R left i p 1 == decide (1 = i) && shF n R left i p 2 == decide (2 = i))) = b := ⟨_, rfl⟩
            rw [hb] at heq HO2
            clear hb
            rcases b with _ | _
            · have HQ2 : Hid (∀ j, j < i + 1 → own n (rn R) left j p = false) := Lib.hid (fun j hj => by
                by_cases e : j = i
                · subst e; exact HO2.out
                · exact HQ.out j (by omega))
              go_wp2
              exact ⟨⟨i + 1, by omega, by go_num, HJ6, HQ2⟩, by simp [intOf]; omega⟩
            · obtain rfl : x = (i, p) := HX.out.symm.trans (aloF_at hii hpm HO2.out HP.out HQ.out)
              have o0 := cell_of_row _ _ 0 _ _ _ HJ6.out.fo
              have o1 := cell_of_row _ _ 1 _ _ _ HJ6.out.fo
              have of := fun k => frozen_of_row _ _ k _ _ HJ6.out.fo
              have r0 := cell_of_row _ _ 0 _ _ _ HJ6.out.rs
              have r1 := cell_of_row _ _ 1 _ _ _ HJ6.out.rs
              have rf := fun k => frozen_of_row _ _ k _ _ HJ6.out.rs
              have HN := Lib.hid HJ6.out.new
              go_wp2
              rw [Exit.noGoto_ret]
              refine bodyPost_ret (by simp [results, Tryz.results161, go_sem, r0, r1]; try rfl) rfl ?_
              exact ⟨rfl, (((HN.out.setCell (by show w.heap.size ≤ w.heap.size + 1 + 1; omega) _).setCell (by show w.heap.size ≤ w.heap.size + 1 + 1; omega) _).setCell (by show w.heap.size ≤ w.heap.size + 1; omega) _).setCell (by show w.heap.size ≤ w.heap.size + 1; omega) _⟩
        · obtain rfl : i = n := by omega
          have HP2 : Hid (∀ q, q < p + 1 → ∀ j, j < i → own i (rn R) left j q = false) := Lib.hid (fun q hq j hj => by
            by_cases e : q = p
            · subst e; exact HQ.out j hj
            · exact HP.out q (by omega) j hj)
          go_wp2
          exact ⟨⟨p + 1, by omega, by go_num, HJ, HP2⟩, by simp [intOf]; omega⟩
    · exfalso
      obtain ⟨i, q, h1, h2, h3⟩ := HEX.out
      have := HP.out q (by omega) i h1
      rw [h3] at this
      cases this
end Go.Proofs.YtebcfbcfipmahaaGreat
end
