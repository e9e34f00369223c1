import Derived.Test.YtebcfbcfipmahaaGreatZ3MadK
/- Contracts of layer 21: Shift. -/
namespace Go.Proofs.YtebcfbcfipmahaaGreat
open Go Go.RowKit Go.Bv
set_option linter.unusedVariables false
set_option maxRecDepth 100000 in
set_option maxHeartbeats 2000000 in
theorem shift_no1 (A B wd kd : Nat) (x y u v : BitVec 64) (kind bits : Int) (HC : Hid (∀ w : World, Calls Tryz.prog 125 #[.int .i64 kind, .int .i64 bits, .agg #[.int .u64 (W64 (hiN (A))), .int .u64 (W64 (loN (A)))], .agg #[.int .u64 (W64 (hiN (B))), .int .u64 (W64 (loN (B)))]] w fun e w' => e = .returned (.int .i64 0) ∧ New w w')) (HS : Hid (∀ w : World, Calls Tryz.prog 126 #[.int .i64 kind] w fun e w' => e = .returned (.tuple #[.agg #[.int .i64 (wd : Int), .int .i64 (kd : Int), .int .i64 (kd : Int)], .bool true]) ∧ New w w')) (F1 : Hid (∀ w : World, Calls Tryz.prog 127 #[.int .u64 (W64 x), .int .i64 (kd : Int)] w fun e w' => e = .returned (.bool false) ∧ New w w')) (w : World) :
    Calls Tryz.prog 87 #[.int .i64 kind, .int .i64 bits, .agg #[.int .u64 (W64 (hiN (A))), .int .u64 (W64 (loN (A)))], .agg #[.int .u64 (W64 (hiN (B))), .int .u64 (W64 (loN (B)))], .int .u64 (W64 x), .int .u64 (W64 y), .int .u64 (W64 u), .int .u64 (W64 v)] w fun e w' => e = .returned (.tuple #[.agg #[.int .u64 0, .int .u64 0], .agg #[.int .u64 0, .int .u64 0], .int .i64 2]) ∧ New w w' := by
  obtain ⟨hbl, HNN⟩ := boxes4 w (.cells #[.int .u64 (W64 (hiN (A))), .int .u64 (W64 (loN (A)))] 63) (.cells #[.int .u64 (W64 (hiN (B))), .int .u64 (W64 (loN (B)))] 63) (.cells #[.int .u64 0, .int .u64 0] 63) (.cells #[.int .u64 0, .int .u64 0] 63)
  obtain ⟨hb0, hb1, hb2, hb3⟩ := hbl
  have HN := Lib.hid HNN
  obtain ⟨w0, hw0⟩ : ∃ w0, (((((((w.alloc (.cells #[.int .u64 (W64 (hiN (A))), .int .u64 (W64 (loN (A)))] 63))).alloc (.cells #[.int .u64 (W64 (hiN (B))), .int .u64 (W64 (loN (B)))] 63))).alloc (.cells #[.int .u64 0, .int .u64 0] 63))).alloc (.cells #[.int .u64 0, .int .u64 0] 63)) = w0 := ⟨_, rfl⟩
  rw [hw0] at HN hb0 hb1 hb2 hb3
  have HW0 := Lib.hid hw0
  have HB0 := Lib.hid hb0
  have HB1 := Lib.hid hb1
  have HB2 := Lib.hid hb2
  have HB3 := Lib.hid hb3
  clear hw0 HNN hb0 hb1 hb2 hb3
  have x0 := cell_of_row _ _ 0 _ _ _ HB0.out
  have x1 := cell_of_row _ _ 1 _ _ _ HB0.out
  have y0 := cell_of_row _ _ 0 _ _ _ HB1.out
  have y1 := cell_of_row _ _ 1 _ _ _ HB1.out
  go_enter Tryz.func87, Tryz.ntmps87
  go_wp2_with fail
  rw [HW0.out]
  refine (HC.out _).mono ?_
  rintro e w9 ⟨rfl, hn⟩
  replace HN := Lib.hid (HN.out.trans hn)
  replace HB0 := Lib.hid ((hn.block _ (lt_of_block HB0.out)).trans HB0.out)
  replace HB1 := Lib.hid ((hn.block _ (lt_of_block HB1.out)).trans HB1.out)
  replace HB2 := Lib.hid ((hn.block _ (lt_of_block HB2.out)).trans HB2.out)
  replace HB3 := Lib.hid ((hn.block _ (lt_of_block HB3.out)).trans HB3.out)
  clear hn x0 x1 y0 y1 HW0
  go_wp2_with fail
  refine (HS.out _).mono ?_
  rintro e w8 ⟨rfl, hn⟩
  replace HN := Lib.hid (HN.out.trans hn)
  replace HB0 := Lib.hid ((hn.block _ (lt_of_block HB0.out)).trans HB0.out)
  replace HB1 := Lib.hid ((hn.block _ (lt_of_block HB1.out)).trans HB1.out)
  replace HB2 := Lib.hid ((hn.block _ (lt_of_block HB2.out)).trans HB2.out)
  replace HB3 := Lib.hid ((hn.block _ (lt_of_block HB3.out)).trans HB3.out)
  have hx := heap_alloc_new w8 (.cells #[.int .i64 (wd : Int), .int .i64 (kd : Int), .int .i64 (kd : Int)] 133)
  have hn2 := (New.refl w8).alloc (.cells #[.int .i64 (wd : Int), .int .i64 (kd : Int), .int .i64 (kd : Int)] 133)
  obtain ⟨wb, hw2⟩ : ∃ w2, w8.alloc (.cells #[.int .i64 (wd : Int), .int .i64 (kd : Int), .int .i64 (kd : Int)] 133) = w2 := ⟨_, rfl⟩
  rw [hw2] at hx hn2
  obtain ⟨qs, hq⟩ : ∃ q, w8.heap.size = q := ⟨_, rfl⟩
  rw [hq] at hx
  have HQS : Hid (w.heap.size + 1 + 1 + 1 < qs) := Lib.hid (by have := lt_of_block HB3.out; omega)
  have HSH := Lib.hid hx
  replace HN := Lib.hid (HN.out.trans hn2)
  have HE := Lib.hid (show w8.alloc (.cells #[.int .i64 (wd : Int), .int .i64 (kd : Int), .int .i64 (kd : Int)] 133) = wb ∧ w8.heap.size = qs from ⟨hw2, hq⟩)
  replace HB0 := Lib.hid ((hn2.block _ (lt_of_block HB0.out)).trans HB0.out)
  replace HB1 := Lib.hid ((hn2.block _ (lt_of_block HB1.out)).trans HB1.out)
  replace HB2 := Lib.hid ((hn2.block _ (lt_of_block HB2.out)).trans HB2.out)
  replace HB3 := Lib.hid ((hn2.block _ (lt_of_block HB3.out)).trans HB3.out)
  clear hn hx hn2 hw2 hq HS
  have h0 := cell_of_row _ _ 1 _ _ _ HSH.out
  go_wp2_with fail
  rw [HE.out.1, HE.out.2]
  clear HE
  refine (F1.out _).mono ?_
  rintro e w9 ⟨rfl, hn⟩
  replace HN := Lib.hid (HN.out.trans hn)
  replace HB0 := Lib.hid ((hn.block _ (lt_of_block HB0.out)).trans HB0.out)
  replace HB1 := Lib.hid ((hn.block _ (lt_of_block HB1.out)).trans HB1.out)
  replace HB2 := Lib.hid ((hn.block _ (lt_of_block HB2.out)).trans HB2.out)
  replace HB3 := Lib.hid ((hn.block _ (lt_of_block HB3.out)).trans HB3.out)
  replace HSH := Lib.hid ((hn.block _ (lt_of_block HSH.out)).trans HSH.out)
  clear hn h0
  have h0 := cell_of_row _ _ 1 _ _ _ HSH.out
  clear h0
  have k0 := cell_of_row _ _ 0 _ _ _ HB2.out
  have k1 := cell_of_row _ _ 1 _ _ _ HB2.out
  have k2 := cell_of_row _ _ 0 _ _ _ HB3.out
  have k3 := cell_of_row _ _ 1 _ _ _ HB3.out
  have kf := fun i => frozen_of_row _ _ i _ _ HB2.out
  have kg := fun i => frozen_of_row _ _ i _ _ HB3.out
  go_wp2
  refine bodyPost_ret (by simp [results, Tryz.results87, go_sem, k0, k1, k2, k3]; try rfl) rfl ?_
  exact ⟨rfl, (((HN.out.setCell (by show w.heap.size ≤ w.heap.size + 1 + 1; omega) _).setCell (by show w.heap.size ≤ w.heap.size + 1 + 1; omega) _).setCell (by show w.heap.size ≤ w.heap.size + 1 + 1 + 1; omega) _).setCell (by show w.heap.size ≤ w.heap.size + 1 + 1 + 1; omega) _⟩
set_option maxRecDepth 100000 in
set_option maxHeartbeats 2000000 in
theorem shift_no2 (A B wd kd : Nat) (x y u v : BitVec 64) (kind bits : Int) (HC : Hid (∀ w : World, Calls Tryz.prog 125 #[.int .i64 kind, .int .i64 bits, .agg #[.int .u64 (W64 (hiN (A))), .int .u64 (W64 (loN (A)))], .agg #[.int .u64 (W64 (hiN (B))), .int .u64 (W64 (loN (B)))]] w fun e w' => e = .returned (.int .i64 0) ∧ New w w')) (HS : Hid (∀ w : World, Calls Tryz.prog 126 #[.int .i64 kind] w fun e w' => e = .returned (.tuple #[.agg #[.int .i64 (wd : Int), .int .i64 (kd : Int), .int .i64 (kd : Int)], .bool true]) ∧ New w w')) (F1 : Hid (∀ w : World, Calls Tryz.prog 127 #[.int .u64 (W64 x), .int .i64 (kd : Int)] w fun e w' => e = .returned (.bool true) ∧ New w w')) (F2 : Hid (∀ w : World, Calls Tryz.prog 127 #[.int .u64 (W64 y), .int .i64 (kd : Int)] w fun e w' => e = .returned (.bool false) ∧ New w w')) (w : World) :
    Calls Tryz.prog 87 #[.int .i64 kind, .int .i64 bits, .agg #[.int .u64 (W64 (hiN (A))), .int .u64 (W64 (loN (A)))], .agg #[.int .u64 (W64 (hiN (B))), .int .u64 (W64 (loN (B)))], .int .u64 (W64 x), .int .u64 (W64 y), .int .u64 (W64 u), .int .u64 (W64 v)] w fun e w' => e = .returned (.tuple #[.agg #[.int .u64 0, .int .u64 0], .agg #[.int .u64 0, .int .u64 0], .int .i64 2]) ∧ New w w' := by
  obtain ⟨hbl, HNN⟩ := boxes4 w (.cells #[.int .u64 (W64 (hiN (A))), .int .u64 (W64 (loN (A)))] 63) (.cells #[.int .u64 (W64 (hiN (B))), .int .u64 (W64 (loN (B)))] 63) (.cells #[.int .u64 0, .int .u64 0] 63) (.cells #[.int .u64 0, .int .u64 0] 63)
  obtain ⟨hb0, hb1, hb2, hb3⟩ := hbl
  have HN := Lib.hid HNN
  obtain ⟨w0, hw0⟩ : ∃ w0, (((((((w.alloc (.cells #[.int .u64 (W64 (hiN (A))), .int .u64 (W64 (loN (A)))] 63))).alloc (.cells #[.int .u64 (W64 (hiN (B))), .int .u64 (W64 (loN (B)))] 63))).alloc (.cells #[.int .u64 0, .int .u64 0] 63))).alloc (.cells #[.int .u64 0, .int .u64 0] 63)) = w0 := ⟨_, rfl⟩
  rw [hw0] at HN hb0 hb1 hb2 hb3
  have HW0 := Lib.hid hw0
  have HB0 := Lib.hid hb0
  have HB1 := Lib.hid hb1
  have HB2 := Lib.hid hb2
  have HB3 := Lib.hid hb3
  clear hw0 HNN hb0 hb1 hb2 hb3
  have x0 := cell_of_row _ _ 0 _ _ _ HB0.out
  have x1 := cell_of_row _ _ 1 _ _ _ HB0.out
  have y0 := cell_of_row _ _ 0 _ _ _ HB1.out
  have y1 := cell_of_row _ _ 1 _ _ _ HB1.out
  go_enter Tryz.func87, Tryz.ntmps87
  go_wp2_with fail
  rw [HW0.out]
  refine (HC.out _).mono ?_
  rintro e w9 ⟨rfl, hn⟩
  replace HN := Lib.hid (HN.out.trans hn)
  replace HB0 := Lib.hid ((hn.block _ (lt_of_block HB0.out)).trans HB0.out)
  replace HB1 := Lib.hid ((hn.block _ (lt_of_block HB1.out)).trans HB1.out)
  replace HB2 := Lib.hid ((hn.block _ (lt_of_block HB2.out)).trans HB2.out)
  replace HB3 := Lib.hid ((hn.block _ (lt_of_block HB3.out)).trans HB3.out)
  clear hn x0 x1 y0 y1 HW0
  go_wp2_with fail
  refine (HS.out _).mono ?_
  rintro e w8 ⟨rfl, hn⟩
  replace HN := Lib.hid (HN.out.trans hn)
  replace HB0 := Lib.hid ((hn.block _ (lt_of_block HB0.out)).trans HB0.out)
  replace HB1 := Lib.hid ((hn.block _ (lt_of_block HB1.out)).trans HB1.out)
  replace HB2 := Lib.hid ((hn.block _ (lt_of_block HB2.out)).trans HB2.out)
  replace HB3 := Lib.hid ((hn.block _ (lt_of_block HB3.out)).trans HB3.out)
  have hx := heap_alloc_new w8 (.cells #[.int .i64 (wd : Int), .int .i64 (kd : Int), .int .i64 (kd : Int)] 133)
  have hn2 := (New.refl w8).alloc (.cells #[.int .i64 (wd : Int), .int .i64 (kd : Int), .int .i64 (kd : Int)] 133)
  obtain ⟨wb, hw2⟩ : ∃ w2, w8.alloc (.cells #[.int .i64 (wd : Int), .int .i64 (kd : Int), .int .i64 (kd : Int)] 133) = w2 := ⟨_, rfl⟩
  rw [hw2] at hx hn2
  obtain ⟨qs, hq⟩ : ∃ q, w8.heap.size = q := ⟨_, rfl⟩
  rw [hq] at hx
  have HQS : Hid (w.heap.size + 1 + 1 + 1 < qs) := Lib.hid (by have := lt_of_block HB3.out; omega)
  have HSH := Lib.hid hx
  replace HN := Lib.hid (HN.out.trans hn2)
  have HE := Lib.hid (show w8.alloc (.cells #[.int .i64 (wd : Int), .int .i64 (kd : Int), .int .i64 (kd : Int)] 133) = wb ∧ w8.heap.size = qs from ⟨hw2, hq⟩)
  replace HB0 := Lib.hid ((hn2.block _ (lt_of_block HB0.out)).trans HB0.out)
  replace HB1 := Lib.hid ((hn2.block _ (lt_of_block HB1.out)).trans HB1.out)
  replace HB2 := Lib.hid ((hn2.block _ (lt_of_block HB2.out)).trans HB2.out)
  replace HB3 := Lib.hid ((hn2.block _ (lt_of_block HB3.out)).trans HB3.out)
  clear hn hx hn2 hw2 hq HS
  have h0 := cell_of_row _ _ 1 _ _ _ HSH.out
  go_wp2_with fail
  rw [HE.out.1, HE.out.2]
  clear HE
  refine (F1.out _).mono ?_
  rintro e w9 ⟨rfl, hn⟩
  replace HN := Lib.hid (HN.out.trans hn)
  replace HB0 := Lib.hid ((hn.block _ (lt_of_block HB0.out)).trans HB0.out)
  replace HB1 := Lib.hid ((hn.block _ (lt_of_block HB1.out)).trans HB1.out)
  replace HB2 := Lib.hid ((hn.block _ (lt_of_block HB2.out)).trans HB2.out)
  replace HB3 := Lib.hid ((hn.block _ (lt_of_block HB3.out)).trans HB3.out)
  replace HSH := Lib.hid ((hn.block _ (lt_of_block HSH.out)).trans HSH.out)
  clear hn h0
  have h0 := cell_of_row _ _ 1 _ _ _ HSH.out
  go_wp2_with fail
  refine (F2.out _).mono ?_
  rintro e w9 ⟨rfl, hn⟩
  replace HN := Lib.hid (HN.out.trans hn)
  replace HB0 := Lib.hid ((hn.block _ (lt_of_block HB0.out)).trans HB0.out)
  replace HB1 := Lib.hid ((hn.block _ (lt_of_block HB1.out)).trans HB1.out)
  replace HB2 := Lib.hid ((hn.block _ (lt_of_block HB2.out)).trans HB2.out)
  replace HB3 := Lib.hid ((hn.block _ (lt_of_block HB3.out)).trans HB3.out)
  replace HSH := Lib.hid ((hn.block _ (lt_of_block HSH.out)).trans HSH.out)
  clear hn h0
  have h0 := cell_of_row _ _ 1 _ _ _ HSH.out
  clear h0
  have k0 := cell_of_row _ _ 0 _ _ _ HB2.out
  have k1 := cell_of_row _ _ 1 _ _ _ HB2.out
  have k2 := cell_of_row _ _ 0 _ _ _ HB3.out
  have k3 := cell_of_row _ _ 1 _ _ _ HB3.out
  have kf := fun i => frozen_of_row _ _ i _ _ HB2.out
  have kg := fun i => frozen_of_row _ _ i _ _ HB3.out
  go_wp2
  refine bodyPost_ret (by simp [results, Tryz.results87, go_sem, k0, k1, k2, k3]; try rfl) rfl ?_
  exact ⟨rfl, (((HN.out.setCell (by show w.heap.size ≤ w.heap.size + 1 + 1; omega) _).setCell (by show w.heap.size ≤ w.heap.size + 1 + 1; omega) _).setCell (by show w.heap.size ≤ w.heap.size + 1 + 1 + 1; omega) _).setCell (by show w.heap.size ≤ w.heap.size + 1 + 1 + 1; omega) _⟩
set_option maxRecDepth 100000 in
set_option maxHeartbeats 2000000 in
theorem shift_no3 (A B wd kd : Nat) (x y u v : BitVec 64) (kind bits : Int) (HC : Hid (∀ w : World, Calls Tryz.prog 125 #[.int .i64 kind, .int .i64 bits, .agg #[.int .u64 (W64 (hiN (A))), .int .u64 (W64 (loN (A)))], .agg #[.int .u64 (W64 (hiN (B))), .int .u64 (W64 (loN (B)))]] w fun e w' => e = .returned (.int .i64 0) ∧ New w w')) (HS : Hid (∀ w : World, Calls Tryz.prog 126 #[.int .i64 kind] w fun e w' => e = .returned (.tuple #[.agg #[.int .i64 (wd : Int), .int .i64 (kd : Int), .int .i64 (kd : Int)], .bool true]) ∧ New w w')) (F1 : Hid (∀ w : World, Calls Tryz.prog 127 #[.int .u64 (W64 x), .int .i64 (kd : Int)] w fun e w' => e = .returned (.bool true) ∧ New w w')) (F2 : Hid (∀ w : World, Calls Tryz.prog 127 #[.int .u64 (W64 y), .int .i64 (kd : Int)] w fun e w' => e = .returned (.bool true) ∧ New w w')) (F3 : Hid (∀ w : World, Calls Tryz.prog 127 #[.int .u64 (W64 u), .int .i64 bits] w fun e w' => e = .returned (.bool false) ∧ New w w')) (w : World) :
    Calls Tryz.prog 87 #[.int .i64 kind, .int .i64 bits, .agg #[.int .u64 (W64 (hiN (A))), .int .u64 (W64 (loN (A)))], .agg #[.int .u64 (W64 (hiN (B))), .int .u64 (W64 (loN (B)))], .int .u64 (W64 x), .int .u64 (W64 y), .int .u64 (W64 u), .int .u64 (W64 v)] w fun e w' => e = .returned (.tuple #[.agg #[.int .u64 0, .int .u64 0], .agg #[.int .u64 0, .int .u64 0], .int .i64 2]) ∧ New w w' := by
  obtain ⟨hbl, HNN⟩ := boxes4 w (.cells #[.int .u64 (W64 (hiN (A))), .int .u64 (W64 (loN (A)))] 63) (.cells #[.int .u64 (W64 (hiN (B))), .int .u64 (W64 (loN (B)))] 63) (.cells #[.int .u64 0, .int .u64 0] 63) (.cells #[.int .u64 0, .int .u64 0] 63)
  obtain ⟨hb0, hb1, hb2, hb3⟩ := hbl
  have HN := Lib.hid HNN
  obtain ⟨w0, hw0⟩ : ∃ w0, (((((((w.alloc (.cells #[.int .u64 (W64 (hiN (A))), .int .u64 (W64 (loN (A)))] 63))).alloc (.cells #[.int .u64 (W64 (hiN (B))), .int .u64 (W64 (loN (B)))] 63))).alloc (.cells #[.int .u64 0, .int .u64 0] 63))).alloc (.cells #[.int .u64 0, .int .u64 0] 63)) = w0 := ⟨_, rfl⟩
  rw [hw0] at HN hb0 hb1 hb2 hb3
  have HW0 := Lib.hid hw0
  have HB0 := Lib.hid hb0
  have HB1 := Lib.hid hb1
  have HB2 := Lib.hid hb2
  have HB3 := Lib.hid hb3
  clear hw0 HNN hb0 hb1 hb2 hb3
  have x0 := cell_of_row _ _ 0 _ _ _ HB0.out
  have x1 := cell_of_row _ _ 1 _ _ _ HB0.out
  have y0 := cell_of_row _ _ 0 _ _ _ HB1.out
  have y1 := cell_of_row _ _ 1 _ _ _ HB1.out
  go_enter Tryz.func87, Tryz.ntmps87
  go_wp2_with fail
  rw [HW0.out]
  refine (HC.out _).mono ?_
  rintro e w9 ⟨rfl, hn⟩
  replace HN := Lib.hid (HN.out.trans hn)
  replace HB0 := Lib.hid ((hn.block _ (lt_of_block HB0.out)).trans HB0.out)
  replace HB1 := Lib.hid ((hn.block _ (lt_of_block HB1.out)).trans HB1.out)
  replace HB2 := Lib.hid ((hn.block _ (lt_of_block HB2.out)).trans HB2.out)
  replace HB3 := Lib.hid ((hn.block _ (lt_of_block HB3.out)).trans HB3.out)
  clear hn x0 x1 y0 y1 HW0
  go_wp2_with fail
  refine (HS.out _).mono ?_
  rintro e w8 ⟨rfl, hn⟩
  replace HN := Lib.hid (HN.out.trans hn)
  replace HB0 := Lib.hid ((hn.block _ (lt_of_block HB0.out)).trans HB0.out)
  replace HB1 := Lib.hid ((hn.block _ (lt_of_block HB1.out)).trans HB1.out)
  replace HB2 := Lib.hid ((hn.block _ (lt_of_block HB2.out)).trans HB2.out)
  replace HB3 := Lib.hid ((hn.block _ (lt_of_block HB3.out)).trans HB3.out)
  have hx := heap_alloc_new w8 (.cells #[.int .i64 (wd : Int), .int .i64 (kd : Int), .int .i64 (kd : Int)] 133)
  have hn2 := (New.refl w8).alloc (.cells #[.int .i64 (wd : Int), .int .i64 (kd : Int), .int .i64 (kd : Int)] 133)
  obtain ⟨wb, hw2⟩ : ∃ w2, w8.alloc (.cells #[.int .i64 (wd : Int), .int .i64 (kd : Int), .int .i64 (kd : Int)] 133) = w2 := ⟨_, rfl⟩
  rw [hw2] at hx hn2
  obtain ⟨qs, hq⟩ : ∃ q, w8.heap.size = q := ⟨_, rfl⟩
  rw [hq] at hx
  have HQS : Hid (w.heap.size + 1 + 1 + 1 < qs) := Lib.hid (by have := lt_of_block HB3.out; omega)
  have HSH := Lib.hid hx
  replace HN := Lib.hid (HN.out.trans hn2)
  have HE := Lib.hid (show w8.alloc (.cells #[.int .i64 (wd : Int), .int .i64 (kd : Int), .int .i64 (kd : Int)] 133) = wb ∧ w8.heap.size = qs from ⟨hw2, hq⟩)
  replace HB0 := Lib.hid ((hn2.block _ (lt_of_block HB0.out)).trans HB0.out)
  replace HB1 := Lib.hid ((hn2.block _ (lt_of_block HB1.out)).trans HB1.out)
  replace HB2 := Lib.hid ((hn2.block _ (lt_of_block HB2.out)).trans HB2.out)
  replace HB3 := Lib.hid ((hn2.block _ (lt_of_block HB3.out)).trans HB3.out)
  clear hn hx hn2 hw2 hq HS
  have h0 := cell_of_row _ _ 1 _ _ _ HSH.out
  go_wp2_with fail
  rw [HE.out.1, HE.out.2]
  clear HE
  refine (F1.out _).mono ?_
  rintro e w9 ⟨rfl, hn⟩
  replace HN := Lib.hid (HN.out.trans hn)
  replace HB0 := Lib.hid ((hn.block _ (lt_of_block HB0.out)).trans HB0.out)
  replace HB1 := Lib.hid ((hn.block _ (lt_of_block HB1.out)).trans HB1.out)
  replace HB2 := Lib.hid ((hn.block _ (lt_of_block HB2.out)).trans HB2.out)
  replace HB3 := Lib.hid ((hn.block _ (lt_of_block HB3.out)).trans HB3.out)
  replace HSH := Lib.hid ((hn.block _ (lt_of_block HSH.out)).trans HSH.out)
  clear hn h0
  have h0 := cell_of_row _ _ 1 _ _ _ HSH.out
  go_wp2_with fail
  refine (F2.out _).mono ?_
  rintro e w9 ⟨rfl, hn⟩
  replace HN := Lib.hid (HN.out.trans hn)
  replace HB0 := Lib.hid ((hn.block _ (lt_of_block HB0.out)).trans HB0.out)
  replace HB1 := Lib.hid ((hn.block _ (lt_of_block HB1.out)).trans HB1.out)
  replace HB2 := Lib.hid ((hn.block _ (lt_of_block HB2.out)).trans HB2.out)
  replace HB3 := Lib.hid ((hn.block _ (lt_of_block HB3.out)).trans HB3.out)
  replace HSH := Lib.hid ((hn.block _ (lt_of_block HSH.out)).trans HSH.out)
  clear hn h0
  have h0 := cell_of_row _ _ 1 _ _ _ HSH.out
  go_wp2_with fail
  refine (F3.out _).mono ?_
  rintro e w9 ⟨rfl, hn⟩
  replace HN := Lib.hid (HN.out.trans hn)
  replace HB0 := Lib.hid ((hn.block _ (lt_of_block HB0.out)).trans HB0.out)
  replace HB1 := Lib.hid ((hn.block _ (lt_of_block HB1.out)).trans HB1.out)
  replace HB2 := Lib.hid ((hn.block _ (lt_of_block HB2.out)).trans HB2.out)
  replace HB3 := Lib.hid ((hn.block _ (lt_of_block HB3.out)).trans HB3.out)
  replace HSH := Lib.hid ((hn.block _ (lt_of_block HSH.out)).trans HSH.out)
  clear hn h0
  have h0 := cell_of_row _ _ 1 _ _ _ HSH.out
  clear h0
  have k0 := cell_of_row _ _ 0 _ _ _ HB2.out
  have k1 := cell_of_row _ _ 1 _ _ _ HB2.out
  have k2 := cell_of_row _ _ 0 _ _ _ HB3.out
  have k3 := cell_of_row _ _ 1 _ _ _ HB3.out
  have kf := fun i => frozen_of_row _ _ i _ _ HB2.out
  have kg := fun i => frozen_of_row _ _ i _ _ HB3.out
  go_wp2
  refine bodyPost_ret (by simp [results, Tryz.results87, go_sem, k0, k1, k2, k3]; try rfl) rfl ?_
  exact ⟨rfl, (((HN.out.setCell (by show w.heap.size ≤ w.heap.size + 1 + 1; omega) _).setCell (by show w.heap.size ≤ w.heap.size + 1 + 1; omega) _).setCell (by show w.heap.size ≤ w.heap.size + 1 + 1 + 1; omega) _).setCell (by show w.heap.size ≤ w.heap.size + 1 + 1 + 1; omega) _⟩
set_option maxRecDepth 100000 in
set_option maxHeartbeats 2000000 in
theorem shift_no4 (A B wd kd : Nat) (x y u v : BitVec 64) (kind bits : Int) (HC : Hid (∀ w : World, Calls Tryz.prog 125 #[.int .i64 kind, .int .i64 bits, .agg #[.int .u64 (W64 (hiN (A))), .int .u64 (W64 (loN (A)))], .agg #[.int .u64 (W64 (hiN (B))), .int .u64 (W64 (loN (B)))]] w fun e w' => e = .returned (.int .i64 0) ∧ New w w')) (HS : Hid (∀ w : World, Calls Tryz.prog 126 #[.int .i64 kind] w fun e w' => e = .returned (.tuple #[.agg #[.int .i64 (wd : Int), .int .i64 (kd : Int), .int .i64 (kd : Int)], .bool true]) ∧ New w w')) (F1 : Hid (∀ w : World, Calls Tryz.prog 127 #[.int .u64 (W64 x), .int .i64 (kd : Int)] w fun e w' => e = .returned (.bool true) ∧ New w w')) (F2 : Hid (∀ w : World, Calls Tryz.prog 127 #[.int .u64 (W64 y), .int .i64 (kd : Int)] w fun e w' => e = .returned (.bool true) ∧ New w w')) (F3 : Hid (∀ w : World, Calls Tryz.prog 127 #[.int .u64 (W64 u), .int .i64 bits] w fun e w' => e = .returned (.bool true) ∧ New w w')) (F4 : Hid (∀ w : World, Calls Tryz.prog 127 #[.int .u64 (W64 v), .int .i64 bits] w fun e w' => e = .returned (.bool false) ∧ New w w')) (w : World) :
    Calls Tryz.prog 87 #[.int .i64 kind, .int .i64 bits, .agg #[.int .u64 (W64 (hiN (A))), .int .u64 (W64 (loN (A)))], .agg #[.int .u64 (W64 (hiN (B))), .int .u64 (W64 (loN (B)))], .int .u64 (W64 x), .int .u64 (W64 y), .int .u64 (W64 u), .int .u64 (W64 v)] w fun e w' => e = .returned (.tuple #[.agg #[.int .u64 0, .int .u64 0], .agg #[.int .u64 0, .int .u64 0], .int .i64 2]) ∧ New w w' := by
  obtain ⟨hbl, HNN⟩ := boxes4 w (.cells #[.int .u64 (W64 (hiN (A))), .int .u64 (W64 (loN (A)))] 63) (.cells #[.int .u64 (W64 (hiN (B))), .int .u64 (W64 (loN (B)))] 63) (.cells #[.int .u64 0, .int .u64 0] 63) (.cells #[.int .u64 0, .int .u64 0] 63)
  obtain ⟨hb0, hb1, hb2, hb3⟩ := hbl
  have HN := Lib.hid HNN
  obtain ⟨w0, hw0⟩ : ∃ w0, (((((((w.alloc (.cells #[.int .u64 (W64 (hiN (A))), .int .u64 (W64 (loN (A)))] 63))).alloc (.cells #[.int .u64 (W64 (hiN (B))), .int .u64 (W64 (loN (B)))] 63))).alloc (.cells #[.int .u64 0, .int .u64 0] 63))).alloc (.cells #[.int .u64 0, .int .u64 0] 63)) = w0 := ⟨_, rfl⟩
  rw [hw0] at HN hb0 hb1 hb2 hb3
  have HW0 := Lib.hid hw0
  have HB0 := Lib.hid hb0
  have HB1 := Lib.hid hb1
  have HB2 := Lib.hid hb2
  have HB3 := Lib.hid hb3
  clear hw0 HNN hb0 hb1 hb2 hb3
  have x0 := cell_of_row _ _ 0 _ _ _ HB0.out
  have x1 := cell_of_row _ _ 1 _ _ _ HB0.out
  have y0 := cell_of_row _ _ 0 _ _ _ HB1.out
  have y1 := cell_of_row _ _ 1 _ _ _ HB1.out
  go_enter Tryz.func87, Tryz.ntmps87
  go_wp2_with fail
  rw [HW0.out]
  refine (HC.out _).mono ?_
  rintro e w9 ⟨rfl, hn⟩
  replace HN := Lib.hid (HN.out.trans hn)
  replace HB0 := Lib.hid ((hn.block _ (lt_of_block HB0.out)).trans HB0.out)
  replace HB1 := Lib.hid ((hn.block _ (lt_of_block HB1.out)).trans HB1.out)
  replace HB2 := Lib.hid ((hn.block _ (lt_of_block HB2.out)).trans HB2.out)
  replace HB3 := Lib.hid ((hn.block _ (lt_of_block HB3.out)).trans HB3.out)
  clear hn x0 x1 y0 y1 HW0
  go_wp2_with fail
  refine (HS.out _).mono ?_
  rintro e w8 ⟨rfl, hn⟩
  replace HN := Lib.hid (HN.out.trans hn)
  replace HB0 := Lib.hid ((hn.block _ (lt_of_block HB0.out)).trans HB0.out)
  replace HB1 := Lib.hid ((hn.block _ (lt_of_block HB1.out)).trans HB1.out)
  replace HB2 := Lib.hid ((hn.block _ (lt_of_block HB2.out)).trans HB2.out)
  replace HB3 := Lib.hid ((hn.block _ (lt_of_block HB3.out)).trans HB3.out)
  have hx := heap_alloc_new w8 (.cells #[.int .i64 (wd : Int), .int .i64 (kd : Int), .int .i64 (kd : Int)] 133)
  have hn2 := (New.refl w8).alloc (.cells #[.int .i64 (wd : Int), .int .i64 (kd : Int), .int .i64 (kd : Int)] 133)
  obtain ⟨wb, hw2⟩ : ∃ w2, w8.alloc (.cells #[.int .i64 (wd : Int), .int .i64 (kd : Int), .int .i64 (kd : Int)] 133) = w2 := ⟨_, rfl⟩
  rw [hw2] at hx hn2
  obtain ⟨qs, hq⟩ : ∃ q, w8.heap.size = q := ⟨_, rfl⟩
  rw [hq] at hx
  have HQS : Hid (w.heap.size + 1 + 1 + 1 < qs) := Lib.hid (by have := lt_of_block HB3.out; omega)
  have HSH := Lib.hid hx
  replace HN := Lib.hid (HN.out.trans hn2)
  have HE := Lib.hid (show w8.alloc (.cells #[.int .i64 (wd : Int), .int .i64 (kd : Int), .int .i64 (kd : Int)] 133) = wb ∧ w8.heap.size = qs from ⟨hw2, hq⟩)
  replace HB0 := Lib.hid ((hn2.block _ (lt_of_block HB0.out)).trans HB0.out)
  replace HB1 := Lib.hid ((hn2.block _ (lt_of_block HB1.out)).trans HB1.out)
  replace HB2 := Lib.hid ((hn2.block _ (lt_of_block HB2.out)).trans HB2.out)
  replace HB3 := Lib.hid ((hn2.block _ (lt_of_block HB3.out)).trans HB3.out)
  clear hn hx hn2 hw2 hq HS
  have h0 := cell_of_row _ _ 1 _ _ _ HSH.out
  go_wp2_with fail
  rw [HE.out.1, HE.out.2]
  clear HE
  refine (F1.out _).mono ?_
  rintro e w9 ⟨rfl, hn⟩
  replace HN := Lib.hid (HN.out.trans hn)
  replace HB0 := Lib.hid ((hn.block _ (lt_of_block HB0.out)).trans HB0.out)
  replace HB1 := Lib.hid ((hn.block _ (lt_of_block HB1.out)).trans HB1.out)
  replace HB2 := Lib.hid ((hn.block _ (lt_of_block HB2.out)).trans HB2.out)
  replace HB3 := Lib.hid ((hn.block _ (lt_of_block HB3.out)).trans HB3.out)
  replace HSH := Lib.hid ((hn.block _ (lt_of_block HSH.out)).trans HSH.out)
  clear hn h0
  have h0 := cell_of_row _ _ 1 _ _ _ HSH.out
  go_wp2_with fail
  refine (F2.out _).mono ?_
  rintro e w9 ⟨rfl, hn⟩
  replace HN := Lib.hid (HN.out.trans hn)
  replace HB0 := Lib.hid ((hn.block _ (lt_of_block HB0.out)).trans HB0.out)
  replace HB1 := Lib.hid ((hn.block _ (lt_of_block HB1.out)).trans HB1.out)
  replace HB2 := Lib.hid ((hn.block _ (lt_of_block HB2.out)).trans HB2.out)
  replace HB3 := Lib.hid ((hn.block _ (lt_of_block HB3.out)).trans HB3.out)
  replace HSH := Lib.hid ((hn.block _ (lt_of_block HSH.out)).trans HSH.out)
  clear hn h0
  have h0 := cell_of_row _ _ 1 _ _ _ HSH.out
  go_wp2_with fail
  refine (F3.out _).mono ?_
  rintro e w9 ⟨rfl, hn⟩
  replace HN := Lib.hid (HN.out.trans hn)
  replace HB0 := Lib.hid ((hn.block _ (lt_of_block HB0.out)).trans HB0.out)
  replace HB1 := Lib.hid ((hn.block _ (lt_of_block HB1.out)).trans HB1.out)
  replace HB2 := Lib.hid ((hn.block _ (lt_of_block HB2.out)).trans HB2.out)
  replace HB3 := Lib.hid ((hn.block _ (lt_of_block HB3.out)).trans HB3.out)
  replace HSH := Lib.hid ((hn.block _ (lt_of_block HSH.out)).trans HSH.out)
  clear hn h0
  have h0 := cell_of_row _ _ 1 _ _ _ HSH.out
  go_wp2_with fail
  refine (F4.out _).mono ?_
  rintro e w9 ⟨rfl, hn⟩
  replace HN := Lib.hid (HN.out.trans hn)
  replace HB0 := Lib.hid ((hn.block _ (lt_of_block HB0.out)).trans HB0.out)
  replace HB1 := Lib.hid ((hn.block _ (lt_of_block HB1.out)).trans HB1.out)
  replace HB2 := Lib.hid ((hn.block _ (lt_of_block HB2.out)).trans HB2.out)
  replace HB3 := Lib.hid ((hn.block _ (lt_of_block HB3.out)).trans HB3.out)
  replace HSH := Lib.hid ((hn.block _ (lt_of_block HSH.out)).trans HSH.out)
  clear hn h0
  have h0 := cell_of_row _ _ 1 _ _ _ HSH.out
  clear h0
  have k0 := cell_of_row _ _ 0 _ _ _ HB2.out
  have k1 := cell_of_row _ _ 1 _ _ _ HB2.out
  have k2 := cell_of_row _ _ 0 _ _ _ HB3.out
  have k3 := cell_of_row _ _ 1 _ _ _ HB3.out
  have kf := fun i => frozen_of_row _ _ i _ _ HB2.out
  have kg := fun i => frozen_of_row _ _ i _ _ HB3.out
  go_wp2
  refine bodyPost_ret (by simp [results, Tryz.results87, go_sem, k0, k1, k2, k3]; try rfl) rfl ?_
  exact ⟨rfl, (((HN.out.setCell (by show w.heap.size ≤ w.heap.size + 1 + 1; omega) _).setCell (by show w.heap.size ≤ w.heap.size + 1 + 1; omega) _).setCell (by show w.heap.size ≤ w.heap.size + 1 + 1 + 1; omega) _).setCell (by show w.heap.size ≤ w.heap.size + 1 + 1 + 1; omega) _⟩
set_option maxRecDepth 100000 in
set_option maxHeartbeats 2000000 in
theorem shift_same (A B wd kd : Nat) (x y u v : BitVec 64) (hxy : (x == y) = true) (kind bits : Int) (HC : Hid (∀ w : World, Calls Tryz.prog 125 #[.int .i64 kind, .int .i64 bits, .agg #[.int .u64 (W64 (hiN (A))), .int .u64 (W64 (loN (A)))], .agg #[.int .u64 (W64 (hiN (B))), .int .u64 (W64 (loN (B)))]] w fun e w' => e = .returned (.int .i64 0) ∧ New w w')) (HS : Hid (∀ w : World, Calls Tryz.prog 126 #[.int .i64 kind] w fun e w' => e = .returned (.tuple #[.agg #[.int .i64 (wd : Int), .int .i64 (kd : Int), .int .i64 (kd : Int)], .bool true]) ∧ New w w')) (F1 : Hid (∀ w : World, Calls Tryz.prog 127 #[.int .u64 (W64 x), .int .i64 (kd : Int)] w fun e w' => e = .returned (.bool true) ∧ New w w')) (F2 : Hid (∀ w : World, Calls Tryz.prog 127 #[.int .u64 (W64 y), .int .i64 (kd : Int)] w fun e w' => e = .returned (.bool true) ∧ New w w')) (F3 : Hid (∀ w : World, Calls Tryz.prog 127 #[.int .u64 (W64 u), .int .i64 bits] w fun e w' => e = .returned (.bool true) ∧ New w w')) (F4 : Hid (∀ w : World, Calls Tryz.prog 127 #[.int .u64 (W64 v), .int .i64 bits] w fun e w' => e = .returned (.bool true) ∧ New w w')) (w : World) :
    Calls Tryz.prog 87 #[.int .i64 kind, .int .i64 bits, .agg #[.int .u64 (W64 (hiN (A))), .int .u64 (W64 (loN (A)))], .agg #[.int .u64 (W64 (hiN (B))), .int .u64 (W64 (loN (B)))], .int .u64 (W64 x), .int .u64 (W64 y), .int .u64 (W64 u), .int .u64 (W64 v)] w fun e w' => e = .returned (.tuple #[.agg #[.int .u64 0, .int .u64 0], .agg #[.int .u64 0, .int .u64 0], .int .i64 15]) ∧ New w w' := by
  obtain ⟨hbl, HNN⟩ := boxes4 w (.cells #[.int .u64 (W64 (hiN (A))), .int .u64 (W64 (loN (A)))] 63) (.cells #[.int .u64 (W64 (hiN (B))), .int .u64 (W64 (loN (B)))] 63) (.cells #[.int .u64 0, .int .u64 0] 63) (.cells #[.int .u64 0, .int .u64 0] 63)
  obtain ⟨hb0, hb1, hb2, hb3⟩ := hbl
  have HN := Lib.hid HNN
  obtain ⟨w0, hw0⟩ : ∃ w0, (((((((w.alloc (.cells #[.int .u64 (W64 (hiN (A))), .int .u64 (W64 (loN (A)))] 63))).alloc (.cells #[.int .u64 (W64 (hiN (B))), .int .u64 (W64 (loN (B)))] 63))).alloc (.cells #[.int .u64 0, .int .u64 0] 63))).alloc (.cells #[.int .u64 0, .int .u64 0] 63)) = w0 := ⟨_, rfl⟩
  rw [hw0] at HN hb0 hb1 hb2 hb3
  have HW0 := Lib.hid hw0
  have HB0 := Lib.hid hb0
  have HB1 := Lib.hid hb1
  have HB2 := Lib.hid hb2
  have HB3 := Lib.hid hb3
  clear hw0 HNN hb0 hb1 hb2 hb3
  have x0 := cell_of_row _ _ 0 _ _ _ HB0.out
  have x1 := cell_of_row _ _ 1 _ _ _ HB0.out
  have y0 := cell_of_row _ _ 0 _ _ _ HB1.out
  have y1 := cell_of_row _ _ 1 _ _ _ HB1.out
  go_enter Tryz.func87, Tryz.ntmps87
  go_wp2_with fail
  rw [HW0.out]
  refine (HC.out _).mono ?_
  rintro e w9 ⟨rfl, hn⟩
  replace HN := Lib.hid (HN.out.trans hn)
  replace HB0 := Lib.hid ((hn.block _ (lt_of_block HB0.out)).trans HB0.out)
  replace HB1 := Lib.hid ((hn.block _ (lt_of_block HB1.out)).trans HB1.out)
  replace HB2 := Lib.hid ((hn.block _ (lt_of_block HB2.out)).trans HB2.out)
  replace HB3 := Lib.hid ((hn.block _ (lt_of_block HB3.out)).trans HB3.out)
  clear hn x0 x1 y0 y1 HW0
  go_wp2_with fail
  refine (HS.out _).mono ?_
  rintro e w8 ⟨rfl, hn⟩
  replace HN := Lib.hid (HN.out.trans hn)
  replace HB0 := Lib.hid ((hn.block _ (lt_of_block HB0.out)).trans HB0.out)
  replace HB1 := Lib.hid ((hn.block _ (lt_of_block HB1.out)).trans HB1.out)
  replace HB2 := Lib.hid ((hn.block _ (lt_of_block HB2.out)).trans HB2.out)
  replace HB3 := Lib.hid ((hn.block _ (lt_of_block HB3.out)).trans HB3.out)
  have hx := heap_alloc_new w8 (.cells #[.int .i64 (wd : Int), .int .i64 (kd : Int), .int .i64 (kd : Int)] 133)
  have hn2 := (New.refl w8).alloc (.cells #[.int .i64 (wd : Int), .int .i64 (kd : Int), .int .i64 (kd : Int)] 133)
  obtain ⟨wb, hw2⟩ : ∃ w2, w8.alloc (.cells #[.int .i64 (wd : Int), .int .i64 (kd : Int), .int .i64 (kd : Int)] 133) = w2 := ⟨_, rfl⟩
  rw [hw2] at hx hn2
  obtain ⟨qs, hq⟩ : ∃ q, w8.heap.size = q := ⟨_, rfl⟩
  rw [hq] at hx
  have HQS : Hid (w.heap.size + 1 + 1 + 1 < qs) := Lib.hid (by have := lt_of_block HB3.out; omega)
  have HSH := Lib.hid hx
  replace HN := Lib.hid (HN.out.trans hn2)
  have HE := Lib.hid (show w8.alloc (.cells #[.int .i64 (wd : Int), .int .i64 (kd : Int), .int .i64 (kd : Int)] 133) = wb ∧ w8.heap.size = qs from ⟨hw2, hq⟩)
  replace HB0 := Lib.hid ((hn2.block _ (lt_of_block HB0.out)).trans HB0.out)
  replace HB1 := Lib.hid ((hn2.block _ (lt_of_block HB1.out)).trans HB1.out)
  replace HB2 := Lib.hid ((hn2.block _ (lt_of_block HB2.out)).trans HB2.out)
  replace HB3 := Lib.hid ((hn2.block _ (lt_of_block HB3.out)).trans HB3.out)
  clear hn hx hn2 hw2 hq HS
  have h0 := cell_of_row _ _ 1 _ _ _ HSH.out
  go_wp2_with fail
  rw [HE.out.1, HE.out.2]
  clear HE
  refine (F1.out _).mono ?_
  rintro e w9 ⟨rfl, hn⟩
  replace HN := Lib.hid (HN.out.trans hn)
  replace HB0 := Lib.hid ((hn.block _ (lt_of_block HB0.out)).trans HB0.out)
  replace HB1 := Lib.hid ((hn.block _ (lt_of_block HB1.out)).trans HB1.out)
  replace HB2 := Lib.hid ((hn.block _ (lt_of_block HB2.out)).trans HB2.out)
  replace HB3 := Lib.hid ((hn.block _ (lt_of_block HB3.out)).trans HB3.out)
  replace HSH := Lib.hid ((hn.block _ (lt_of_block HSH.out)).trans HSH.out)
  clear hn h0
  have h0 := cell_of_row _ _ 1 _ _ _ HSH.out
  go_wp2_with fail
  refine (F2.out _).mono ?_
  rintro e w9 ⟨rfl, hn⟩
  replace HN := Lib.hid (HN.out.trans hn)
  replace HB0 := Lib.hid ((hn.block _ (lt_of_block HB0.out)).trans HB0.out)
  replace HB1 := Lib.hid ((hn.block _ (lt_of_block HB1.out)).trans HB1.out)
  replace HB2 := Lib.hid ((hn.block _ (lt_of_block HB2.out)).trans HB2.out)
  replace HB3 := Lib.hid ((hn.block _ (lt_of_block HB3.out)).trans HB3.out)
  replace HSH := Lib.hid ((hn.block _ (lt_of_block HSH.out)).trans HSH.out)
  clear hn h0
  have h0 := cell_of_row _ _ 1 _ _ _ HSH.out
  go_wp2_with fail
  refine (F3.out _).mono ?_
  rintro e w9 ⟨rfl, hn⟩
  replace HN := Lib.hid (HN.out.trans hn)
  replace HB0 := Lib.hid ((hn.block _ (lt_of_block HB0.out)).trans HB0.out)
  replace HB1 := Lib.hid ((hn.block _ (lt_of_block HB1.out)).trans HB1.out)
  replace HB2 := Lib.hid ((hn.block _ (lt_of_block HB2.out)).trans HB2.out)
  replace HB3 := Lib.hid ((hn.block _ (lt_of_block HB3.out)).trans HB3.out)
  replace HSH := Lib.hid ((hn.block _ (lt_of_block HSH.out)).trans HSH.out)
  clear hn h0
  have h0 := cell_of_row _ _ 1 _ _ _ HSH.out
  go_wp2_with fail
  refine (F4.out _).mono ?_
  rintro e w9 ⟨rfl, hn⟩
  replace HN := Lib.hid (HN.out.trans hn)
  replace HB0 := Lib.hid ((hn.block _ (lt_of_block HB0.out)).trans HB0.out)
  replace HB1 := Lib.hid ((hn.block _ (lt_of_block HB1.out)).trans HB1.out)
  replace HB2 := Lib.hid ((hn.block _ (lt_of_block HB2.out)).trans HB2.out)
  replace HB3 := Lib.hid ((hn.block _ (lt_of_block HB3.out)).trans HB3.out)
  replace HSH := Lib.hid ((hn.block _ (lt_of_block HSH.out)).trans HSH.out)
  clear hn h0
  have h0 := cell_of_row _ _ 1 _ _ _ HSH.out
  clear h0
  have k0 := cell_of_row _ _ 0 _ _ _ HB2.out
  have k1 := cell_of_row _ _ 1 _ _ _ HB2.out
  have k2 := cell_of_row _ _ 0 _ _ _ HB3.out
  have k3 := cell_of_row _ _ 1 _ _ _ HB3.out
  have kf := fun i => frozen_of_row _ _ i _ _ HB2.out
  have kg := fun i => frozen_of_row _ _ i _ _ HB3.out
  go_wp2
  refine bodyPost_ret (by simp [results, Tryz.results87, go_sem, k0, k1, k2, k3]; try rfl) rfl ?_
  exact ⟨rfl, (((HN.out.setCell (by show w.heap.size ≤ w.heap.size + 1 + 1; omega) _).setCell (by show w.heap.size ≤ w.heap.size + 1 + 1; omega) _).setCell (by show w.heap.size ≤ w.heap.size + 1 + 1 + 1; omega) _).setCell (by show w.heap.size ≤ w.heap.size + 1 + 1 + 1; omega) _⟩
end Go.Proofs.YtebcfbcfipmahaaGreat
