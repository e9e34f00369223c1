/- The law MaddShifts where Shift brings them there. -/
import Derived.Test.YtfiihbknkglggaaMadR
namespace Go.Proofs.Ytfiihbknkglggaa
open Go Go.RowKit Go.Bv
set_option linter.unusedVariables false
theorem zz_set {P : World} {b c : Nat} (h : P.heap[c]? = some (.cells #[.int .u64 0, .int .u64 0] 24 (0, 0))) (hne : b ≠ c) (x y : Value) : ((P.setCell ⟨b, 0, none⟩ x).setCell ⟨b, 1, none⟩ y).heap[c]? = some (.cells #[.int .u64 0, .int .u64 0] 24 (0, 0)) := (heap_setCell_other _ _ _ _ (by simp; try omega)).trans ((heap_setCell_other _ _ _ _ (by simp; try omega)).trans h)
theorem zz_b (P : World) : ((P.alloc (.cells #[.int .u64 0, .int .u64 0] 24)).alloc (.cells #[.int .u64 0, .int .u64 0] 24)).heap[P.heap.size + 1]? = some (.cells #[.int .u64 0, .int .u64 0] 24 (0, 0)) := by
  have h := heap_alloc_new (P.alloc (.cells #[.int .u64 0, .int .u64 0] 24)) (.cells #[.int .u64 0, .int .u64 0] 24)
  rw [show (P.alloc (.cells #[.int .u64 0, .int .u64 0] 24)).heap.size = P.heap.size + 1 by simp] at h
  exact h
theorem zz_a (P : World) : ((P.alloc (.cells #[.int .u64 0, .int .u64 0] 24)).alloc (.cells #[.int .u64 0, .int .u64 0] 24)).heap[P.heap.size]? = some (.cells #[.int .u64 0, .int .u64 0] 24 (0, 0)) := zu_stay (zu_new P) ((New.refl _).alloc _)
theorem zw_other {P : World} {b c : Nat} {o : Obj} (h : P.heap[c]? = some o) (hne : b ≠ c) (x y : Value) : ((P.setCell ⟨b, 0, none⟩ x).setCell ⟨b, 1, none⟩ y).heap[c]? = some o := (heap_setCell_other _ _ _ _ (by simp; try omega)).trans ((heap_setCell_other _ _ _ _ (by simp; try omega)).trans h)
theorem zf1a {P : World} {b c : Nat} {x0 x1 y0 y1 : Value} (h : P.heap[b]? = some (.cells #[.int .u64 0, .int .u64 0] 24 (0, 0))) (hne : b ≠ c) : ((((P.setCell ⟨b, 0, none⟩ x0).setCell ⟨b, 1, none⟩ x1).setCell ⟨c, 0, none⟩ y0).setCell ⟨c, 1, none⟩ y1).heap[b]? = some (.cells #[x0, x1] 24 (0, 0)) := zw_other (zu_put x0 x1 h) hne.symm y0 y1
theorem zf1b {P : World} {b c : Nat} {x0 x1 y0 y1 : Value} (h : P.heap[c]? = some (.cells #[.int .u64 0, .int .u64 0] 24 (0, 0))) (hne : b ≠ c) : ((((P.setCell ⟨b, 0, none⟩ x0).setCell ⟨b, 1, none⟩ x1).setCell ⟨c, 0, none⟩ y0).setCell ⟨c, 1, none⟩ y1).heap[c]? = some (.cells #[y0, y1] 24 (0, 0)) := zu_put y0 y1 (zz_set h hne x0 x1)
theorem zf2a {P : World} {b : Nat} {x0 x1 y0 y1 : Value} (h : P.heap[b]? = some (.cells #[.int .u64 0, .int .u64 0] 24 (0, 0))) : (((((P.alloc (.cells #[.int .u64 0, .int .u64 0] 24)).setCell ⟨b, 0, none⟩ x0).setCell ⟨b, 1, none⟩ x1).setCell ⟨P.heap.size, 0, none⟩ y0).setCell ⟨P.heap.size, 1, none⟩ y1).heap[b]? = some (.cells #[x0, x1] 24 (0, 0)) := zf1a (zu_stay h ((New.refl _).alloc _)) (Nat.ne_of_lt (lt_of_block h))
theorem zf2b {P : World} {b : Nat} {x0 x1 y0 y1 : Value} (h : P.heap[b]? = some (.cells #[.int .u64 0, .int .u64 0] 24 (0, 0))) : (((((P.alloc (.cells #[.int .u64 0, .int .u64 0] 24)).setCell ⟨b, 0, none⟩ x0).setCell ⟨b, 1, none⟩ x1).setCell ⟨P.heap.size, 0, none⟩ y0).setCell ⟨P.heap.size, 1, none⟩ y1).heap[P.heap.size]? = some (.cells #[y0, y1] 24 (0, 0)) := zf1b (zu_new P) (Nat.ne_of_lt (lt_of_block h))
theorem zf3a {P : World} {b : Nat} {x0 x1 y0 y1 : Value} (h : P.heap[b]? = some (.cells #[.int .u64 0, .int .u64 0] 24 (0, 0))) : (((P.setCell ⟨b, 0, none⟩ x0).setCell ⟨b, 1, none⟩ x1).alloc (.cells #[y0, y1] 24)).heap[b]? = some (.cells #[x0, x1] 24 (0, 0)) := zu_stay (zu_put x0 x1 h) ((New.refl _).alloc _)
theorem zf3b {P : World} {b : Nat} {x0 x1 y0 y1 : Value} : (((P.setCell ⟨b, 0, none⟩ x0).setCell ⟨b, 1, none⟩ x1).alloc (.cells #[y0, y1] 24)).heap[P.heap.size]? = some (.cells #[y0, y1] 24 (0, 0)) := by
  have h := heap_alloc_new ((P.setCell ⟨b, 0, none⟩ x0).setCell ⟨b, 1, none⟩ x1) (.cells #[y0, y1] 24)
  rw [show ((P.setCell ⟨b, 0, none⟩ x0).setCell ⟨b, 1, none⟩ x1).heap.size = P.heap.size by simp] at h
  exact h
theorem zf4a {P : World} {x0 x1 y0 y1 : Value} : ((P.alloc (.cells #[x0, x1] 24)).alloc (.cells #[y0, y1] 24)).heap[P.heap.size]? = some (.cells #[x0, x1] 24 (0, 0)) := zu_stay (heap_alloc_new P _) ((New.refl _).alloc _)
theorem zf4b {P : World} {x0 x1 y0 y1 : Value} : ((P.alloc (.cells #[x0, x1] 24)).alloc (.cells #[y0, y1] 24)).heap[P.heap.size + 1]? = some (.cells #[y0, y1] 24 (0, 0)) := by
  have h := heap_alloc_new (P.alloc (.cells #[x0, x1] 24)) (.cells #[y0, y1] 24)
  rw [show (P.alloc (.cells #[x0, x1] 24)).heap.size = P.heap.size + 1 by simp] at h
  exact h
theorem zf5a {P : World} {b : Nat} {x0 x1 y0 y1 : Value} (h : P.heap[b]? = some (.cells #[.int .u64 0, .int .u64 0] 24 (0, 0))) : (((P.alloc (.cells #[x0, x1] 24)).setCell ⟨b, 0, none⟩ y0).setCell ⟨b, 1, none⟩ y1).heap[P.heap.size]? = some (.cells #[x0, x1] 24 (0, 0)) := zw_other (heap_alloc_new P _) (Nat.ne_of_lt (lt_of_block h)) y0 y1
theorem zf5b {P : World} {b : Nat} {x0 x1 y0 y1 : Value} (h : P.heap[b]? = some (.cells #[.int .u64 0, .int .u64 0] 24 (0, 0))) : (((P.alloc (.cells #[x0, x1] 24)).setCell ⟨b, 0, none⟩ y0).setCell ⟨b, 1, none⟩ y1).heap[b]? = some (.cells #[y0, y1] 24 (0, 0)) := zu_put y0 y1 (zu_stay h ((New.refl _).alloc _))
set_option maxRecDepth 100000 in
set_option maxHeartbeats 8000000 in
theorem shifts_ok (W : World) (A B C D : Nat) (x y u v p q : BitVec 64) (kind bits : Int) (hxy : (x == y) = false) (HSF : Hid (∀ w : World, Calls Try.prog 14 #[.int .i64 kind, .int .i64 bits, .agg #[.int .u64 (W64 (hiN (A))), .int .u64 (W64 (loN (A)))], .agg #[.int .u64 (W64 (hiN (B))), .int .u64 (W64 (loN (B)))], .int .u64 (W64 x), .int .u64 (W64 y), .int .u64 (W64 u), .int .u64 (W64 v)] w fun e w' => e = .returned (.tuple #[.agg #[.int .u64 (W64 (hiN (C))), .int .u64 (W64 (loN (C)))], .agg #[.int .u64 (W64 (hiN (D))), .int .u64 (W64 (loN (D)))], .int .i64 0]) ∧ New w w')) (HR : Hid (∀ w : World, Calls Try.prog 8 #[.int .i64 kind, .int .i64 bits, .agg #[.int .u64 (W64 (hiN (A))), .int .u64 (W64 (loN (A)))], .agg #[.int .u64 (W64 (hiN (B))), .int .u64 (W64 (loN (B)))]] w fun e w' => e = .returned (.int .i64 0) ∧ New w w')) (K1 : Hid (∀ w : World, Calls Try.prog 12 #[.int .i64 kind, .int .u64 (W64 x)] w fun e w' => e = .returned (.bool true) ∧ New w w')) (K2 : Hid (∀ w : World, Calls Try.prog 12 #[.int .i64 kind, .int .u64 (W64 y)] w fun e w' => e = .returned (.bool true) ∧ New w w')) (K3 : Hid (∀ w : World, Calls Try.prog 15 #[.agg #[.int .u64 0, .int .u64 (W64 u)], .int .i64 bits] w fun e w' => e = .returned (.bool true) ∧ New w w')) (K4 : Hid (∀ w : World, Calls Try.prog 15 #[.agg #[.int .u64 0, .int .u64 (W64 v)], .int .i64 bits] w fun e w' => e = .returned (.bool true) ∧ New w w')) (HR2 : Hid (∀ w : World, Calls Try.prog 8 #[.int .i64 kind, .int .i64 bits, .agg #[.int .u64 (W64 (hiN (C))), .int .u64 (W64 (loN (C)))], .agg #[.int .u64 (W64 (hiN (D))), .int .u64 (W64 (loN (D)))]] w fun e w' => e = .returned (.int .i64 0) ∧ New w w')) (H1 : Hid (∀ w : World, Calls Try.prog 13 #[.int .i64 kind, .int .i64 bits, .agg #[.int .u64 (W64 (hiN (C))), .int .u64 (W64 (loN (C)))], .agg #[.int .u64 (W64 (hiN (D))), .int .u64 (W64 (loN (D)))], .int .u64 (W64 x)] w fun e w' => e = .returned (.int .u64 (W64 u)) ∧ New w w')) (H2 : Hid (∀ w : World, Calls Try.prog 13 #[.int .i64 kind, .int .i64 bits, .agg #[.int .u64 (W64 (hiN (C))), .int .u64 (W64 (loN (C)))], .agg #[.int .u64 (W64 (hiN (D))), .int .u64 (W64 (loN (D)))], .int .u64 (W64 y)] w fun e w' => e = .returned (.int .u64 (W64 v)) ∧ New w w')) (H3 : Hid (∀ w : World, Calls Try.prog 13 #[.int .i64 kind, .int .i64 bits, .agg #[.int .u64 (W64 (hiN (A))), .int .u64 (W64 (loN (A)))], .agg #[.int .u64 (W64 (hiN (B))), .int .u64 (W64 (loN (B)))], .int .u64 (W64 x)] w fun e w' => e = .returned (.int .u64 (W64 p)) ∧ New w w')) (H4 : Hid (∀ w : World, Calls Try.prog 13 #[.int .i64 kind, .int .i64 bits, .agg #[.int .u64 (W64 (hiN (A))), .int .u64 (W64 (loN (A)))], .agg #[.int .u64 (W64 (hiN (B))), .int .u64 (W64 (loN (B)))], .int .u64 (W64 y)] w fun e w' => e = .returned (.int .u64 (W64 q)) ∧ New w w')) (HSB : Hid (∀ w : World, Calls Try.prog 14 #[.int .i64 kind, .int .i64 bits, .agg #[.int .u64 (W64 (hiN (C))), .int .u64 (W64 (loN (C)))], .agg #[.int .u64 (W64 (hiN (D))), .int .u64 (W64 (loN (D)))], .int .u64 (W64 x), .int .u64 (W64 y), .int .u64 (W64 p), .int .u64 (W64 q)] w fun e w' => e = .returned (.tuple #[.agg #[.int .u64 (W64 (hiN (A))), .int .u64 (W64 (loN (A)))], .agg #[.int .u64 (W64 (hiN (B))), .int .u64 (W64 (loN (B)))], .int .i64 0]) ∧ New w w')) :
    Calls Try.prog 4 #[.int .i64 kind, .int .i64 bits, .agg #[.int .u64 (W64 (hiN (A))), .int .u64 (W64 (loN (A)))], .agg #[.int .u64 (W64 (hiN (B))), .int .u64 (W64 (loN (B)))], .int .u64 (W64 x), .int .u64 (W64 y), .int .u64 (W64 u), .int .u64 (W64 v)] W fun e w' => e = .returned (.bool true) ∧ Below W.heap.size W w' := by
  have HA := Lib.hid awake_21
  have ea := equ_n A
  have eb := equ_n B
  obtain ⟨hbl, HNN⟩ := boxes2 W (.cells #[.int .u64 (W64 (hiN (A))), .int .u64 (W64 (loN (A)))] 24) (.cells #[.int .u64 (W64 (hiN (B))), .int .u64 (W64 (loN (B)))] 24)
  obtain ⟨hb0, hb1⟩ := hbl
  have HN := Lib.hid HNN
  obtain ⟨w0, hw0⟩ : ∃ w0, (((W.alloc (.cells #[.int .u64 (W64 (hiN (A))), .int .u64 (W64 (loN (A)))] 24))).alloc (.cells #[.int .u64 (W64 (hiN (B))), .int .u64 (W64 (loN (B)))] 24)) = w0 := ⟨_, rfl⟩
  rw [hw0] at HN hb0 hb1
  have HW0 := Lib.hid hw0
  have HB0 := Lib.hid hb0
  have HB1 := Lib.hid hb1
  clear hw0 HNN hb0 hb1
  go_enter Try.func4, Try.ntmps4
  go_wp2_with fail
  rw [HW0.out]
  refine (HA.out _).mono ?_
  rintro e w9 ⟨rfl, hn⟩
  replace HN := Lib.hid (HN.out.trans hn)
  replace HB0 := Lib.hid ((hn.block _ (lt_of_block HB0.out)).trans HB0.out)
  replace HB1 := Lib.hid ((hn.block _ (lt_of_block HB1.out)).trans HB1.out)
  clear hn HW0
  have x0 := cell_of_row _ _ 0 _ _ _ HB0.out
  have x1 := cell_of_row _ _ 1 _ _ _ HB0.out
  have y0 := cell_of_row _ _ 0 _ _ _ HB1.out
  have y1 := cell_of_row _ _ 1 _ _ _ HB1.out
  go_wp2_with fail
  refine (HSF.out _).mono ?_
  rintro e w8 ⟨rfl, hn⟩
  replace HN := Lib.hid (HN.out.trans hn)
  replace HB0 := Lib.hid ((hn.block _ (lt_of_block HB0.out)).trans HB0.out)
  replace HB1 := Lib.hid ((hn.block _ (lt_of_block HB1.out)).trans HB1.out)
  clear hn x0 x1 y0 y1
  obtain ⟨hbl, hn2⟩ := boxes2 w8 (.cells #[.int .u64 (W64 (hiN (C))), .int .u64 (W64 (loN (C)))] 24) (.cells #[.int .u64 (W64 (hiN (D))), .int .u64 (W64 (loN (D)))] 24)
  obtain ⟨hb2, hb3⟩ := hbl
  obtain ⟨wb, hw2⟩ : ∃ z, ((w8.alloc (.cells #[.int .u64 (W64 (hiN (C))), .int .u64 (W64 (loN (C)))] 24)).alloc (.cells #[.int .u64 (W64 (hiN (D))), .int .u64 (W64 (loN (D)))] 24)) = z := ⟨_, rfl⟩
  rw [hw2] at hb2 hb3 hn2
  obtain ⟨qc, hq⟩ : ∃ q, w8.heap.size = q := ⟨_, rfl⟩
  rw [hq] at hb2 hb3
  have HB2 := Lib.hid hb2
  have HB3 := Lib.hid hb3
  replace HN := Lib.hid (HN.out.trans hn2)
  have HE := Lib.hid (show ((w8.alloc (.cells #[.int .u64 (W64 (hiN (C))), .int .u64 (W64 (loN (C)))] 24)).alloc (.cells #[.int .u64 (W64 (hiN (D))), .int .u64 (W64 (loN (D)))] 24)) = wb ∧ w8.heap.size = qc from ⟨hw2, hq⟩)
  replace HB0 := Lib.hid ((hn2.block _ (lt_of_block HB0.out)).trans HB0.out)
  replace HB1 := Lib.hid ((hn2.block _ (lt_of_block HB1.out)).trans HB1.out)
  clear hb2 hb3 hn2 hw2 hq
  have x0 := cell_of_row _ _ 0 _ _ _ HB0.out
  have x1 := cell_of_row _ _ 1 _ _ _ HB0.out
  have y0 := cell_of_row _ _ 0 _ _ _ HB1.out
  have y1 := cell_of_row _ _ 1 _ _ _ HB1.out
  rw [← HE.out.1] at x0 x1 y0 y1
  go_wp2_with fail
  rw [HE.out.1]
  refine (HR.out _).mono ?_
  rintro e w7 ⟨rfl, hn⟩
  replace HN := Lib.hid (HN.out.trans hn)
  replace HB0 := Lib.hid ((hn.block _ (lt_of_block HB0.out)).trans HB0.out)
  replace HB1 := Lib.hid ((hn.block _ (lt_of_block HB1.out)).trans HB1.out)
  replace HB2 := Lib.hid ((hn.block _ (lt_of_block HB2.out)).trans HB2.out)
  replace HB3 := Lib.hid ((hn.block _ (lt_of_block HB3.out)).trans HB3.out)
  clear hn x0 x1 y0 y1
  go_wp2_with fail
  refine (K1.out _).mono ?_
  rintro e w7 ⟨rfl, hn⟩
  replace HN := Lib.hid (HN.out.trans hn)
  replace HB0 := Lib.hid ((hn.block _ (lt_of_block HB0.out)).trans HB0.out)
  replace HB1 := Lib.hid ((hn.block _ (lt_of_block HB1.out)).trans HB1.out)
  replace HB2 := Lib.hid ((hn.block _ (lt_of_block HB2.out)).trans HB2.out)
  replace HB3 := Lib.hid ((hn.block _ (lt_of_block HB3.out)).trans HB3.out)
  clear hn
  go_wp2_with fail
  refine (K2.out _).mono ?_
  rintro e w7 ⟨rfl, hn⟩
  replace HN := Lib.hid (HN.out.trans hn)
  replace HB0 := Lib.hid ((hn.block _ (lt_of_block HB0.out)).trans HB0.out)
  replace HB1 := Lib.hid ((hn.block _ (lt_of_block HB1.out)).trans HB1.out)
  replace HB2 := Lib.hid ((hn.block _ (lt_of_block HB2.out)).trans HB2.out)
  replace HB3 := Lib.hid ((hn.block _ (lt_of_block HB3.out)).trans HB3.out)
  clear hn
  go_wp2_with fail
  refine (K3.out _).mono ?_
  rintro e w7 ⟨rfl, hn⟩
  replace HN := Lib.hid (HN.out.trans hn)
  replace HB0 := Lib.hid ((hn.block _ (lt_of_block HB0.out)).trans HB0.out)
  replace HB1 := Lib.hid ((hn.block _ (lt_of_block HB1.out)).trans HB1.out)
  replace HB2 := Lib.hid ((hn.block _ (lt_of_block HB2.out)).trans HB2.out)
  replace HB3 := Lib.hid ((hn.block _ (lt_of_block HB3.out)).trans HB3.out)
  clear hn
  go_wp2_with fail
  refine (K4.out _).mono ?_
  rintro e w7 ⟨rfl, hn⟩
  replace HN := Lib.hid (HN.out.trans hn)
  replace HB0 := Lib.hid ((hn.block _ (lt_of_block HB0.out)).trans HB0.out)
  replace HB1 := Lib.hid ((hn.block _ (lt_of_block HB1.out)).trans HB1.out)
  replace HB2 := Lib.hid ((hn.block _ (lt_of_block HB2.out)).trans HB2.out)
  replace HB3 := Lib.hid ((hn.block _ (lt_of_block HB3.out)).trans HB3.out)
  clear hn
  have z0 := cell_of_row _ _ 0 _ _ _ HB2.out
  have z1 := cell_of_row _ _ 1 _ _ _ HB2.out
  have z2 := cell_of_row _ _ 0 _ _ _ HB3.out
  have z3 := cell_of_row _ _ 1 _ _ _ HB3.out
  rw [HE.out.2]
  clear HE HR K1 K2 K3 K4 HSF
  go_wp2_with fail
  refine (HR2.out _).mono ?_
  rintro e w7 ⟨rfl, hn⟩
  replace HN := Lib.hid (HN.out.trans hn)
  replace HB0 := Lib.hid ((hn.block _ (lt_of_block HB0.out)).trans HB0.out)
  replace HB1 := Lib.hid ((hn.block _ (lt_of_block HB1.out)).trans HB1.out)
  replace HB2 := Lib.hid ((hn.block _ (lt_of_block HB2.out)).trans HB2.out)
  replace HB3 := Lib.hid ((hn.block _ (lt_of_block HB3.out)).trans HB3.out)
  clear hn z0 z1 z2 z3
  have z0 := cell_of_row _ _ 0 _ _ _ HB2.out
  have z1 := cell_of_row _ _ 1 _ _ _ HB2.out
  have z2 := cell_of_row _ _ 0 _ _ _ HB3.out
  have z3 := cell_of_row _ _ 1 _ _ _ HB3.out
  go_wp2_with fail
  refine (H1.out _).mono ?_
  rintro e w7 ⟨rfl, hn⟩
  replace HN := Lib.hid (HN.out.trans hn)
  replace HB0 := Lib.hid ((hn.block _ (lt_of_block HB0.out)).trans HB0.out)
  replace HB1 := Lib.hid ((hn.block _ (lt_of_block HB1.out)).trans HB1.out)
  replace HB2 := Lib.hid ((hn.block _ (lt_of_block HB2.out)).trans HB2.out)
  replace HB3 := Lib.hid ((hn.block _ (lt_of_block HB3.out)).trans HB3.out)
  clear hn z0 z1 z2 z3
  have z0 := cell_of_row _ _ 0 _ _ _ HB2.out
  have z1 := cell_of_row _ _ 1 _ _ _ HB2.out
  have z2 := cell_of_row _ _ 0 _ _ _ HB3.out
  have z3 := cell_of_row _ _ 1 _ _ _ HB3.out
  go_wp2_with fail
  refine (H2.out _).mono ?_
  rintro e w7 ⟨rfl, hn⟩
  replace HN := Lib.hid (HN.out.trans hn)
  replace HB0 := Lib.hid ((hn.block _ (lt_of_block HB0.out)).trans HB0.out)
  replace HB1 := Lib.hid ((hn.block _ (lt_of_block HB1.out)).trans HB1.out)
  replace HB2 := Lib.hid ((hn.block _ (lt_of_block HB2.out)).trans HB2.out)
  replace HB3 := Lib.hid ((hn.block _ (lt_of_block HB3.out)).trans HB3.out)
  clear hn z0 z1 z2 z3
  have z0 := cell_of_row _ _ 0 _ _ _ HB2.out
  have z1 := cell_of_row _ _ 1 _ _ _ HB2.out
  have z2 := cell_of_row _ _ 0 _ _ _ HB3.out
  have z3 := cell_of_row _ _ 1 _ _ _ HB3.out
  clear z0 z1 z2 z3 HR2 H1 H2 hxy
  obtain ⟨wz, hwz⟩ : ∃ z, w7 = z := ⟨_, rfl⟩
  rw [hwz] at HN HB0 HB1 HB2 HB3 ⊢
  clear hwz
  have SK : Hid (∀ w', New wz w' → New wz w' ∧ w'.cell? ⟨W.heap.size, 0, none⟩ = some (.int .u64 (W64 (hiN (A)))) ∧ w'.cell? ⟨W.heap.size, 1, none⟩ = some (.int .u64 (W64 (loN (A)))) ∧ w'.cell? ⟨W.heap.size + 1, 0, none⟩ = some (.int .u64 (W64 (hiN (B)))) ∧ w'.cell? ⟨W.heap.size + 1, 1, none⟩ = some (.int .u64 (W64 (loN (B)))) ∧ w'.cell? ⟨qc, 0, none⟩ = some (.int .u64 (W64 (hiN (C)))) ∧ w'.cell? ⟨qc, 1, none⟩ = some (.int .u64 (W64 (loN (C)))) ∧ w'.cell? ⟨qc + 1, 0, none⟩ = some (.int .u64 (W64 (hiN (D)))) ∧ w'.cell? ⟨qc + 1, 1, none⟩ = some (.int .u64 (W64 (loN (D))))) := Lib.hid (fun w' hn => ⟨hn, cell_of_row _ _ 0 _ _ _ (zu_stay HB0.out hn), cell_of_row _ _ 1 _ _ _ (zu_stay HB0.out hn), cell_of_row _ _ 0 _ _ _ (zu_stay HB1.out hn), cell_of_row _ _ 1 _ _ _ (zu_stay HB1.out hn), cell_of_row _ _ 0 _ _ _ (zu_stay HB2.out hn), cell_of_row _ _ 1 _ _ _ (zu_stay HB2.out hn), cell_of_row _ _ 0 _ _ _ (zu_stay HB3.out hn), cell_of_row _ _ 1 _ _ _ (zu_stay HB3.out hn)⟩)
  obtain ⟨_, ce0, ce1, ce2, ce3, ce4, ce5, ce6, ce7⟩ := SK.out wz (New.refl _)
  go_wp2_with fail
  go_cut [21, 22, 23] (fun p1 p2 p3 wx => ∃ b1 b2, p1 = .pointer (some ⟨b1, 0, none⟩) ∧ p2 = .pointer (some ⟨b2, 0, none⟩) ∧ p3 = .int .i64 0 ∧ wx.heap[b1]? = some (.cells #[.int .u64 (W64 (hiN (A))), .int .u64 (W64 (loN (A)))] 24 (0, 0)) ∧ wx.heap[b2]? = some (.cells #[.int .u64 (W64 (hiN (B))), .int .u64 (W64 (loN (B)))] 24 (0, 0)) ∧ New wz wx)
  case first =>
    go_region_held3 (fun w' => New wz w' ∧ w'.cell? ⟨W.heap.size, 0, none⟩ = some (.int .u64 (W64 (hiN (A)))) ∧ w'.cell? ⟨W.heap.size, 1, none⟩ = some (.int .u64 (W64 (loN (A)))) ∧ w'.cell? ⟨W.heap.size + 1, 0, none⟩ = some (.int .u64 (W64 (hiN (B)))) ∧ w'.cell? ⟨W.heap.size + 1, 1, none⟩ = some (.int .u64 (W64 (loN (B)))) ∧ w'.cell? ⟨qc, 0, none⟩ = some (.int .u64 (W64 (hiN (C)))) ∧ w'.cell? ⟨qc, 1, none⟩ = some (.int .u64 (W64 (loN (C)))) ∧ w'.cell? ⟨qc + 1, 0, none⟩ = some (.int .u64 (W64 (hiN (D)))) ∧ w'.cell? ⟨qc + 1, 1, none⟩ = some (.int .u64 (W64 (loN (D)))))
      ((first | (refine SK.out _ ?_; repeat (first | with_reducible assumption | with_reducible exact New.refl _ | with_reducible refine New.drew ?_ | with_reducible refine New.alloc ?_ _ | (with_reducible refine New.setCell ?_ ?_ _; rotate_left; · (first | (simp; done) | (simp; omega) | omega))))))
      (first
      | (go_at_call_of 13 (Value.int IntKind.u64 (W64 x))
         refine (H3.out _).mono ?_
         rintro e q0 ⟨rfl, hc0⟩
         have hp0 : New wz q0 := by
           refine New.trans ?_ hc0
           repeat (first | with_reducible assumption | with_reducible exact New.refl _ | with_reducible refine New.drew ?_ | with_reducible refine New.alloc ?_ _ | (with_reducible refine New.setCell ?_ ?_ _; rotate_left; · (first | (simp; done) | (simp; omega) | omega)))
         have hg0 : New wz q0 := hp0
         have hs0 := hg0.le
         first
         | (have n0b : q0.heap[wz.heap.size + 1]? = some (.cells #[.int .u64 0, .int .u64 0] 24 (0, 0)) := zu_stay (by exact zz_b wz) hc0
            have n0a : q0.heap[wz.heap.size]? = some (.cells #[.int .u64 0, .int .u64 0] 24 (0, 0)) := zu_stay (by exact zz_a wz) hc0
            have r0a := lt_of_block n0a
            have r0b := lt_of_block n0b)
         | (have n0a : q0.heap[wz.heap.size]? = some (.cells #[.int .u64 0, .int .u64 0] 24 (0, 0)) := zu_stay (by exact zu_new wz) hc0
            have r0a := lt_of_block n0a)
         | skip
         clear hc0)
      | (go_at_call_of 13 (Value.int IntKind.u64 (W64 y))
         refine (H4.out _).mono ?_
         rintro e q1 ⟨rfl, hc1⟩
         have hp1 : New q0 q1 := by
           refine New.trans ?_ hc1
           repeat (first | with_reducible assumption | with_reducible exact New.refl _ | with_reducible refine New.drew ?_ | with_reducible refine New.alloc ?_ _ | (with_reducible refine New.setCell ?_ ?_ _; rotate_left; · (first | (simp; done) | (simp; omega) | omega)))
         have hg1 : New wz q1 := hg0.trans hp1
         have hs1 := hg1.le
         have ht1 := hp1.le
         first
         | (have n1b : q1.heap[q0.heap.size + 1]? = some (.cells #[.int .u64 0, .int .u64 0] 24 (0, 0)) := zu_stay (by exact zz_b q0) hc1
            have n1a : q1.heap[q0.heap.size]? = some (.cells #[.int .u64 0, .int .u64 0] 24 (0, 0)) := zu_stay (by exact zz_a q0) hc1
            have r1a := lt_of_block n1a
            have r1b := lt_of_block n1b)
         | (have n1a : q1.heap[q0.heap.size]? = some (.cells #[.int .u64 0, .int .u64 0] 24 (0, 0)) := zu_stay (by exact zu_new q0) hc1
            have r1a := lt_of_block n1a)
         | skip
         try (replace n0a := zu_stay n0a hp1)
         try (replace n0b := zu_stay n0b hp1)
         clear hc1)
      | (go_at_call 14
         refine (HSB.out _).mono ?_
         rintro e q2 ⟨rfl, hc2⟩
         have hp2 : New q1 q2 := by
           refine New.trans ?_ hc2
           repeat (first | with_reducible assumption | with_reducible exact New.refl _ | with_reducible refine New.drew ?_ | with_reducible refine New.alloc ?_ _ | (with_reducible refine New.setCell ?_ ?_ _; rotate_left; · (first | (simp; done) | (simp; omega) | omega)))
         have hg2 : New wz q2 := hg1.trans hp2
         have hs2 := hg2.le
         have ht2 := hp2.le
         first
         | (have n2b : q2.heap[q1.heap.size + 1]? = some (.cells #[.int .u64 0, .int .u64 0] 24 (0, 0)) := zu_stay (by exact zz_b q1) hc2
            have n2a : q2.heap[q1.heap.size]? = some (.cells #[.int .u64 0, .int .u64 0] 24 (0, 0)) := zu_stay (by exact zz_a q1) hc2
            have r2a := lt_of_block n2a
            have r2b := lt_of_block n2b)
         | (have n2a : q2.heap[q1.heap.size]? = some (.cells #[.int .u64 0, .int .u64 0] 24 (0, 0)) := zu_stay (by exact zu_new q1) hc2
            have r2a := lt_of_block n2a)
         | skip
         try (replace n0a := zu_stay n0a hp2)
         try (replace n0b := zu_stay n0b hp2)
         try (replace n1a := zu_stay n1a hp2)
         try (replace n1b := zu_stay n1b hp2)
         try (have m0a0 := cell_of_row _ _ 0 _ _ _ (n0a))
         try (have m0a1 := cell_of_row _ _ 1 _ _ _ (n0a))
         try (have m0af := fun (i : Nat) => frozen_of_row _ _ i _ _ (n0a))
         try (have e0a0 := fun (o : Obj) => cell_of_row _ _ 0 _ _ _ (zu_stay n0a ((New.refl q2).alloc o)))
         try (have e0a1 := fun (o : Obj) => cell_of_row _ _ 1 _ _ _ (zu_stay n0a ((New.refl q2).alloc o)))
         try (have e0af := fun (o : Obj) (i : Nat) => frozen_of_row _ _ i _ _ (zu_stay n0a ((New.refl q2).alloc o)))
         try (have h0a0 := fun (x y : Value) => cell_of_row _ _ 0 _ _ _ (zz_set (b := wz.heap.size) (zu_new q2) (Nat.ne_of_lt (lt_of_block n0a)) x y))
         try (have h0a1 := fun (x y : Value) => cell_of_row _ _ 1 _ _ _ (zz_set (b := wz.heap.size) (zu_new q2) (Nat.ne_of_lt (lt_of_block n0a)) x y))
         try (have h0af := fun (x y : Value) (i : Nat) => frozen_of_row _ _ i _ _ (zz_set (b := wz.heap.size) (zu_new q2) (Nat.ne_of_lt (lt_of_block n0a)) x y))
         try (have v0a := Nat.ne_of_lt (lt_of_block n0a))
         try (have w0a := (Nat.ne_of_lt (lt_of_block n0a)).symm)
         try (have u0a0b : (wz.heap.size) ≠ (wz.heap.size + 1) := (by have := lt_of_block n0a; have := lt_of_block n0b; omega))
         try (have d0a0b0 := fun (x y : Value) => cell_of_row _ _ 0 _ _ _ (zz_set (b := wz.heap.size) n0b u0a0b x y))
         try (have d0a0b1 := fun (x y : Value) => cell_of_row _ _ 1 _ _ _ (zz_set (b := wz.heap.size) n0b u0a0b x y))
         try (have d0a0bf := fun (x y : Value) (i : Nat) => frozen_of_row _ _ i _ _ (zz_set (b := wz.heap.size) n0b u0a0b x y))
         try (have u0a1a : (wz.heap.size) ≠ (q0.heap.size) := (by have := lt_of_block n0a; have := lt_of_block n1a; omega))
         try (have d0a1a0 := fun (x y : Value) => cell_of_row _ _ 0 _ _ _ (zz_set (b := wz.heap.size) n1a u0a1a x y))
         try (have d0a1a1 := fun (x y : Value) => cell_of_row _ _ 1 _ _ _ (zz_set (b := wz.heap.size) n1a u0a1a x y))
         try (have d0a1af := fun (x y : Value) (i : Nat) => frozen_of_row _ _ i _ _ (zz_set (b := wz.heap.size) n1a u0a1a x y))
         try (have u0a1b : (wz.heap.size) ≠ (q0.heap.size + 1) := (by have := lt_of_block n0a; have := lt_of_block n1b; omega))
         try (have d0a1b0 := fun (x y : Value) => cell_of_row _ _ 0 _ _ _ (zz_set (b := wz.heap.size) n1b u0a1b x y))
         try (have d0a1b1 := fun (x y : Value) => cell_of_row _ _ 1 _ _ _ (zz_set (b := wz.heap.size) n1b u0a1b x y))
         try (have d0a1bf := fun (x y : Value) (i : Nat) => frozen_of_row _ _ i _ _ (zz_set (b := wz.heap.size) n1b u0a1b x y))
         try (have u0a2a : (wz.heap.size) ≠ (q1.heap.size) := (by have := lt_of_block n0a; have := lt_of_block n2a; omega))
         try (have d0a2a0 := fun (x y : Value) => cell_of_row _ _ 0 _ _ _ (zz_set (b := wz.heap.size) n2a u0a2a x y))
         try (have d0a2a1 := fun (x y : Value) => cell_of_row _ _ 1 _ _ _ (zz_set (b := wz.heap.size) n2a u0a2a x y))
         try (have d0a2af := fun (x y : Value) (i : Nat) => frozen_of_row _ _ i _ _ (zz_set (b := wz.heap.size) n2a u0a2a x y))
         try (have u0a2b : (wz.heap.size) ≠ (q1.heap.size + 1) := (by have := lt_of_block n0a; have := lt_of_block n2b; omega))
         try (have d0a2b0 := fun (x y : Value) => cell_of_row _ _ 0 _ _ _ (zz_set (b := wz.heap.size) n2b u0a2b x y))
         try (have d0a2b1 := fun (x y : Value) => cell_of_row _ _ 1 _ _ _ (zz_set (b := wz.heap.size) n2b u0a2b x y))
         try (have d0a2bf := fun (x y : Value) (i : Nat) => frozen_of_row _ _ i _ _ (zz_set (b := wz.heap.size) n2b u0a2b x y))
         try (have m0b0 := cell_of_row _ _ 0 _ _ _ (n0b))
         try (have m0b1 := cell_of_row _ _ 1 _ _ _ (n0b))
         try (have m0bf := fun (i : Nat) => frozen_of_row _ _ i _ _ (n0b))
         try (have e0b0 := fun (o : Obj) => cell_of_row _ _ 0 _ _ _ (zu_stay n0b ((New.refl q2).alloc o)))
         try (have e0b1 := fun (o : Obj) => cell_of_row _ _ 1 _ _ _ (zu_stay n0b ((New.refl q2).alloc o)))
         try (have e0bf := fun (o : Obj) (i : Nat) => frozen_of_row _ _ i _ _ (zu_stay n0b ((New.refl q2).alloc o)))
         try (have h0b0 := fun (x y : Value) => cell_of_row _ _ 0 _ _ _ (zz_set (b := wz.heap.size + 1) (zu_new q2) (Nat.ne_of_lt (lt_of_block n0b)) x y))
         try (have h0b1 := fun (x y : Value) => cell_of_row _ _ 1 _ _ _ (zz_set (b := wz.heap.size + 1) (zu_new q2) (Nat.ne_of_lt (lt_of_block n0b)) x y))
         try (have h0bf := fun (x y : Value) (i : Nat) => frozen_of_row _ _ i _ _ (zz_set (b := wz.heap.size + 1) (zu_new q2) (Nat.ne_of_lt (lt_of_block n0b)) x y))
         try (have v0b := Nat.ne_of_lt (lt_of_block n0b))
         try (have w0b := (Nat.ne_of_lt (lt_of_block n0b)).symm)
         try (have u0b0a : (wz.heap.size + 1) ≠ (wz.heap.size) := (by have := lt_of_block n0b; have := lt_of_block n0a; omega))
         try (have d0b0a0 := fun (x y : Value) => cell_of_row _ _ 0 _ _ _ (zz_set (b := wz.heap.size + 1) n0a u0b0a x y))
         try (have d0b0a1 := fun (x y : Value) => cell_of_row _ _ 1 _ _ _ (zz_set (b := wz.heap.size + 1) n0a u0b0a x y))
         try (have d0b0af := fun (x y : Value) (i : Nat) => frozen_of_row _ _ i _ _ (zz_set (b := wz.heap.size + 1) n0a u0b0a x y))
         try (have u0b1a : (wz.heap.size + 1) ≠ (q0.heap.size) := (by have := lt_of_block n0b; have := lt_of_block n1a; omega))
         try (have d0b1a0 := fun (x y : Value) => cell_of_row _ _ 0 _ _ _ (zz_set (b := wz.heap.size + 1) n1a u0b1a x y))
         try (have d0b1a1 := fun (x y : Value) => cell_of_row _ _ 1 _ _ _ (zz_set (b := wz.heap.size + 1) n1a u0b1a x y))
         try (have d0b1af := fun (x y : Value) (i : Nat) => frozen_of_row _ _ i _ _ (zz_set (b := wz.heap.size + 1) n1a u0b1a x y))
         try (have u0b1b : (wz.heap.size + 1) ≠ (q0.heap.size + 1) := (by have := lt_of_block n0b; have := lt_of_block n1b; omega))
         try (have d0b1b0 := fun (x y : Value) => cell_of_row _ _ 0 _ _ _ (zz_set (b := wz.heap.size + 1) n1b u0b1b x y))
         try (have d0b1b1 := fun (x y : Value) => cell_of_row _ _ 1 _ _ _ (zz_set (b := wz.heap.size + 1) n1b u0b1b x y))
         try (have d0b1bf := fun (x y : Value) (i : Nat) => frozen_of_row _ _ i _ _ (zz_set (b := wz.heap.size + 1) n1b u0b1b x y))
         try (have u0b2a : (wz.heap.size + 1) ≠ (q1.heap.size) := (by have := lt_of_block n0b; have := lt_of_block n2a; omega))
         try (have d0b2a0 := fun (x y : Value) => cell_of_row _ _ 0 _ _ _ (zz_set (b := wz.heap.size + 1) n2a u0b2a x y))
         try (have d0b2a1 := fun (x y : Value) => cell_of_row _ _ 1 _ _ _ (zz_set (b := wz.heap.size + 1) n2a u0b2a x y))
         try (have d0b2af := fun (x y : Value) (i : Nat) => frozen_of_row _ _ i _ _ (zz_set (b := wz.heap.size + 1) n2a u0b2a x y))
         try (have u0b2b : (wz.heap.size + 1) ≠ (q1.heap.size + 1) := (by have := lt_of_block n0b; have := lt_of_block n2b; omega))
         try (have d0b2b0 := fun (x y : Value) => cell_of_row _ _ 0 _ _ _ (zz_set (b := wz.heap.size + 1) n2b u0b2b x y))
         try (have d0b2b1 := fun (x y : Value) => cell_of_row _ _ 1 _ _ _ (zz_set (b := wz.heap.size + 1) n2b u0b2b x y))
         try (have d0b2bf := fun (x y : Value) (i : Nat) => frozen_of_row _ _ i _ _ (zz_set (b := wz.heap.size + 1) n2b u0b2b x y))
         try (have m1a0 := cell_of_row _ _ 0 _ _ _ (n1a))
         try (have m1a1 := cell_of_row _ _ 1 _ _ _ (n1a))
         try (have m1af := fun (i : Nat) => frozen_of_row _ _ i _ _ (n1a))
         try (have e1a0 := fun (o : Obj) => cell_of_row _ _ 0 _ _ _ (zu_stay n1a ((New.refl q2).alloc o)))
         try (have e1a1 := fun (o : Obj) => cell_of_row _ _ 1 _ _ _ (zu_stay n1a ((New.refl q2).alloc o)))
         try (have e1af := fun (o : Obj) (i : Nat) => frozen_of_row _ _ i _ _ (zu_stay n1a ((New.refl q2).alloc o)))
         try (have h1a0 := fun (x y : Value) => cell_of_row _ _ 0 _ _ _ (zz_set (b := q0.heap.size) (zu_new q2) (Nat.ne_of_lt (lt_of_block n1a)) x y))
         try (have h1a1 := fun (x y : Value) => cell_of_row _ _ 1 _ _ _ (zz_set (b := q0.heap.size) (zu_new q2) (Nat.ne_of_lt (lt_of_block n1a)) x y))
         try (have h1af := fun (x y : Value) (i : Nat) => frozen_of_row _ _ i _ _ (zz_set (b := q0.heap.size) (zu_new q2) (Nat.ne_of_lt (lt_of_block n1a)) x y))
         try (have v1a := Nat.ne_of_lt (lt_of_block n1a))
         try (have w1a := (Nat.ne_of_lt (lt_of_block n1a)).symm)
         try (have u1a0a : (q0.heap.size) ≠ (wz.heap.size) := (by have := lt_of_block n1a; have := lt_of_block n0a; omega))
         try (have d1a0a0 := fun (x y : Value) => cell_of_row _ _ 0 _ _ _ (zz_set (b := q0.heap.size) n0a u1a0a x y))
         try (have d1a0a1 := fun (x y : Value) => cell_of_row _ _ 1 _ _ _ (zz_set (b := q0.heap.size) n0a u1a0a x y))
         try (have d1a0af := fun (x y : Value) (i : Nat) => frozen_of_row _ _ i _ _ (zz_set (b := q0.heap.size) n0a u1a0a x y))
         try (have u1a0b : (q0.heap.size) ≠ (wz.heap.size + 1) := (by have := lt_of_block n1a; have := lt_of_block n0b; omega))
         try (have d1a0b0 := fun (x y : Value) => cell_of_row _ _ 0 _ _ _ (zz_set (b := q0.heap.size) n0b u1a0b x y))
         try (have d1a0b1 := fun (x y : Value) => cell_of_row _ _ 1 _ _ _ (zz_set (b := q0.heap.size) n0b u1a0b x y))
         try (have d1a0bf := fun (x y : Value) (i : Nat) => frozen_of_row _ _ i _ _ (zz_set (b := q0.heap.size) n0b u1a0b x y))
         try (have u1a1b : (q0.heap.size) ≠ (q0.heap.size + 1) := (by have := lt_of_block n1a; have := lt_of_block n1b; omega))
         try (have d1a1b0 := fun (x y : Value) => cell_of_row _ _ 0 _ _ _ (zz_set (b := q0.heap.size) n1b u1a1b x y))
         try (have d1a1b1 := fun (x y : Value) => cell_of_row _ _ 1 _ _ _ (zz_set (b := q0.heap.size) n1b u1a1b x y))
         try (have d1a1bf := fun (x y : Value) (i : Nat) => frozen_of_row _ _ i _ _ (zz_set (b := q0.heap.size) n1b u1a1b x y))
         try (have u1a2a : (q0.heap.size) ≠ (q1.heap.size) := (by have := lt_of_block n1a; have := lt_of_block n2a; omega))
         try (have d1a2a0 := fun (x y : Value) => cell_of_row _ _ 0 _ _ _ (zz_set (b := q0.heap.size) n2a u1a2a x y))
         try (have d1a2a1 := fun (x y : Value) => cell_of_row _ _ 1 _ _ _ (zz_set (b := q0.heap.size) n2a u1a2a x y))
         try (have d1a2af := fun (x y : Value) (i : Nat) => frozen_of_row _ _ i _ _ (zz_set (b := q0.heap.size) n2a u1a2a x y))
         try (have u1a2b : (q0.heap.size) ≠ (q1.heap.size + 1) := (by have := lt_of_block n1a; have := lt_of_block n2b; omega))
         try (have d1a2b0 := fun (x y : Value) => cell_of_row _ _ 0 _ _ _ (zz_set (b := q0.heap.size) n2b u1a2b x y))
         try (have d1a2b1 := fun (x y : Value) => cell_of_row _ _ 1 _ _ _ (zz_set (b := q0.heap.size) n2b u1a2b x y))
         try (have d1a2bf := fun (x y : Value) (i : Nat) => frozen_of_row _ _ i _ _ (zz_set (b := q0.heap.size) n2b u1a2b x y))
         try (have m1b0 := cell_of_row _ _ 0 _ _ _ (n1b))
         try (have m1b1 := cell_of_row _ _ 1 _ _ _ (n1b))
         try (have m1bf := fun (i : Nat) => frozen_of_row _ _ i _ _ (n1b))
         try (have e1b0 := fun (o : Obj) => cell_of_row _ _ 0 _ _ _ (zu_stay n1b ((New.refl q2).alloc o)))
         try (have e1b1 := fun (o : Obj) => cell_of_row _ _ 1 _ _ _ (zu_stay n1b ((New.refl q2).alloc o)))
         try (have e1bf := fun (o : Obj) (i : Nat) => frozen_of_row _ _ i _ _ (zu_stay n1b ((New.refl q2).alloc o)))
         try (have h1b0 := fun (x y : Value) => cell_of_row _ _ 0 _ _ _ (zz_set (b := q0.heap.size + 1) (zu_new q2) (Nat.ne_of_lt (lt_of_block n1b)) x y))
         try (have h1b1 := fun (x y : Value) => cell_of_row _ _ 1 _ _ _ (zz_set (b := q0.heap.size + 1) (zu_new q2) (Nat.ne_of_lt (lt_of_block n1b)) x y))
         try (have h1bf := fun (x y : Value) (i : Nat) => frozen_of_row _ _ i _ _ (zz_set (b := q0.heap.size + 1) (zu_new q2) (Nat.ne_of_lt (lt_of_block n1b)) x y))
         try (have v1b := Nat.ne_of_lt (lt_of_block n1b))
         try (have w1b := (Nat.ne_of_lt (lt_of_block n1b)).symm)
         try (have u1b0a : (q0.heap.size + 1) ≠ (wz.heap.size) := (by have := lt_of_block n1b; have := lt_of_block n0a; omega))
         try (have d1b0a0 := fun (x y : Value) => cell_of_row _ _ 0 _ _ _ (zz_set (b := q0.heap.size + 1) n0a u1b0a x y))
         try (have d1b0a1 := fun (x y : Value) => cell_of_row _ _ 1 _ _ _ (zz_set (b := q0.heap.size + 1) n0a u1b0a x y))
         try (have d1b0af := fun (x y : Value) (i : Nat) => frozen_of_row _ _ i _ _ (zz_set (b := q0.heap.size + 1) n0a u1b0a x y))
         try (have u1b0b : (q0.heap.size + 1) ≠ (wz.heap.size + 1) := (by have := lt_of_block n1b; have := lt_of_block n0b; omega))
         try (have d1b0b0 := fun (x y : Value) => cell_of_row _ _ 0 _ _ _ (zz_set (b := q0.heap.size + 1) n0b u1b0b x y))
         try (have d1b0b1 := fun (x y : Value) => cell_of_row _ _ 1 _ _ _ (zz_set (b := q0.heap.size + 1) n0b u1b0b x y))
         try (have d1b0bf := fun (x y : Value) (i : Nat) => frozen_of_row _ _ i _ _ (zz_set (b := q0.heap.size + 1) n0b u1b0b x y))
         try (have u1b1a : (q0.heap.size + 1) ≠ (q0.heap.size) := (by have := lt_of_block n1b; have := lt_of_block n1a; omega))
         try (have d1b1a0 := fun (x y : Value) => cell_of_row _ _ 0 _ _ _ (zz_set (b := q0.heap.size + 1) n1a u1b1a x y))
         try (have d1b1a1 := fun (x y : Value) => cell_of_row _ _ 1 _ _ _ (zz_set (b := q0.heap.size + 1) n1a u1b1a x y))
         try (have d1b1af := fun (x y : Value) (i : Nat) => frozen_of_row _ _ i _ _ (zz_set (b := q0.heap.size + 1) n1a u1b1a x y))
         try (have u1b2a : (q0.heap.size + 1) ≠ (q1.heap.size) := (by have := lt_of_block n1b; have := lt_of_block n2a; omega))
         try (have d1b2a0 := fun (x y : Value) => cell_of_row _ _ 0 _ _ _ (zz_set (b := q0.heap.size + 1) n2a u1b2a x y))
         try (have d1b2a1 := fun (x y : Value) => cell_of_row _ _ 1 _ _ _ (zz_set (b := q0.heap.size + 1) n2a u1b2a x y))
         try (have d1b2af := fun (x y : Value) (i : Nat) => frozen_of_row _ _ i _ _ (zz_set (b := q0.heap.size + 1) n2a u1b2a x y))
         try (have u1b2b : (q0.heap.size + 1) ≠ (q1.heap.size + 1) := (by have := lt_of_block n1b; have := lt_of_block n2b; omega))
         try (have d1b2b0 := fun (x y : Value) => cell_of_row _ _ 0 _ _ _ (zz_set (b := q0.heap.size + 1) n2b u1b2b x y))
         try (have d1b2b1 := fun (x y : Value) => cell_of_row _ _ 1 _ _ _ (zz_set (b := q0.heap.size + 1) n2b u1b2b x y))
         try (have d1b2bf := fun (x y : Value) (i : Nat) => frozen_of_row _ _ i _ _ (zz_set (b := q0.heap.size + 1) n2b u1b2b x y))
         try (have m2a0 := cell_of_row _ _ 0 _ _ _ (n2a))
         try (have m2a1 := cell_of_row _ _ 1 _ _ _ (n2a))
         try (have m2af := fun (i : Nat) => frozen_of_row _ _ i _ _ (n2a))
         try (have e2a0 := fun (o : Obj) => cell_of_row _ _ 0 _ _ _ (zu_stay n2a ((New.refl q2).alloc o)))
         try (have e2a1 := fun (o : Obj) => cell_of_row _ _ 1 _ _ _ (zu_stay n2a ((New.refl q2).alloc o)))
         try (have e2af := fun (o : Obj) (i : Nat) => frozen_of_row _ _ i _ _ (zu_stay n2a ((New.refl q2).alloc o)))
         try (have h2a0 := fun (x y : Value) => cell_of_row _ _ 0 _ _ _ (zz_set (b := q1.heap.size) (zu_new q2) (Nat.ne_of_lt (lt_of_block n2a)) x y))
         try (have h2a1 := fun (x y : Value) => cell_of_row _ _ 1 _ _ _ (zz_set (b := q1.heap.size) (zu_new q2) (Nat.ne_of_lt (lt_of_block n2a)) x y))
         try (have h2af := fun (x y : Value) (i : Nat) => frozen_of_row _ _ i _ _ (zz_set (b := q1.heap.size) (zu_new q2) (Nat.ne_of_lt (lt_of_block n2a)) x y))
         try (have v2a := Nat.ne_of_lt (lt_of_block n2a))
         try (have w2a := (Nat.ne_of_lt (lt_of_block n2a)).symm)
         try (have u2a0a : (q1.heap.size) ≠ (wz.heap.size) := (by have := lt_of_block n2a; have := lt_of_block n0a; omega))
         try (have d2a0a0 := fun (x y : Value) => cell_of_row _ _ 0 _ _ _ (zz_set (b := q1.heap.size) n0a u2a0a x y))
         try (have d2a0a1 := fun (x y : Value) => cell_of_row _ _ 1 _ _ _ (zz_set (b := q1.heap.size) n0a u2a0a x y))
         try (have d2a0af := fun (x y : Value) (i : Nat) => frozen_of_row _ _ i _ _ (zz_set (b := q1.heap.size) n0a u2a0a x y))
         try (have u2a0b : (q1.heap.size) ≠ (wz.heap.size + 1) := (by have := lt_of_block n2a; have := lt_of_block n0b; omega))
         try (have d2a0b0 := fun (x y : Value) => cell_of_row _ _ 0 _ _ _ (zz_set (b := q1.heap.size) n0b u2a0b x y))
         try (have d2a0b1 := fun (x y : Value) => cell_of_row _ _ 1 _ _ _ (zz_set (b := q1.heap.size) n0b u2a0b x y))
         try (have d2a0bf := fun (x y : Value) (i : Nat) => frozen_of_row _ _ i _ _ (zz_set (b := q1.heap.size) n0b u2a0b x y))
         try (have u2a1a : (q1.heap.size) ≠ (q0.heap.size) := (by have := lt_of_block n2a; have := lt_of_block n1a; omega))
         try (have d2a1a0 := fun (x y : Value) => cell_of_row _ _ 0 _ _ _ (zz_set (b := q1.heap.size) n1a u2a1a x y))
         try (have d2a1a1 := fun (x y : Value) => cell_of_row _ _ 1 _ _ _ (zz_set (b := q1.heap.size) n1a u2a1a x y))
         try (have d2a1af := fun (x y : Value) (i : Nat) => frozen_of_row _ _ i _ _ (zz_set (b := q1.heap.size) n1a u2a1a x y))
         try (have u2a1b : (q1.heap.size) ≠ (q0.heap.size + 1) := (by have := lt_of_block n2a; have := lt_of_block n1b; omega))
         try (have d2a1b0 := fun (x y : Value) => cell_of_row _ _ 0 _ _ _ (zz_set (b := q1.heap.size) n1b u2a1b x y))
         try (have d2a1b1 := fun (x y : Value) => cell_of_row _ _ 1 _ _ _ (zz_set (b := q1.heap.size) n1b u2a1b x y))
         try (have d2a1bf := fun (x y : Value) (i : Nat) => frozen_of_row _ _ i _ _ (zz_set (b := q1.heap.size) n1b u2a1b x y))
         try (have u2a2b : (q1.heap.size) ≠ (q1.heap.size + 1) := (by have := lt_of_block n2a; have := lt_of_block n2b; omega))
         try (have d2a2b0 := fun (x y : Value) => cell_of_row _ _ 0 _ _ _ (zz_set (b := q1.heap.size) n2b u2a2b x y))
         try (have d2a2b1 := fun (x y : Value) => cell_of_row _ _ 1 _ _ _ (zz_set (b := q1.heap.size) n2b u2a2b x y))
         try (have d2a2bf := fun (x y : Value) (i : Nat) => frozen_of_row _ _ i _ _ (zz_set (b := q1.heap.size) n2b u2a2b x y))
         try (have m2b0 := cell_of_row _ _ 0 _ _ _ (n2b))
         try (have m2b1 := cell_of_row _ _ 1 _ _ _ (n2b))
         try (have m2bf := fun (i : Nat) => frozen_of_row _ _ i _ _ (n2b))
         try (have e2b0 := fun (o : Obj) => cell_of_row _ _ 0 _ _ _ (zu_stay n2b ((New.refl q2).alloc o)))
         try (have e2b1 := fun (o : Obj) => cell_of_row _ _ 1 _ _ _ (zu_stay n2b ((New.refl q2).alloc o)))
         try (have e2bf := fun (o : Obj) (i : Nat) => frozen_of_row _ _ i _ _ (zu_stay n2b ((New.refl q2).alloc o)))
         try (have h2b0 := fun (x y : Value) => cell_of_row _ _ 0 _ _ _ (zz_set (b := q1.heap.size + 1) (zu_new q2) (Nat.ne_of_lt (lt_of_block n2b)) x y))
         try (have h2b1 := fun (x y : Value) => cell_of_row _ _ 1 _ _ _ (zz_set (b := q1.heap.size + 1) (zu_new q2) (Nat.ne_of_lt (lt_of_block n2b)) x y))
         try (have h2bf := fun (x y : Value) (i : Nat) => frozen_of_row _ _ i _ _ (zz_set (b := q1.heap.size + 1) (zu_new q2) (Nat.ne_of_lt (lt_of_block n2b)) x y))
         try (have v2b := Nat.ne_of_lt (lt_of_block n2b))
         try (have w2b := (Nat.ne_of_lt (lt_of_block n2b)).symm)
         try (have u2b0a : (q1.heap.size + 1) ≠ (wz.heap.size) := (by have := lt_of_block n2b; have := lt_of_block n0a; omega))
         try (have d2b0a0 := fun (x y : Value) => cell_of_row _ _ 0 _ _ _ (zz_set (b := q1.heap.size + 1) n0a u2b0a x y))
         try (have d2b0a1 := fun (x y : Value) => cell_of_row _ _ 1 _ _ _ (zz_set (b := q1.heap.size + 1) n0a u2b0a x y))
         try (have d2b0af := fun (x y : Value) (i : Nat) => frozen_of_row _ _ i _ _ (zz_set (b := q1.heap.size + 1) n0a u2b0a x y))
         try (have u2b0b : (q1.heap.size + 1) ≠ (wz.heap.size + 1) := (by have := lt_of_block n2b; have := lt_of_block n0b; omega))
         try (have d2b0b0 := fun (x y : Value) => cell_of_row _ _ 0 _ _ _ (zz_set (b := q1.heap.size + 1) n0b u2b0b x y))
         try (have d2b0b1 := fun (x y : Value) => cell_of_row _ _ 1 _ _ _ (zz_set (b := q1.heap.size + 1) n0b u2b0b x y))
         try (have d2b0bf := fun (x y : Value) (i : Nat) => frozen_of_row _ _ i _ _ (zz_set (b := q1.heap.size + 1) n0b u2b0b x y))
         try (have u2b1a : (q1.heap.size + 1) ≠ (q0.heap.size) := (by have := lt_of_block n2b; have := lt_of_block n1a; omega))
         try (have d2b1a0 := fun (x y : Value) => cell_of_row _ _ 0 _ _ _ (zz_set (b := q1.heap.size + 1) n1a u2b1a x y))
         try (have d2b1a1 := fun (x y : Value) => cell_of_row _ _ 1 _ _ _ (zz_set (b := q1.heap.size + 1) n1a u2b1a x y))
         try (have d2b1af := fun (x y : Value) (i : Nat) => frozen_of_row _ _ i _ _ (zz_set (b := q1.heap.size + 1) n1a u2b1a x y))
         try (have u2b1b : (q1.heap.size + 1) ≠ (q0.heap.size + 1) := (by have := lt_of_block n2b; have := lt_of_block n1b; omega))
         try (have d2b1b0 := fun (x y : Value) => cell_of_row _ _ 0 _ _ _ (zz_set (b := q1.heap.size + 1) n1b u2b1b x y))
         try (have d2b1b1 := fun (x y : Value) => cell_of_row _ _ 1 _ _ _ (zz_set (b := q1.heap.size + 1) n1b u2b1b x y))
         try (have d2b1bf := fun (x y : Value) (i : Nat) => frozen_of_row _ _ i _ _ (zz_set (b := q1.heap.size + 1) n1b u2b1b x y))
         try (have u2b2a : (q1.heap.size + 1) ≠ (q1.heap.size) := (by have := lt_of_block n2b; have := lt_of_block n2a; omega))
         try (have d2b2a0 := fun (x y : Value) => cell_of_row _ _ 0 _ _ _ (zz_set (b := q1.heap.size + 1) n2a u2b2a x y))
         try (have d2b2a1 := fun (x y : Value) => cell_of_row _ _ 1 _ _ _ (zz_set (b := q1.heap.size + 1) n2a u2b2a x y))
         try (have d2b2af := fun (x y : Value) (i : Nat) => frozen_of_row _ _ i _ _ (zz_set (b := q1.heap.size + 1) n2a u2b2a x y))
         try (have gg0 := fun (o : Obj) => cell_of_row _ _ 0 _ _ _ (zu_stay (zu_new q2) ((New.refl (q2.alloc (.cells #[.int .u64 0, .int .u64 0] 24))).alloc o)))
         try (have gg1 := fun (o : Obj) => cell_of_row _ _ 1 _ _ _ (zu_stay (zu_new q2) ((New.refl (q2.alloc (.cells #[.int .u64 0, .int .u64 0] 24))).alloc o)))
         try (have ggf := fun (o : Obj) (i : Nat) => frozen_of_row _ _ i _ _ (zu_stay (zu_new q2) ((New.refl (q2.alloc (.cells #[.int .u64 0, .int .u64 0] 24))).alloc o)))
         try (have gh0 := fun (x y : Value) => cell_of_row _ _ 0 _ _ _ (zz_set (b := q2.heap.size) (zz_b q2) (by omega) x y))
         try (have gh1 := fun (x y : Value) => cell_of_row _ _ 1 _ _ _ (zz_set (b := q2.heap.size) (zz_b q2) (by omega) x y))
         try (have ghf := fun (x y : Value) (i : Nat) => frozen_of_row _ _ i _ _ (zz_set (b := q2.heap.size) (zz_b q2) (by omega) x y))
         clear hc2))
    all_goals (
      go_wp2_with fail
      go_meet
      case rel =>
        refine ⟨_, _, rfl, rfl, rfl, ?_, ?_, ?_⟩
        · first
          | with_reducible exact zf1a (by assumption) (by omega)
          | with_reducible exact zf1b (by assumption) (by omega)
          | with_reducible exact zf2a (by assumption)
          | with_reducible exact zf2b (b := _) (by assumption)
          | with_reducible exact zf3a (by assumption)
          | with_reducible exact zf3b
          | with_reducible exact zf4a
          | with_reducible exact zf4b
          | with_reducible exact zf5a (by assumption)
          | with_reducible exact zf5b (by assumption)
        · first
          | with_reducible exact zf1a (by assumption) (by omega)
          | with_reducible exact zf1b (by assumption) (by omega)
          | with_reducible exact zf2a (by assumption)
          | with_reducible exact zf2b (b := _) (by assumption)
          | with_reducible exact zf3a (by assumption)
          | with_reducible exact zf3b
          | with_reducible exact zf4a
          | with_reducible exact zf4b
          | with_reducible exact zf5a (by assumption)
          | with_reducible exact zf5b (by assumption)
        · repeat (first | with_reducible assumption | with_reducible exact New.refl _ | with_reducible refine New.drew ?_ | with_reducible refine New.alloc ?_ _ | (with_reducible refine New.setCell ?_ ?_ _; rotate_left; · (first | (simp; done) | (simp; omega) | omega))))
  case rest =>
    obtain ⟨b1, b2, rfl, rfl, rfl, hb1, hb2, hn⟩ := hcut
    replace HN := Lib.hid (HN.out.trans hn)
    replace HB0 := Lib.hid ((hn.block _ (lt_of_block HB0.out)).trans HB0.out)
    replace HB1 := Lib.hid ((hn.block _ (lt_of_block HB1.out)).trans HB1.out)
    clear hn SK ce0 ce1 ce2 ce3 ce4 ce5 ce6 ce7 HB2 HB3 H3 H4 HSB
    have x0 := cell_of_row _ _ 0 _ _ _ HB0.out
    have x1 := cell_of_row _ _ 1 _ _ _ HB0.out
    have y0 := cell_of_row _ _ 0 _ _ _ HB1.out
    have y1 := cell_of_row _ _ 1 _ _ _ HB1.out
    have g0 := cell_of_row _ _ 0 _ _ _ hb1
    have g1 := cell_of_row _ _ 1 _ _ _ hb1
    have g2 := cell_of_row _ _ 0 _ _ _ hb2
    have g3 := cell_of_row _ _ 1 _ _ _ hb2
    clear hb1 hb2
    go_wp2
    go_ret
    exact ⟨rfl, HN.out⟩
end Go.Proofs.Ytfiihbknkglggaa
