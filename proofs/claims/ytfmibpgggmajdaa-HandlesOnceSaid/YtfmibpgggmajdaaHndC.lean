/- The law HandlesNone. -/
import Derived.Test.YtfmibpgggmajdaaHndB
namespace Go.Bv
open Go Go.RowKit
theorem set_three {w : World} {r : Nat} {a b c d e f : Value} {T : TypeId} (x y z : Value) (hz : w.heap[r]? = some (.cells #[a, b, c, d, e, f] T (0, 0))) :
    (((w.setCell ⟨r, 0, none⟩ x).setCell ⟨r, 1, none⟩ y).setCell ⟨r, 2, none⟩ z).heap[r]? = some (.cells #[x, y, z, d, e, f] T (0, 0)) ∧ (∀ j, j ≠ r → (((w.setCell ⟨r, 0, none⟩ x).setCell ⟨r, 1, none⟩ y).setCell ⟨r, 2, none⟩ z).heap[j]? = w.heap[j]?) := by
  refine ⟨?_, fun j hj => ?_⟩
  · have h1 := heap_setCell_same w r 0 _ _ x hz
    have h2 := heap_setCell_same _ r 1 _ _ y h1
    exact heap_setCell_same _ r 2 _ _ z h2
  · rw [heap_setCell_other _ _ _ _ hj, heap_setCell_other _ _ _ _ hj, heap_setCell_other _ _ _ _ hj]
theorem new_three {W w : World} {r : Nat} (x y z : Value) (h : New W w) (hr : W.heap.size ≤ r) : New W (((w.setCell ⟨r, 0, none⟩ x).setCell ⟨r, 1, none⟩ y).setCell ⟨r, 2, none⟩ z) := ((h.setCell hr _).setCell hr _).setCell hr _
end Go.Bv
namespace Go.Proofs.Ytfmibpgggmajdaa
open Go.RowKit Go.Bv
set_option linter.unusedVariables false
set_option maxHeartbeats 1000000 in
theorem put_first (b tb : Nat) (w : World) (hb : w.heap[b]? = some (.cells #[.int .i64 0, .bool false, .int .u64 0, .int .i64 0, .bool false, .int .u64 0] 55 (0, 0))) (ht : w.heap[tb]? = some (.cells #[.slice (some ⟨b, 0, none⟩) 2 2] 49 (0, 0))) (hne : ¬ tb = b) : Calls Try.prog 15 #[(.pointer (some ⟨tb, 0, none⟩)), .int .i64 5] w fun e w' => e = .returned (.tuple #[.int .u64 16, .int .i64 0]) ∧ w'.heap[b]? = some (.cells #[.int .i64 5, .bool true, .int .u64 1, .int .i64 0, .bool false, .int .u64 0] 55 (0, 0)) ∧ w'.heap[tb]? = some (.cells #[.slice (some ⟨b, 0, none⟩) 2 2] 49 (0, 0)) ∧ (∀ W : World, New W w → W.heap.size ≤ b → New W w') := by
  have HM := Lib.hid (made_at b tb 0 0 false w hb ht)
  have HS := Lib.hid (search_put b tb 0 0 w hb ht)
  have HB := Lib.hid hb
  have HT := Lib.hid ht
  have HNE := Lib.hid hne
  clear hb ht hne
  go_enter Try.func15, Try.ntmps15
  go_wp2_with fail
  refine (HM.out).mono ?_
  rintro e w1 ⟨rfl, rfl⟩
  go_wp2_with fail
  refine (HS.out).mono ?_
  rintro e w2 ⟨rfl, hn⟩
  have HB2 := Lib.hid ((hn.block _ (lt_of_block HB.out)).trans HB.out)
  have HT2 := Lib.hid ((hn.block _ (lt_of_block HT.out)).trans HT.out)
  have HN := Lib.hid hn
  clear hn
  have p0 := cell_of_row _ _ 0 _ _ _ HB2.out
  have p1 := cell_of_row _ _ 1 _ _ _ HB2.out
  have p2 := cell_of_row _ _ 2 _ _ _ HB2.out
  have kf := fun i => frozen_of_row _ _ i _ _ HB2.out
  go_wp2_with fail
  refine (handle_1 5 true _).mono ?_
  rintro e w3 ⟨rfl, hn⟩
  have HB3 := Lib.hid ((hn.block _ (lt_of_block (set_three (.int .i64 5) (.bool true) (.int .u64 1) HB2.out).1)).trans (set_three (.int .i64 5) (.bool true) (.int .u64 1) HB2.out).1)
  have h4 := ((set_three (.int .i64 5) (.bool true) (.int .u64 1) HB2.out).2 tb HNE.out).trans HT2.out
  have HT3 := Lib.hid ((hn.block _ (lt_of_block h4)).trans h4)
  have HN3 := Lib.hid (fun W (h : New W w1) (hr : W.heap.size ≤ b) => (new_three (.int .i64 5) (.bool true) (.int .u64 1) (h.trans HN.out) hr).trans hn)
  clear hn h4 p0 p1 p2 kf
  go_wp2
  go_ret2
  exact ⟨rfl, HB3.out, HT3.out, HN3.out⟩
set_option maxHeartbeats 1000000 in
theorem put_second (b tb : Nat) (w : World) (hb : w.heap[b]? = some (.cells #[.int .i64 0, .bool false, .int .u64 1, .int .i64 0, .bool false, .int .u64 0] 55 (0, 0))) (ht : w.heap[tb]? = some (.cells #[.slice (some ⟨b, 0, none⟩) 2 2] 49 (0, 0))) (hne : ¬ tb = b) : Calls Try.prog 15 #[(.pointer (some ⟨tb, 0, none⟩)), .int .i64 6] w fun e w' => e = .returned (.tuple #[.int .u64 32, .int .i64 0]) ∧ w'.heap[b]? = some (.cells #[.int .i64 6, .bool true, .int .u64 2, .int .i64 0, .bool false, .int .u64 0] 55 (0, 0)) ∧ w'.heap[tb]? = some (.cells #[.slice (some ⟨b, 0, none⟩) 2 2] 49 (0, 0)) ∧ (∀ W : World, New W w → W.heap.size ≤ b → New W w') := by
  have HM := Lib.hid (made_at b tb 0 1 false w hb ht)
  have HS := Lib.hid (search_put b tb 0 1 w hb ht)
  have HB := Lib.hid hb
  have HT := Lib.hid ht
  have HNE := Lib.hid hne
  clear hb ht hne
  go_enter Try.func15, Try.ntmps15
  go_wp2_with fail
  refine (HM.out).mono ?_
  rintro e w1 ⟨rfl, rfl⟩
  go_wp2_with fail
  refine (HS.out).mono ?_
  rintro e w2 ⟨rfl, hn⟩
  have HB2 := Lib.hid ((hn.block _ (lt_of_block HB.out)).trans HB.out)
  have HT2 := Lib.hid ((hn.block _ (lt_of_block HT.out)).trans HT.out)
  have HN := Lib.hid hn
  clear hn
  have p0 := cell_of_row _ _ 0 _ _ _ HB2.out
  have p1 := cell_of_row _ _ 1 _ _ _ HB2.out
  have p2 := cell_of_row _ _ 2 _ _ _ HB2.out
  have kf := fun i => frozen_of_row _ _ i _ _ HB2.out
  go_wp2_with fail
  refine (handle_2 6 true _).mono ?_
  rintro e w3 ⟨rfl, hn⟩
  have HB3 := Lib.hid ((hn.block _ (lt_of_block (set_three (.int .i64 6) (.bool true) (.int .u64 2) HB2.out).1)).trans (set_three (.int .i64 6) (.bool true) (.int .u64 2) HB2.out).1)
  have h4 := ((set_three (.int .i64 6) (.bool true) (.int .u64 2) HB2.out).2 tb HNE.out).trans HT2.out
  have HT3 := Lib.hid ((hn.block _ (lt_of_block h4)).trans h4)
  have HN3 := Lib.hid (fun W (h : New W w1) (hr : W.heap.size ≤ b) => (new_three (.int .i64 6) (.bool true) (.int .u64 2) (h.trans HN.out) hr).trans hn)
  clear hn h4 p0 p1 p2 kf
  go_wp2
  go_ret2
  exact ⟨rfl, HB3.out, HT3.out, HN3.out⟩
set_option maxHeartbeats 1000000 in
theorem drop_at (b tb : Nat) (w : World) (hb : w.heap[b]? = some (.cells #[.int .i64 5, .bool true, .int .u64 1, .int .i64 0, .bool false, .int .u64 0] 55 (0, 0))) (ht : w.heap[tb]? = some (.cells #[.slice (some ⟨b, 0, none⟩) 2 2] 49 (0, 0))) (hne : ¬ tb = b) : Calls Try.prog 17 #[(.pointer (some ⟨tb, 0, none⟩)), .int .u64 16] w fun e w' => e = .returned (.int .i64 0) ∧ w'.heap[b]? = some (.cells #[.int .i64 0, .bool false, .int .u64 1, .int .i64 0, .bool false, .int .u64 0] 55 (0, 0)) ∧ w'.heap[tb]? = some (.cells #[.slice (some ⟨b, 0, none⟩) 2 2] 49 (0, 0)) ∧ (∀ W : World, New W w → W.heap.size ≤ b → New W w') := by
  have HF := Lib.hid (find_at b tb w hb ht)
  have HB := Lib.hid hb
  have HT := Lib.hid ht
  have HNE := Lib.hid hne
  clear hb ht hne
  go_enter Try.func17, Try.ntmps17
  go_wp2_with fail
  refine (HF.out).mono ?_
  rintro e w2 ⟨rfl, hn⟩
  have HB2 := Lib.hid ((hn.block _ (lt_of_block HB.out)).trans HB.out)
  have HT2 := Lib.hid ((hn.block _ (lt_of_block HT.out)).trans HT.out)
  have HN := Lib.hid hn
  clear hn
  have p0 := cell_of_row _ _ 0 _ _ _ HB2.out
  have p1 := cell_of_row _ _ 1 _ _ _ HB2.out
  have p2 := cell_of_row _ _ 2 _ _ _ HB2.out
  have kf := fun i => frozen_of_row _ _ i _ _ HB2.out
  go_wp2
  go_ret
  exact ⟨rfl, (set_three (.int .i64 0) (.bool false) (.int .u64 1) HB2.out).1, ((set_three (.int .i64 0) (.bool false) (.int .u64 1) HB2.out).2 tb HNE.out).trans HT2.out, fun W h hr => new_three (.int .i64 0) (.bool false) (.int .u64 1) (h.trans HN.out) hr⟩
set_option maxHeartbeats 1000000 in
theorem awake48 (w : World) : Calls Try.prog 6 #[] w fun e w' => e = .returned (.bool true) ∧ New w w' := by
  go_enter Try.func6, Try.ntmps6
  go_wp2_with fail
  refine (new_two _).mono ?_
  rintro e w1 ⟨rfl, hb, ht, hn⟩
  have hr : w.heap.size ≤ w.heap.size := Nat.le_refl _
  have hne : ¬ w.heap.size + 1 = w.heap.size := by omega
  generalize hb0 : w.heap.size = b at hb ht hne
  rw [hb0] at hr
  generalize b + 1 = tb at *
  have H1 := Lib.hid (put_first b tb w1 hb ht hne)
  have HNE := Lib.hid hne
  have HR := Lib.hid (show w.heap.size ≤ b from Nat.le_of_eq hb0)
  have HN := Lib.hid hn
  clear hb ht hne hn hr hb0
  go_wp2_with fail
  refine (H1.out).mono ?_
  rintro e w2 ⟨rfl, hb, ht, hn⟩
  have H2 := Lib.hid (drop_at b tb w2 hb ht HNE.out)
  have HN2 := Lib.hid (hn w HN.out HR.out)
  clear hb ht hn
  go_wp2_with fail
  refine (H2.out).mono ?_
  rintro e w3 ⟨rfl, hb, ht, hn⟩
  have H3 := Lib.hid (put_second b tb w3 hb ht HNE.out)
  have HN3 := Lib.hid (hn w HN2.out HR.out)
  clear hb ht hn
  go_wp2_with fail
  refine (H3.out).mono ?_
  rintro e w4 ⟨rfl, hb, ht, hn⟩
  have HN4 := Lib.hid (hn w HN3.out HR.out)
  clear hb ht hn
  go_wp2
  go_ret
  exact ⟨rfl, HN4.out⟩
theorem HandlesNone_walk (a0 : Int) (a1 : Int) (w0 : (Lit.int .u64 a0).wf = true) (w1 : (Lit.int .i64 a1).wf = true) (W : World) :
    Calls Try.prog 5 #[.int .u64 a0, .int .i64 a1] W fun e w' => e = .returned (.bool true) ∧ Below W.heap.size W w' := none_walk W a0 a1 (Lib.hid awake48)
end Go.Proofs.Ytfmibpgggmajdaa
