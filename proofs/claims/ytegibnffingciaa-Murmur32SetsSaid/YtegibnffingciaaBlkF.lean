/- Contracts of layer 28: Reset, Clone; of a stream that nobody made. -/
import Derived.Test.YtegibnffingciaaBlkE
import Derived.Defers
import Derived.Recover
import Derived.Laws.Pointers
import Derived.Handy
import Derived.Laws.EntriesVeiled
namespace Go.Bv
open Go Go.RowKit
theorem putr_28 {w : World} {q : Nat} {c0 c1 c2 c3 c4 c5 c6 c7 : Value} {T : TypeId} (v0 v1 v2 v3 : Value) (h : w.heap[q]? = some (.cells #[c0, c1, c2, c3, c4, c5, c6, c7] T (0, 0))) :
    ((((w.setCell ⟨q, 3, none⟩ v0).setCell ⟨q, 4, none⟩ v1).setCell ⟨q, 6, none⟩ v2).setCell ⟨q, 7, none⟩ v3).heap[q]? = some (.cells #[c0, c1, c2, v0, v1, c5, v2, v3] T (0, 0)) ∧ (∀ u : World, But q u w → But q u ((((w.setCell ⟨q, 3, none⟩ v0).setCell ⟨q, 4, none⟩ v1).setCell ⟨q, 6, none⟩ v2).setCell ⟨q, 7, none⟩ v3)) := by
  refine ⟨?_, fun u hu => ?_⟩
  · have h0 := heap_setCell_same w q 3 _ _ v0 h
    have h1 := heap_setCell_same _ q 4 _ _ v1 h0
    have h2 := heap_setCell_same _ q 6 _ _ v2 h1
    have h3 := heap_setCell_same _ q 7 _ _ v3 h2
    exact h3
  · exact (((hu.setCell rfl _).setCell rfl _).setCell rfl _).setCell rfl _
end Go.Bv
namespace Go.Proofs.Ytegibnffingciaa
open Go.RowKit Go.Bv
set_option linter.unusedVariables false
theorem reset_n_28 (w : World) : Calls Try.prog 31 #[.pointer none] w fun e w' => e = .returned (.tuple #[]) ∧ w' = w := by
  go_enter Try.func31, Try.ntmps31
  go_wp2_with (refine (made_n_28 _).mono ?_; rintro e w' ⟨rfl, rfl⟩)
  go_end0
  exact ⟨rfl, rfl⟩
theorem write_n_28 (v : Value) (w : World) : Calls Try.prog 22 #[.pointer none, v] w fun e w' => e = .returned (.tuple #[]) ∧ w' = w := by
  go_enter Try.func22, Try.ntmps22
  go_wp2_with (refine (made_n_28 _).mono ?_; rintro e w' ⟨rfl, rfl⟩)
  first | go_end0 | refine bodyPost_ret (results_none rfl _ _ _) rfl ?_
  exact ⟨rfl, rfl⟩
theorem clone_n_28 (w : World) : Calls Try.prog 29 #[.pointer none] w fun e w' => e = .returned (.pointer none) ∧ w' = w := by
  go_enter Try.func29, Try.ntmps29
  go_wp2_with (refine (made_n_28 _).mono ?_; rintro e w' ⟨rfl, rfl⟩)
  go_ret
  exact ⟨rfl, rfl⟩
set_option maxHeartbeats 1000000 in
theorem reset_28 (p : Nat) (n : Nat) (hn : 1 ≤ n ∧ n ≤ 64) (fs st : BitVec 64 × Int) (tl : List (BitVec 8)) (long : BitVec 64) (w : World) (hs : Strm_28 w p n fs st tl long) :
    Calls Try.prog 31 #[.pointer (some ⟨p, 0, none⟩)] w fun e w' => e = .returned (.tuple #[]) ∧ Strm_28 w' p n fs fs [] 0#64 ∧ But p w w' := by
  have HM := Lib.hid (made_28 p n fs st tl long w (by omega) hs)
  obtain ⟨a, cap, hbx, hr⟩ := hs
  have c1 := cell_of_row _ _ 1 _ _ _ hbx
  have c2 := cell_of_row _ _ 2 _ _ _ hbx
  have c3 := cell_of_row _ _ 3 _ _ _ hbx
  have c4 := cell_of_row _ _ 4 _ _ _ hbx
  have c6 := cell_of_row _ _ 6 _ _ _ hbx
  have c7 := cell_of_row _ _ 7 _ _ _ hbx
  have cf := fun i => frozen_of_row _ _ i _ _ hbx
  have HP := Lib.hid (putr_28 (.int .u64 (W64 (fs.1))) (.int .i64 (fs.2)) (.slice none 0 0) (.int .u64 0) hbx)
  clear hbx hr hn
  go_enter Try.func31, Try.ntmps31
  go_wp2_with fail
  refine HM.out.mono ?_
  rintro e w9 ⟨rfl, rfl⟩
  go_wp2
  go_end0
  exact ⟨rfl, ⟨none, 0, HP.out.1, brow_none _⟩, HP.out.2 _ (But.refl _ _)⟩
set_option maxRecDepth 100000 in
set_option maxHeartbeats 1000000 in
theorem sclone_28 (p : Nat) (n : Nat) (hn : 1 ≤ n ∧ n ≤ 64) (fs st : BitVec 64 × Int) (tl : List (BitVec 8)) (long : BitVec 64) (w : World) (hs : Strm_28 w p n fs st tl long) :
    Calls Try.prog 29 #[.pointer (some ⟨p, 0, none⟩)] w fun e w' => ∃ q, e = .returned (.pointer (some ⟨q, 0, none⟩)) ∧ w.heap.size ≤ q ∧ Strm_28 w' q n fs st tl long ∧ New w w' := by
  have HM := Lib.hid (made_28 p n fs st tl long w (by omega) hs)
  obtain ⟨a, cap, hbx, hr⟩ := hs
  have c0 := cell_of_row _ _ 0 _ _ _ hbx
  have c1 := cell_of_row _ _ 1 _ _ _ hbx
  have c2 := cell_of_row _ _ 2 _ _ _ hbx
  have c3 := cell_of_row _ _ 3 _ _ _ hbx
  have c4 := cell_of_row _ _ 4 _ _ _ hbx
  have c5 := cell_of_row _ _ 5 _ _ _ hbx
  have c6 := cell_of_row _ _ 6 _ _ _ hbx
  have c7 := cell_of_row _ _ 7 _ _ _ hbx
  have HBX := Lib.hid hbx
  have HAL := Lib.hid (heap_alloc_new w (.cells #[.int .i64 (n : Int), .int .u64 (W64 (fs.1)), .int .i64 (fs.2), .int .u64 (W64 (st.1)), .int .i64 (st.2), (.func (Fn.func 20) #[] #[]), .slice a (tl.length : Nat) cap, .int .u64 (W64 long)] 82 (0, 0)))
  have hal := (New.refl w).alloc (.cells #[.int .i64 (n : Int), .int .u64 (W64 (fs.1)), .int .i64 (fs.2), .int .u64 (W64 (st.1)), .int .i64 (st.2), (.func (Fn.func 20) #[] #[]), .slice a (tl.length : Nat) cap, .int .u64 (W64 long)] 82 (0, 0))
  have HCL := Lib.hid (fun w' (hn : New w w') => clone_b _ _ _ _ w' (hr.stay hn))
  have c6a := cell_of_row _ _ 6 _ _ _ ((hal.block _ (lt_of_block hbx)).trans hbx)
  have HNA := Lib.hid hal
  clear hbx hr hal hn
  go_enter Try.func29, Try.ntmps29
  go_wp2_with fail
  refine HM.out.mono ?_
  rintro e w9 ⟨rfl, rfl⟩
  go_wp2_with fail
  refine (HCL.out _ HNA.out).mono ?_
  rintro e w3 ⟨a2, c2, rfl, hrow, hfr, hn⟩
  have hb2 := (hn.block _ (lt_of_block HAL.out)).trans HAL.out
  have k0 := cell_of_row _ _ 6 _ _ _ hb2
  have kf := fun i => frozen_of_row _ _ i _ _ hb2
  have HP := Lib.hid (putt_28 (.slice a2 (tl.length : Nat) c2) hb2)
  have HROW := Lib.hid (hrow.but (w' := w3.setCell ⟨w9.heap.size, 6, none⟩ (.slice a2 (tl.length : Nat) c2)) (by simp) (fun y e _ => HP.out.2.1 _ (by have := hfr y e; have := lt_of_block HAL.out; omega)))
  have HN := Lib.hid (HNA.out.trans hn)
  clear hb2 hrow hfr hn
  go_wp2
  go_ret
  exact ⟨_, rfl, Nat.le_refl _, ⟨a2, c2, HP.out.1, HROW.out⟩, HN.out.setCell (Nat.le_refl _) _⟩
end Go.Proofs.Ytegibnffingciaa
