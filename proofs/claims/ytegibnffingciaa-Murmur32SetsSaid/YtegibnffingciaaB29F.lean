/- The block's contracts of layer 29: Reset, Clone, Set, Fold. -/
import Derived.Test.YtegibnffingciaaB29C
import Derived.Defers
import Derived.Recover
import Derived.Laws.Pointers
import Derived.Handy
import Derived.Laws.EntriesVeiled
namespace Go.Bv
open Go Go.RowKit
theorem putr_29 {w : World} {q : Nat} {c0 c1 c2 c3 c4 c5 : Value} {T : TypeId} (v0 v1 v2 : Value) (h : w.heap[q]? = some (.cells #[c0, c1, c2, c3, c4, c5] T (0, 0))) :
    (((w.setCell ⟨q, 2, none⟩ v0).setCell ⟨q, 4, none⟩ v1).setCell ⟨q, 5, none⟩ v2).heap[q]? = some (.cells #[c0, c1, v0, c3, v1, v2] T (0, 0)) ∧ (∀ u : World, But q u w → But q u (((w.setCell ⟨q, 2, none⟩ v0).setCell ⟨q, 4, none⟩ v1).setCell ⟨q, 5, none⟩ v2)) := by
  refine ⟨?_, fun u hu => ?_⟩
  · have h0 := heap_setCell_same w q 2 _ _ v0 h
    have h1 := heap_setCell_same _ q 4 _ _ v1 h0
    have h2 := heap_setCell_same _ q 5 _ _ v2 h1
    exact h2
  · exact ((hu.setCell rfl _).setCell rfl _).setCell rfl _
theorem putz_29 {w : World} {q : Nat} {c0 c1 c2 c3 c4 c5 : Value} {T : TypeId} (v0 v1 v2 : Value) (h : w.heap[q]? = some (.cells #[c0, c1, c2, c3, c4, c5] T (0, 0))) :
    (((w.setCell ⟨q, 2, none⟩ v0).setCell ⟨q, 5, none⟩ v1).setCell ⟨q, 4, none⟩ v2).heap[q]? = some (.cells #[c0, c1, v0, c3, v2, v1] T (0, 0)) ∧ (∀ j, j ≠ q → (((w.setCell ⟨q, 2, none⟩ v0).setCell ⟨q, 5, none⟩ v1).setCell ⟨q, 4, none⟩ v2).heap[j]? = w.heap[j]?) ∧ (∀ u : World, But q u w → But q u (((w.setCell ⟨q, 2, none⟩ v0).setCell ⟨q, 5, none⟩ v1).setCell ⟨q, 4, none⟩ v2)) := by
  refine ⟨?_, fun j hj => ?_, fun u hu => ?_⟩
  · have h0 := heap_setCell_same w q 2 _ _ v0 h
    have h1 := heap_setCell_same _ q 5 _ _ v1 h0
    have h2 := heap_setCell_same _ q 4 _ _ v2 h1
    exact h2
  · rw [heap_setCell_other _ _ _ _ hj, heap_setCell_other _ _ _ _ hj, heap_setCell_other _ _ _ _ hj]
  · exact ((hu.setCell rfl _).setCell rfl _).setCell rfl _
end Go.Bv
namespace Go.Proofs.Ytegibnffingciaa
open Go.RowKit Go.Bv
set_option linter.unusedVariables false
theorem reset_n_29 (w : World) : Calls Try.prog 97 #[.pointer none] w fun e w' => e = .returned (.tuple #[]) ∧ w' = w := by
  go_enter Try.func97, Try.ntmps97
  go_wp2_with (refine (made_n_29 _).mono ?_; rintro e w' ⟨rfl, rfl⟩)
  go_end0
  exact ⟨rfl, rfl⟩
theorem write_n_29 (v : Value) (w : World) : Calls Try.prog 96 #[.pointer none, v] w fun e w' => e = .returned (.tuple #[]) ∧ w' = w := by
  go_enter Try.func96, Try.ntmps96
  go_wp2_with (refine (made_n_29 _).mono ?_; rintro e w' ⟨rfl, rfl⟩)
  first | go_end0 | refine bodyPost_ret (results_none rfl _ _ _) rfl ?_
  exact ⟨rfl, rfl⟩
theorem clone_n_29 (w : World) : Calls Try.prog 100 #[.pointer none] w fun e w' => e = .returned (.pointer none) ∧ w' = w := by
  go_enter Try.func100, Try.ntmps100
  go_wp2_with (refine (made_n_29 _).mono ?_; rintro e w' ⟨rfl, rfl⟩)
  go_ret
  exact ⟨rfl, rfl⟩
set_option maxHeartbeats 1000000 in
theorem reset_29 (p : Nat) (fs st : BitVec 32) (tl : List (BitVec 8)) (long : BitVec 64) (w : World) (hs : Strm_29 w p 4 fs st tl long) :
    Calls Try.prog 97 #[.pointer (some ⟨p, 0, none⟩)] w fun e w' => e = .returned (.tuple #[]) ∧ Strm_29 w' p 4 fs fs [] 0#64 ∧ But p w w' := by
  have HM := Lib.hid (made_29 p 4 fs st tl long w (by omega) hs)
  obtain ⟨a, cap, hbx, hr⟩ := hs
  have c1 := cell_of_row _ _ 1 _ _ _ hbx
  have c2 := cell_of_row _ _ 2 _ _ _ hbx
  have c4 := cell_of_row _ _ 4 _ _ _ hbx
  have c5 := cell_of_row _ _ 5 _ _ _ hbx
  have cf := fun i => frozen_of_row _ _ i _ _ hbx
  have HP := Lib.hid (putr_29 (.int .u32 (W32 (fs))) (.slice none 0 0) (.int .u64 0) hbx)
  clear hbx hr
  go_enter Try.func97, Try.ntmps97
  go_wp2_with fail
  refine HM.out.mono ?_
  rintro e w9 ⟨rfl, rfl⟩
  go_wp2
  go_end0
  exact ⟨rfl, ⟨none, 0, HP.out.1, brow_none _⟩, HP.out.2 _ (But.refl _ _)⟩
set_option maxRecDepth 100000 in
set_option maxHeartbeats 1000000 in
theorem sclone_29 (p : Nat) (fs st : BitVec 32) (tl : List (BitVec 8)) (long : BitVec 64) (w : World) (hs : Strm_29 w p 4 fs st tl long) :
    Calls Try.prog 100 #[.pointer (some ⟨p, 0, none⟩)] w fun e w' => ∃ q, e = .returned (.pointer (some ⟨q, 0, none⟩)) ∧ w.heap.size ≤ q ∧ Strm_29 w' q 4 fs st tl long ∧ New w w' := by
  have HM := Lib.hid (made_29 p 4 fs st tl long w (by omega) hs)
  obtain ⟨a, cap, hbx, hr⟩ := hs
  have c0 := cell_of_row _ _ 0 _ _ _ hbx
  have c1 := cell_of_row _ _ 1 _ _ _ hbx
  have c2 := cell_of_row _ _ 2 _ _ _ hbx
  have c3 := cell_of_row _ _ 3 _ _ _ hbx
  have c4 := cell_of_row _ _ 4 _ _ _ hbx
  have c5 := cell_of_row _ _ 5 _ _ _ hbx
  have HBX := Lib.hid hbx
  have HAL := Lib.hid (heap_alloc_new w (.cells #[.int .i64 4, .int .u32 (W32 (fs)), .int .u32 (W32 (st)), (.func (Fn.func 89) #[.agg #[.int .u32 3432918353, .int .u32 461845907, .int .u32 3864292196]] #[]), .slice a (tl.length : Nat) cap, .int .u64 (W64 long)] 148 (0, 0)))
  have hal := (New.refl w).alloc (.cells #[.int .i64 4, .int .u32 (W32 (fs)), .int .u32 (W32 (st)), (.func (Fn.func 89) #[.agg #[.int .u32 3432918353, .int .u32 461845907, .int .u32 3864292196]] #[]), .slice a (tl.length : Nat) cap, .int .u64 (W64 long)] 148 (0, 0))
  have HCL := Lib.hid (fun w' (hn : New w w') => clone_b _ _ _ _ w' (hr.stay hn))
  have c4a := cell_of_row _ _ 4 _ _ _ ((hal.block _ (lt_of_block hbx)).trans hbx)
  have HNA := Lib.hid hal
  clear hbx hr hal
  go_enter Try.func100, Try.ntmps100
  go_wp2_with fail
  refine HM.out.mono ?_
  rintro e w9 ⟨rfl, rfl⟩
  go_wp2_with fail
  refine (HCL.out _ HNA.out).mono ?_
  rintro e w3 ⟨a2, c2, rfl, hrow, hfr, hn⟩
  have hb2 := (hn.block _ (lt_of_block HAL.out)).trans HAL.out
  have k0 := cell_of_row _ _ 4 _ _ _ hb2
  have kf := fun i => frozen_of_row _ _ i _ _ hb2
  have HP := Lib.hid (putt_29 (.slice a2 (tl.length : Nat) c2) hb2)
  have HROW := Lib.hid (hrow.but (w' := w3.setCell ⟨w9.heap.size, 4, none⟩ (.slice a2 (tl.length : Nat) c2)) (by simp) (fun y e _ => HP.out.2.1 _ (by have := hfr y e; have := lt_of_block HAL.out; omega)))
  have HN := Lib.hid (HNA.out.trans hn)
  clear hb2 hrow hfr hn
  go_wp2
  go_ret
  exact ⟨_, rfl, Nat.le_refl _, ⟨a2, c2, HP.out.1, HROW.out⟩, HN.out.setCell (Nat.le_refl _) _⟩
set_option maxRecDepth 100000 in
set_option maxHeartbeats 4000000 in
theorem setn_29 (p : Nat) (fs st : BitVec 32) (tl : List (BitVec 8)) (long : BitVec 64) (s2 : BitVec 32) (long2 : BitVec 64) (b : Option Addr) (lb cb : Nat) (m : List (BitVec 8)) (w : World) (hs : Strm_29 w p 4 fs st tl long) (hm : BRow w b lb cb m)
    (hfit : (BitVec.ofNat 64 lb != long2 % 4#64) = true) :
    Calls Try.prog 99 #[.pointer (some ⟨p, 0, none⟩), .int .u32 (W32 (s2)), .int .u64 (W64 long2), .slice b lb cb] w fun e w' => e = .returned (.bool false) ∧ New w w' := by
  have hn1 : 1 ≤ 4 := by omega
  have HM := Lib.hid (fun w' hn' => made_29 p 4 fs st tl long w' hn1 (hs.stay (w' := w') hn'))
  obtain ⟨a, cap, hbx, hr⟩ := hs
  have hlt := lt_of_block hbx
  have hal := New.refl w
  have hb2 := (hal.block _ hlt).trans hbx
  have k0 := cell_of_row _ _ 0 _ _ _ hb2
  have HB := Lib.hid hb2
  have HAL := Lib.hid hal
  have HML := Lib.hid hm.len_eq
  clear hbx hr hb2 hal hm hlt
  go_enter Try.func99, Try.ntmps99
  go_wp2_with fail
  refine (HM.out _ HAL.out).mono ?_
  rintro e w9 ⟨rfl, rfl⟩
  go_wp2
  go_ret
  exact ⟨rfl, HAL.out⟩
set_option maxRecDepth 100000 in
set_option maxHeartbeats 4000000 in
theorem sety_29 (p : Nat) (fs st : BitVec 32) (tl : List (BitVec 8)) (long : BitVec 64) (s2 : BitVec 32) (long2 : BitVec 64) (b : Option Addr) (lb cb : Nat) (m : List (BitVec 8)) (w : World) (hs : Strm_29 w p 4 fs st tl long) (hm : BRow w b lb cb m)
    (hfit : (BitVec.ofNat 64 lb != long2 % 4#64) = false) :
    Calls Try.prog 99 #[.pointer (some ⟨p, 0, none⟩), .int .u32 (W32 (s2)), .int .u64 (W64 long2), .slice b lb cb] w fun e w' => e = .returned (.bool true) ∧ Strm_29 w' p 4 fs s2 m long2 ∧ But p w w' := by
  have hn1 : 1 ≤ 4 := by omega
  have HM := Lib.hid (fun w' hn' => made_29 p 4 fs st tl long w' hn1 (hs.stay (w' := w') hn'))
  obtain ⟨a, cap, hbx, hr⟩ := hs
  have hlt := lt_of_block hbx
  have hal := New.refl w
  have hb2 := (hal.block _ hlt).trans hbx
  have k0 := cell_of_row _ _ 0 _ _ _ hb2
  have HB := Lib.hid hb2
  have HAL := Lib.hid hal
  have HML := Lib.hid hm.len_eq
  obtain ⟨T, hT⟩ : ∃ T, tl.length = T := ⟨_, rfl⟩
  rw [hT] at HB
  have HMR := Lib.hid (hm.stay hal)
  have HPL := Lib.hid (show p < w.heap.size from hlt)
  clear hbx hr hb2 hal hm hlt hT
  go_enter Try.func99, Try.ntmps99
  go_wp2_with fail
  refine (HM.out _ HAL.out).mono ?_
  rintro e w9 ⟨rfl, rfl⟩
  go_wp2_with fail
  refine (clone_b _ _ _ _ _ HMR.out).mono ?_
  rintro e w3 ⟨r3, c3, rfl, hrow, hfr, hn⟩
  have hb3 := (hn.block _ (lt_of_block HB.out)).trans HB.out
  have c0 := cell_of_row _ _ 2 _ _ _ hb3
  have c1 := cell_of_row _ _ 5 _ _ _ hb3
  have c2 := cell_of_row _ _ 4 _ _ _ hb3
  have cf := fun i => frozen_of_row _ _ i _ _ hb3
  have HP := Lib.hid (putz_29 (.int .u32 (W32 (s2))) (.int .u64 (W64 long2)) (.slice r3 (lb : Nat) c3) hb3)
  have HROW := Lib.hid (hrow.but (by simp) (fun y e _ => HP.out.2.1 _ (by have := hfr y e; have := lt_of_block HB.out; omega)))
  have HBUT := Lib.hid (HP.out.2.2 _ (But.of_new hn))
  clear hrow hfr hn hb3
  go_wp2
  go_ret
  refine ⟨rfl, ⟨r3, c3, ?_, ?_⟩, HBUT.out⟩
  · rw [HML.out]; exact HP.out.1
  · rw [HML.out]; exact HROW.out
theorem set_n_29 (s2 : BitVec 32) (l v : Value) (w : World) : Calls Try.prog 99 #[.pointer none, .int .u32 (W32 (s2)), l, v] w fun e w' => e = .returned (.bool false) ∧ New w w' := by
  go_enter Try.func99, Try.ntmps99
  go_wp2_with (refine (made_n_29 _).mono ?_; rintro e w' ⟨rfl, rfl⟩)
  go_ret
  exact ⟨rfl, New.refl _⟩
set_option maxRecDepth 100000 in
set_option maxHeartbeats 4000000 in
theorem fold_29 (st : BitVec 32) (b : Option Addr) (lb cb : Nat) (l : List (BitVec 8)) (w : World) (hm : BRow w b lb cb l) :
    Calls Try.prog 88 #[.int .i64 4, .int .u32 (W32 (st)), (.func (Fn.func 89) #[.agg #[.int .u32 3432918353, .int .u32 461845907, .int .u32 3864292196]] #[]), .slice b lb cb] w fun e w' => ∃ a c, e = .returned (.tuple #[.int .u32 (W32 ((bState 4 stp29 st l))), .slice a (lb % 4 : Nat) c]) ∧ BRow w' a (lb % 4) c (bTail 4 l) ∧ New w w' := by
  have HSZ : Hid (∀ w : World, Calls Try.prog 80 #[.int .i64 4] w fun e w' => e = .returned (.int .i64 4) ∧ w' = w) := Lib.hid fun w => size_of 4 w
  have HMR := Lib.hid hm
  have HPS := Lib.hid (fun (w' : World) r c (hrw : BRow w' r lb c l) => pass_29 st r lb c l w' hrw)
  clear hm
  obtain ⟨nst, h1⟩ : ∃ z, (bState 4 stp29 st l) = z := ⟨_, rfl⟩
  obtain ⟨ntl, h2⟩ : ∃ z, (bTail 4 l) = z := ⟨_, rfl⟩
  rw [h1, h2] at HPS
  rw [h1, h2]
  clear h1 h2
  go_enter Try.func88, Try.ntmps88
  go_wp2_with fail
  refine (HSZ.out _).mono ?_
  rintro e w2 ⟨rfl, rfl⟩
  go_wp2_with fail
  refine (clone_b _ _ _ _ _ HMR.out).mono ?_
  rintro e w9 ⟨a2, c2, rfl, hrow, hfr, hn⟩
  have HN := Lib.hid hn
  have HR := Lib.hid hrow
  clear hrow hfr hn
  go_wp2_with fail
  refine (HPS.out _ _ _ HR.out).mono ?_
  rintro e w9 ⟨a3, c3, rfl, hrow, hfr, hn⟩
  have HN2 := Lib.hid (HN.out.trans hn)
  have HR2 := Lib.hid hrow
  clear hrow hfr hn
  go_wp2
  go_ret2
  exact ⟨a3, c3, rfl, HR2.out, HN2.out⟩
end Go.Proofs.Ytegibnffingciaa
