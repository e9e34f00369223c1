/- Layer 44: how the words of a kind are drawn. -/
import Derived.Test.YtdjlbpgjbgepdaaGreatFamH
namespace Go.Proofs.YtdjlbpgjbgepdaaGreat
open Go.RowKit Go.Bv
set_option linter.unusedVariables false
set_option maxRecDepth 100000
/-- the number below which a kind's words are; how they are drawn -/
def lmW (k : Int) : BitVec 64 := if k = 1 ∨ k = 8 then 2305843009213693951#64 else if k = 2 then 2#64 else 0#64
def wkK (k : Int) : Nat := if k = 1 ∨ k = 8 then 0 else if k = 2 then 1 else 2
def tkV (c p : Nat) : Value := if c = 0 then .func (Fn.func 43) #[] #[] else .func (Fn.func 80) #[] #[.pointer (some ⟨p, 0, none⟩)]
def wdV (c : Nat) : Value := if c = 0 then .func (Fn.func 45) #[] #[] else if c = 1 then .func (Fn.func 49) #[] #[] else .func (Fn.func 51) #[] #[]
def ofV (c : Nat) : Value := if c = 1 then .func (Fn.func 48) #[] #[] else .func (Fn.func 50) #[] #[]
def WayP (n : Nat) (w : World) (c p : Nat) : Prop := c ≠ 0 → n ≤ p ∧ w.heap[p]? = some (.cells #[ofV c] 96 (0, 0))
theorem WayP.stay {n : Nat} {w w' : World} {c p : Nat} (h : WayP n w c p) (hn : New w w') : WayP n w' c p := fun hc => ⟨(h hc).1, (hn.block _ (lt_of_block (h hc).2)).trans (h hc).2⟩
theorem two_blocks44 (w : World) (A B : Obj) : ((w.alloc A).alloc B).heap[w.heap.size]? = some A ∧ ((w.alloc A).alloc B).heap[w.heap.size + 1]? = some B ∧ New w ((w.alloc A).alloc B) := by
  have e1 : (w.alloc A).heap.size = w.heap.size + 1 := by simp
  refine ⟨?_, ?_, ((New.refl w).alloc _).alloc _⟩
  · rw [((New.refl (w.alloc A)).alloc B).block _ (by rw [e1]; omega)]; exact heap_alloc_new _ _
  · rw [← e1]; exact heap_alloc_new _ _
theorem put3_44 {w : World} {q : Nat} {T : TypeId} {u0 u1 u2 : Value} (v0 v1 v2 : Value) (h : w.heap[q]? = some (.cells #[u0, u1, u2] T (0, 0))) :
    (((w.setCell ⟨q, 0, none⟩ v0).setCell ⟨q, 1, none⟩ v1).setCell ⟨q, 2, none⟩ v2).heap[q]? = some (.cells #[v0, v1, v2] T (0, 0)) ∧
    (∀ j, j ≠ q → (((w.setCell ⟨q, 0, none⟩ v0).setCell ⟨q, 1, none⟩ v1).setCell ⟨q, 2, none⟩ v2).heap[j]? = w.heap[j]?) ∧
    (∀ W : World, New W w → W.heap.size ≤ q → New W (((w.setCell ⟨q, 0, none⟩ v0).setCell ⟨q, 1, none⟩ v1).setCell ⟨q, 2, none⟩ v2)) :=
  ⟨heap_setCell_same _ _ 2 _ _ _ (heap_setCell_same _ _ 1 _ _ _ (heap_setCell_same _ _ 0 _ _ _ h)),
   fun j hj => by rw [heap_setCell_other _ _ _ _ hj, heap_setCell_other _ _ _ _ hj, heap_setCell_other _ _ _ _ hj],
   fun W hn hq => ((hn.setCell (by exact hq) _).setCell (by exact hq) _).setCell (by exact hq) _⟩
theorem below_44 (w : World) : Calls Tryz.prog 35 #[] w fun e w' => e = .returned (.agg #[.int .u64 2305843009213693951, .func (Fn.func 43) #[] #[], .func (Fn.func 45) #[] #[]]) ∧ New w w' := by
  go_enter Tryz.func35, Tryz.ntmps35
  go_wp2
  go_returns
  exact ⟨rfl, (New.refl w).alloc _⟩
theorem next_44 (v : Value) (hv : v.oneCell' = true) (w : World) : Calls Tryz.prog 47 #[v] w fun e w' => e = .returned (.func (Fn.func 80) #[] #[.pointer (some ⟨w.heap.size, 0, none⟩)]) ∧ w' = w.alloc (.cells #[v] 96) := by
  go_enter Tryz.func47, Tryz.ntmps47
  go_wp2_with fail
  go_ret
  trivial
theorem odd_44 (w : World) : Calls Tryz.prog 36 #[] w fun e w' => (∃ p, e = .returned (.agg #[.int .u64 2, .func (Fn.func 80) #[] #[.pointer (some ⟨p, 0, none⟩)], .func (Fn.func 49) #[] #[]]) ∧ w.heap.size ≤ p ∧ w'.heap[p]? = some (.cells #[.func (Fn.func 48) #[] #[]] 96 (0, 0))) ∧ New w w' := by
  have HN := Lib.hid (fun w => next_44 (.func (Fn.func 48) #[] #[]) rfl w)
  go_enter Tryz.func36, Tryz.ntmps36
  go_wp2_with fail
  refine (HN.out _).mono ?_
  rintro e w1 ⟨rfl, rfl⟩
  obtain ⟨h1, h2, h3⟩ := two_blocks44 w (.cells #[.int .u64 0, .nilFunc, .nilFunc] 57) (.cells #[.func (Fn.func 48) #[] #[]] 96)
  have hsz : (w.alloc (.cells #[.int .u64 0, .nilFunc, .nilFunc] 57)).heap.size = w.heap.size + 1 := by simp
  rw [hsz]
  generalize (w.alloc (.cells #[.int .u64 0, .nilFunc, .nilFunc] 57)).alloc (.cells #[.func (Fn.func 48) #[] #[]] 96) = w1 at *
  have k0 := cell_of_row _ _ 0 _ _ _ h1
  have k1 := cell_of_row _ _ 1 _ _ _ h1
  have k2 := cell_of_row _ _ 2 _ _ _ h1
  have kf := fun i => frozen_of_row _ _ i _ _ h1
  have H2 := Lib.hid h2
  have HP := Lib.hid (put3_44 (.int .u64 2) (.func (Fn.func 80) #[] #[.pointer (some ⟨w.heap.size + 1, 0, none⟩)]) (.func (Fn.func 49) #[] #[]) h1)
  have H3 := Lib.hid h3
  clear h1 h2 h3 hsz
  go_wp2_with fail
  refine bodyPost_ret (by simp [results, Tryz.results36, go_sem, k0, k1, k2]; try rfl) rfl ?_
  exact ⟨⟨_, rfl, Nat.le_succ _, (HP.out.2.1 _ (by omega)).trans H2.out⟩, HP.out.2.2 _ H3.out (Nat.le_refl _)⟩
theorem any_44 (w : World) : Calls Tryz.prog 37 #[] w fun e w' => (∃ p, e = .returned (.agg #[.int .u64 0, .func (Fn.func 80) #[] #[.pointer (some ⟨p, 0, none⟩)], .func (Fn.func 51) #[] #[]]) ∧ w.heap.size ≤ p ∧ w'.heap[p]? = some (.cells #[.func (Fn.func 50) #[] #[]] 96 (0, 0))) ∧ New w w' := by
  have HN := Lib.hid (fun w => next_44 (.func (Fn.func 50) #[] #[]) rfl w)
  go_enter Tryz.func37, Tryz.ntmps37
  go_wp2_with fail
  refine (HN.out _).mono ?_
  rintro e w1 ⟨rfl, rfl⟩
  obtain ⟨h1, h2, h3⟩ := two_blocks44 w (.cells #[.int .u64 0, .nilFunc, .nilFunc] 57) (.cells #[.func (Fn.func 50) #[] #[]] 96)
  have hsz : (w.alloc (.cells #[.int .u64 0, .nilFunc, .nilFunc] 57)).heap.size = w.heap.size + 1 := by simp
  rw [hsz]
  generalize (w.alloc (.cells #[.int .u64 0, .nilFunc, .nilFunc] 57)).alloc (.cells #[.func (Fn.func 50) #[] #[]] 96) = w1 at *
  have k0 := cell_of_row _ _ 0 _ _ _ h1
  have k1 := cell_of_row _ _ 1 _ _ _ h1
  have k2 := cell_of_row _ _ 2 _ _ _ h1
  have kf := fun i => frozen_of_row _ _ i _ _ h1
  have H2 := Lib.hid h2
  have HP := Lib.hid (put3_44 (.int .u64 0) (.func (Fn.func 80) #[] #[.pointer (some ⟨w.heap.size + 1, 0, none⟩)]) (.func (Fn.func 51) #[] #[]) h1)
  have H3 := Lib.hid h3
  clear h1 h2 h3 hsz
  go_wp2_with fail
  refine bodyPost_ret (by simp [results, Tryz.results37, go_sem, k0, k1, k2]; try rfl) rfl ?_
  exact ⟨⟨_, rfl, Nat.le_succ _, (HP.out.2.1 _ (by omega)).trans H2.out⟩, HP.out.2.2 _ H3.out (Nat.le_refl _)⟩
set_option maxHeartbeats 1600000 in
theorem way_1 (w : World) : Calls Tryz.prog 23 #[.int .i64 1] w fun e w' => (∃ p, e = .returned (.tuple #[.agg #[.int .u64 (W64 (lmW 1)), tkV (wkK 1) p, wdV (wkK 1)], .bool true]) ∧ WayP w.heap.size w' (wkK 1) p) ∧ New w w' := by
  rw [show W64 (lmW 1) = 2305843009213693951 by decide, show wkK 1 = 0 from rfl]
  go_enter Tryz.func23, Tryz.ntmps23
  go_wp2_with fail
  refine (below_44 _).mono ?_
  rintro e w' ⟨rfl, hn⟩
  have hb := (hn.block _ (lt_of_block (heap_alloc_new w _))).trans (heap_alloc_new w _)
  have k0 := cell_of_row _ _ 0 _ _ _ hb
  have k1 := cell_of_row _ _ 1 _ _ _ hb
  have k2 := cell_of_row _ _ 2 _ _ _ hb
  have kf := fun i => frozen_of_row _ _ i _ _ hb
  have HP := Lib.hid (put3_44 (.int .u64 2305843009213693951) (.func (Fn.func 43) #[] #[]) (.func (Fn.func 45) #[] #[]) hb)
  have HN := Lib.hid (((New.refl w).alloc _).trans hn)
  clear hb hn
  go_wp2_with fail
  refine bodyPost_ret (by simp [results, Tryz.results23, go_sem, k0, k1, k2]; try rfl) rfl ?_
  exact ⟨⟨0, rfl, fun e => absurd rfl e⟩, HP.out.2.2 _ HN.out (Nat.le_refl _)⟩
set_option maxHeartbeats 1600000 in
theorem way_2 (w : World) : Calls Tryz.prog 23 #[.int .i64 2] w fun e w' => (∃ p, e = .returned (.tuple #[.agg #[.int .u64 (W64 (lmW 2)), tkV (wkK 2) p, wdV (wkK 2)], .bool true]) ∧ WayP w.heap.size w' (wkK 2) p) ∧ New w w' := by
  rw [show W64 (lmW 2) = 2 by decide, show wkK 2 = 1 from rfl]
  go_enter Tryz.func23, Tryz.ntmps23
  go_wp2_with fail
  refine (odd_44 _).mono ?_
  rintro e w' ⟨⟨p, rfl, hp, hpb⟩, hn⟩
  have hb := (hn.block _ (lt_of_block (heap_alloc_new w _))).trans (heap_alloc_new w _)
  have HPB := Lib.hid hpb
  have hsz : (w.alloc (.cells #[.int .u64 0, .nilFunc, .nilFunc] 57)).heap.size = w.heap.size + 1 := by simp
  rw [hsz] at hp
  clear hpb
  have k0 := cell_of_row _ _ 0 _ _ _ hb
  have k1 := cell_of_row _ _ 1 _ _ _ hb
  have k2 := cell_of_row _ _ 2 _ _ _ hb
  have kf := fun i => frozen_of_row _ _ i _ _ hb
  have HP := Lib.hid (put3_44 (.int .u64 2) (.func (Fn.func 80) #[] #[.pointer (some ⟨p, 0, none⟩)]) (.func (Fn.func 49) #[] #[]) hb)
  have HN := Lib.hid (((New.refl w).alloc _).trans hn)
  clear hb hn
  go_wp2_with fail
  refine bodyPost_ret (by simp [results, Tryz.results23, go_sem, k0, k1, k2]; try rfl) rfl ?_
  exact ⟨⟨p, rfl, fun _ => ⟨by omega, (HP.out.2.1 _ (by omega)).trans HPB.out⟩⟩, HP.out.2.2 _ HN.out (Nat.le_refl _)⟩
set_option maxHeartbeats 1600000 in
theorem way_3 (w : World) : Calls Tryz.prog 23 #[.int .i64 3] w fun e w' => (∃ p, e = .returned (.tuple #[.agg #[.int .u64 (W64 (lmW 3)), tkV (wkK 3) p, wdV (wkK 3)], .bool true]) ∧ WayP w.heap.size w' (wkK 3) p) ∧ New w w' := by
  rw [show W64 (lmW 3) = 0 by decide, show wkK 3 = 2 from rfl]
  go_enter Tryz.func23, Tryz.ntmps23
  go_wp2_with fail
  refine (any_44 _).mono ?_
  rintro e w' ⟨⟨p, rfl, hp, hpb⟩, hn⟩
  have hb := (hn.block _ (lt_of_block (heap_alloc_new w _))).trans (heap_alloc_new w _)
  have HPB := Lib.hid hpb
  have hsz : (w.alloc (.cells #[.int .u64 0, .nilFunc, .nilFunc] 57)).heap.size = w.heap.size + 1 := by simp
  rw [hsz] at hp
  clear hpb
  have k0 := cell_of_row _ _ 0 _ _ _ hb
  have k1 := cell_of_row _ _ 1 _ _ _ hb
  have k2 := cell_of_row _ _ 2 _ _ _ hb
  have kf := fun i => frozen_of_row _ _ i _ _ hb
  have HP := Lib.hid (put3_44 (.int .u64 0) (.func (Fn.func 80) #[] #[.pointer (some ⟨p, 0, none⟩)]) (.func (Fn.func 51) #[] #[]) hb)
  have HN := Lib.hid (((New.refl w).alloc _).trans hn)
  clear hb hn
  go_wp2_with fail
  refine bodyPost_ret (by simp [results, Tryz.results23, go_sem, k0, k1, k2]; try rfl) rfl ?_
  exact ⟨⟨p, rfl, fun _ => ⟨by omega, (HP.out.2.1 _ (by omega)).trans HPB.out⟩⟩, HP.out.2.2 _ HN.out (Nat.le_refl _)⟩
set_option maxHeartbeats 1600000 in
theorem way_4 (w : World) : Calls Tryz.prog 23 #[.int .i64 4] w fun e w' => (∃ p, e = .returned (.tuple #[.agg #[.int .u64 (W64 (lmW 4)), tkV (wkK 4) p, wdV (wkK 4)], .bool true]) ∧ WayP w.heap.size w' (wkK 4) p) ∧ New w w' := by
  rw [show W64 (lmW 4) = 0 by decide, show wkK 4 = 2 from rfl]
  go_enter Tryz.func23, Tryz.ntmps23
  go_wp2_with fail
  refine (any_44 _).mono ?_
  rintro e w' ⟨⟨p, rfl, hp, hpb⟩, hn⟩
  have hb := (hn.block _ (lt_of_block (heap_alloc_new w _))).trans (heap_alloc_new w _)
  have HPB := Lib.hid hpb
  have hsz : (w.alloc (.cells #[.int .u64 0, .nilFunc, .nilFunc] 57)).heap.size = w.heap.size + 1 := by simp
  rw [hsz] at hp
  clear hpb
  have k0 := cell_of_row _ _ 0 _ _ _ hb
  have k1 := cell_of_row _ _ 1 _ _ _ hb
  have k2 := cell_of_row _ _ 2 _ _ _ hb
  have kf := fun i => frozen_of_row _ _ i _ _ hb
  have HP := Lib.hid (put3_44 (.int .u64 0) (.func (Fn.func 80) #[] #[.pointer (some ⟨p, 0, none⟩)]) (.func (Fn.func 51) #[] #[]) hb)
  have HN := Lib.hid (((New.refl w).alloc _).trans hn)
  clear hb hn
  go_wp2_with fail
  refine bodyPost_ret (by simp [results, Tryz.results23, go_sem, k0, k1, k2]; try rfl) rfl ?_
  exact ⟨⟨p, rfl, fun _ => ⟨by omega, (HP.out.2.1 _ (by omega)).trans HPB.out⟩⟩, HP.out.2.2 _ HN.out (Nat.le_refl _)⟩
set_option maxHeartbeats 1600000 in
theorem way_5 (w : World) : Calls Tryz.prog 23 #[.int .i64 5] w fun e w' => (∃ p, e = .returned (.tuple #[.agg #[.int .u64 (W64 (lmW 5)), tkV (wkK 5) p, wdV (wkK 5)], .bool true]) ∧ WayP w.heap.size w' (wkK 5) p) ∧ New w w' := by
  rw [show W64 (lmW 5) = 0 by decide, show wkK 5 = 2 from rfl]
  go_enter Tryz.func23, Tryz.ntmps23
  go_wp2_with fail
  refine (any_44 _).mono ?_
  rintro e w' ⟨⟨p, rfl, hp, hpb⟩, hn⟩
  have hb := (hn.block _ (lt_of_block (heap_alloc_new w _))).trans (heap_alloc_new w _)
  have HPB := Lib.hid hpb
  have hsz : (w.alloc (.cells #[.int .u64 0, .nilFunc, .nilFunc] 57)).heap.size = w.heap.size + 1 := by simp
  rw [hsz] at hp
  clear hpb
  have k0 := cell_of_row _ _ 0 _ _ _ hb
  have k1 := cell_of_row _ _ 1 _ _ _ hb
  have k2 := cell_of_row _ _ 2 _ _ _ hb
  have kf := fun i => frozen_of_row _ _ i _ _ hb
  have HP := Lib.hid (put3_44 (.int .u64 0) (.func (Fn.func 80) #[] #[.pointer (some ⟨p, 0, none⟩)]) (.func (Fn.func 51) #[] #[]) hb)
  have HN := Lib.hid (((New.refl w).alloc _).trans hn)
  clear hb hn
  go_wp2_with fail
  refine bodyPost_ret (by simp [results, Tryz.results23, go_sem, k0, k1, k2]; try rfl) rfl ?_
  exact ⟨⟨p, rfl, fun _ => ⟨by omega, (HP.out.2.1 _ (by omega)).trans HPB.out⟩⟩, HP.out.2.2 _ HN.out (Nat.le_refl _)⟩
set_option maxHeartbeats 1600000 in
theorem way_6 (w : World) : Calls Tryz.prog 23 #[.int .i64 6] w fun e w' => (∃ p, e = .returned (.tuple #[.agg #[.int .u64 (W64 (lmW 6)), tkV (wkK 6) p, wdV (wkK 6)], .bool true]) ∧ WayP w.heap.size w' (wkK 6) p) ∧ New w w' := by
  rw [show W64 (lmW 6) = 0 by decide, show wkK 6 = 2 from rfl]
  go_enter Tryz.func23, Tryz.ntmps23
  go_wp2_with fail
  refine (any_44 _).mono ?_
  rintro e w' ⟨⟨p, rfl, hp, hpb⟩, hn⟩
  have hb := (hn.block _ (lt_of_block (heap_alloc_new w _))).trans (heap_alloc_new w _)
  have HPB := Lib.hid hpb
  have hsz : (w.alloc (.cells #[.int .u64 0, .nilFunc, .nilFunc] 57)).heap.size = w.heap.size + 1 := by simp
  rw [hsz] at hp
  clear hpb
  have k0 := cell_of_row _ _ 0 _ _ _ hb
  have k1 := cell_of_row _ _ 1 _ _ _ hb
  have k2 := cell_of_row _ _ 2 _ _ _ hb
  have kf := fun i => frozen_of_row _ _ i _ _ hb
  have HP := Lib.hid (put3_44 (.int .u64 0) (.func (Fn.func 80) #[] #[.pointer (some ⟨p, 0, none⟩)]) (.func (Fn.func 51) #[] #[]) hb)
  have HN := Lib.hid (((New.refl w).alloc _).trans hn)
  clear hb hn
  go_wp2_with fail
  refine bodyPost_ret (by simp [results, Tryz.results23, go_sem, k0, k1, k2]; try rfl) rfl ?_
  exact ⟨⟨p, rfl, fun _ => ⟨by omega, (HP.out.2.1 _ (by omega)).trans HPB.out⟩⟩, HP.out.2.2 _ HN.out (Nat.le_refl _)⟩
set_option maxHeartbeats 1600000 in
theorem way_7 (w : World) : Calls Tryz.prog 23 #[.int .i64 7] w fun e w' => (∃ p, e = .returned (.tuple #[.agg #[.int .u64 (W64 (lmW 7)), tkV (wkK 7) p, wdV (wkK 7)], .bool true]) ∧ WayP w.heap.size w' (wkK 7) p) ∧ New w w' := by
  rw [show W64 (lmW 7) = 0 by decide, show wkK 7 = 2 from rfl]
  go_enter Tryz.func23, Tryz.ntmps23
  go_wp2_with fail
  refine (any_44 _).mono ?_
  rintro e w' ⟨⟨p, rfl, hp, hpb⟩, hn⟩
  have hb := (hn.block _ (lt_of_block (heap_alloc_new w _))).trans (heap_alloc_new w _)
  have HPB := Lib.hid hpb
  have hsz : (w.alloc (.cells #[.int .u64 0, .nilFunc, .nilFunc] 57)).heap.size = w.heap.size + 1 := by simp
  rw [hsz] at hp
  clear hpb
  have k0 := cell_of_row _ _ 0 _ _ _ hb
  have k1 := cell_of_row _ _ 1 _ _ _ hb
  have k2 := cell_of_row _ _ 2 _ _ _ hb
  have kf := fun i => frozen_of_row _ _ i _ _ hb
  have HP := Lib.hid (put3_44 (.int .u64 0) (.func (Fn.func 80) #[] #[.pointer (some ⟨p, 0, none⟩)]) (.func (Fn.func 51) #[] #[]) hb)
  have HN := Lib.hid (((New.refl w).alloc _).trans hn)
  clear hb hn
  go_wp2_with fail
  refine bodyPost_ret (by simp [results, Tryz.results23, go_sem, k0, k1, k2]; try rfl) rfl ?_
  exact ⟨⟨p, rfl, fun _ => ⟨by omega, (HP.out.2.1 _ (by omega)).trans HPB.out⟩⟩, HP.out.2.2 _ HN.out (Nat.le_refl _)⟩
set_option maxHeartbeats 1600000 in
theorem way_8 (w : World) : Calls Tryz.prog 23 #[.int .i64 8] w fun e w' => (∃ p, e = .returned (.tuple #[.agg #[.int .u64 (W64 (lmW 8)), tkV (wkK 8) p, wdV (wkK 8)], .bool true]) ∧ WayP w.heap.size w' (wkK 8) p) ∧ New w w' := by
  rw [show W64 (lmW 8) = 2305843009213693951 by decide, show wkK 8 = 0 from rfl]
  go_enter Tryz.func23, Tryz.ntmps23
  go_wp2_with fail
  refine (below_44 _).mono ?_
  rintro e w' ⟨rfl, hn⟩
  have hb := (hn.block _ (lt_of_block (heap_alloc_new w _))).trans (heap_alloc_new w _)
  have k0 := cell_of_row _ _ 0 _ _ _ hb
  have k1 := cell_of_row _ _ 1 _ _ _ hb
  have k2 := cell_of_row _ _ 2 _ _ _ hb
  have kf := fun i => frozen_of_row _ _ i _ _ hb
  have HP := Lib.hid (put3_44 (.int .u64 2305843009213693951) (.func (Fn.func 43) #[] #[]) (.func (Fn.func 45) #[] #[]) hb)
  have HN := Lib.hid (((New.refl w).alloc _).trans hn)
  clear hb hn
  go_wp2_with fail
  refine bodyPost_ret (by simp [results, Tryz.results23, go_sem, k0, k1, k2]; try rfl) rfl ?_
  exact ⟨⟨0, rfl, fun e => absurd rfl e⟩, HP.out.2.2 _ HN.out (Nat.le_refl _)⟩
set_option maxHeartbeats 1600000 in
theorem way_0 (k : Int) (h : okF k = false) (w : World) : Calls Tryz.prog 23 #[.int .i64 k] w fun e w' => e = .returned (.tuple #[.agg #[.int .u64 0, .nilFunc, .nilFunc], .bool false]) ∧ New w w' := by
  have hk : k < 1 ∨ 8 < k := by unfold okF at h; simp at h; omega
  have h1 : ¬ k = 1 := by omega
  have h2 : ¬ k = 2 := by omega
  have h3 : ¬ k = 3 := by omega
  have h4 : ¬ k = 4 := by omega
  have h5 : ¬ k = 5 := by omega
  have h6 : ¬ k = 6 := by omega
  have h7 : ¬ k = 7 := by omega
  have h8 : ¬ k = 8 := by omega
  go_enter Tryz.func23, Tryz.ntmps23
  go_wp2_with fail
  go_returns
  exact ⟨rfl, (New.refl w).alloc _⟩
theorem way_44 (k : Int) (h : okF k = true) (w : World) : Calls Tryz.prog 23 #[.int .i64 k] w fun e w' => (∃ p, e = .returned (.tuple #[.agg #[.int .u64 (W64 (lmW k)), tkV (wkK k) p, wdV (wkK k)], .bool true]) ∧ WayP w.heap.size w' (wkK k) p) ∧ New w w' := by
  rcases okF_k h with rfl | rfl | rfl | rfl | rfl | rfl | rfl | rfl
  · exact way_1 w
  · exact way_2 w
  · exact way_3 w
  · exact way_4 w
  · exact way_5 w
  · exact way_6 w
  · exact way_7 w
  · exact way_8 w
theorem tk_form (c p : Nat) : ∃ f a, tkV c p = .func (Fn.func f) #[] a := by
  unfold tkV
  split
  · exact ⟨_, _, rfl⟩
  · exact ⟨_, _, rfl⟩
theorem wd_form (c : Nat) : ∃ f a, wdV c = .func (Fn.func f) #[] a := by
  unfold wdV
  split
  · exact ⟨_, _, rfl⟩
  · split
    · exact ⟨_, _, rfl⟩
    · exact ⟨_, _, rfl⟩
theorem limit_no (k : Int) (h : okF k = false) (w : World) : Calls Tryz.prog 7 #[.int .i64 k] w fun e w' => e = .returned (.tuple #[.int .u64 0, .int .i64 6]) ∧ New w w' := by
  have HW := Lib.hid (fun w => way_0 k h w)
  clear h
  go_enter Tryz.func7, Tryz.ntmps7
  go_wp2_with fail
  refine (HW.out _).mono ?_
  rintro e w1 ⟨rfl, hn⟩
  go_wp2
  go_ret2
  exact ⟨rfl, hn.alloc _⟩
theorem limit_44 (k : Int) (h : okF k = true) (w : World) : Calls Tryz.prog 7 #[.int .i64 k] w fun e w' => e = .returned (.tuple #[.int .u64 (W64 (lmW k)), .int .i64 0]) ∧ New w w' := by
  have HW := Lib.hid (fun w => way_44 k h w)
  generalize lmW k = lm at *
  clear h
  go_enter Tryz.func7, Tryz.ntmps7
  go_wp2_with fail
  refine (HW.out _).mono ?_
  rintro e w1 ⟨⟨p, rfl, hp⟩, hn⟩
  obtain ⟨f1, a1, e1⟩ := tk_form (wkK k) p
  obtain ⟨f2, a2, e2⟩ := wd_form (wkK k)
  rw [e1, e2]
  clear hp e1 e2
  go_wp2
  go_ret2
  exact ⟨rfl, hn.alloc _⟩
theorem rlimit_44 (k : Int) (w : World) : Calls Tryz.prog 12 #[.int .i64 k] w fun e w' => e = .returned (.int .u64 (W64 (lmW k))) ∧ w' = w := by
  by_cases h1 : k = 1
  · subst h1
    rw [show W64 (lmW 1) = 2305843009213693951 by decide]
    go_enter Tryz.func12, Tryz.ntmps12
    go_wp2
    go_ret
    trivial
  by_cases h8 : k = 8
  · subst h8
    rw [show W64 (lmW 8) = 2305843009213693951 by decide]
    go_enter Tryz.func12, Tryz.ntmps12
    go_wp2
    go_ret
    trivial
  by_cases h2 : k = 2
  · subst h2
    rw [show W64 (lmW 2) = 2 by decide]
    go_enter Tryz.func12, Tryz.ntmps12
    go_wp2
    go_ret
    trivial
  have e : W64 (lmW k) = 0 := by unfold lmW; rw [if_neg (by omega), if_neg h2]; rfl
  rw [e]
  have b1 : (k == 1) = false := beq_eq_false_iff_ne.2 h1
  have b8 : (k == 8) = false := beq_eq_false_iff_ne.2 h8
  have b2 : (k == 2) = false := beq_eq_false_iff_ne.2 h2
  clear h1 h8 h2
  go_enter Tryz.func12, Tryz.ntmps12
  go_wp2
  go_ret
  trivial
end Go.Proofs.YtdjlbpgjbgepdaaGreat
