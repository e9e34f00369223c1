import Derived.Test.YtebcfbcfipmahaaGreatZ3FamG
import Derived.Test.YtebcfbcfipmahaaGreatZ3FamH
import Derived.Test.YtebcfbcfipmahaaGreatZ3FamF
import Derived.Test.YtebcfbcfipmahaaGreatZ3Grow
import Derived.BigRegion
/- Layer 27: the two numbers of a seed; values by the families of one word. -/
namespace Go.Proofs.YtebcfbcfipmahaaGreat
open Go.RowKit Go.Bv
set_option linter.unusedVariables false
/-- the two numbers of a seed -/
def numA (k : Int) (l : List (BitVec 64)) : Nat := if k = 3 then (l.getD 0 0#64).toNat else (l.getD 1 0#64).toNat * 18446744073709551616 + (l.getD 0 0#64).toNat
def numB (k : Int) (l : List (BitVec 64)) : Nat := if k = 3 then (l.getD 1 0#64).toNat else (l.getD 3 0#64).toNat * 18446744073709551616 + (l.getD 2 0#64).toNat
theorem lo_word (x : BitVec 64) : loN x.toNat = x ∧ hiN x.toNat = 0#64 := by
  have := x.isLt
  unfold loN hiN
  exact ⟨by rw [BitVec.ofNat_toNat, BitVec.setWidth_eq], by rw [Nat.div_eq_of_lt this]⟩
theorem two_words (h x : BitVec 64) : loN (h.toNat * 18446744073709551616 + x.toNat) = x ∧ hiN (h.toNat * 18446744073709551616 + x.toNat) = h := by
  have hx := x.isLt
  unfold loN hiN
  refine ⟨?_, ?_⟩
  · apply BitVec.eq_of_toNat_eq
    rw [BitVec.toNat_ofNat]
    omega
  · rw [show (h.toNat * 18446744073709551616 + x.toNat) / 18446744073709551616 = h.toNat by omega, BitVec.ofNat_toNat, BitVec.setWidth_eq]
theorem put22 {w : World} {p q : Nat} {u0 u1 v0 v1 : Value} {T : TypeId} (a0 a1 b0 b1 : Value) (hp : w.heap[p]? = some (.cells #[u0, u1] T (0, 0))) (hq : w.heap[q]? = some (.cells #[v0, v1] T (0, 0))) (hne : q ≠ p) :
    ((((w.setCell ⟨p, 0, none⟩ a0).setCell ⟨p, 1, none⟩ a1).setCell ⟨q, 0, none⟩ b0).setCell ⟨q, 1, none⟩ b1).drew.heap[p]? = some (.cells #[a0, a1] T (0, 0)) ∧ ((((w.setCell ⟨p, 0, none⟩ a0).setCell ⟨p, 1, none⟩ a1).setCell ⟨q, 0, none⟩ b0).setCell ⟨q, 1, none⟩ b1).drew.heap[q]? = some (.cells #[b0, b1] T (0, 0)) := by
  have h1 : ((w.setCell ⟨p, 0, none⟩ a0).setCell ⟨p, 1, none⟩ a1).heap[p]? = some (.cells #[a0, a1] T (0, 0)) := heap_setCell_same _ p 1 _ _ a1 (heap_setCell_same _ p 0 _ _ a0 hp)
  have h2 : ((w.setCell ⟨p, 0, none⟩ a0).setCell ⟨p, 1, none⟩ a1).heap[q]? = some (.cells #[v0, v1] T (0, 0)) := by rw [heap_setCell_other _ _ _ _ hne, heap_setCell_other _ _ _ _ hne]; exact hq
  refine ⟨?_, ?_⟩
  · show ((((w.setCell ⟨p, 0, none⟩ a0).setCell ⟨p, 1, none⟩ a1).setCell ⟨q, 0, none⟩ b0).setCell ⟨q, 1, none⟩ b1).heap[p]? = _
    rw [heap_setCell_other _ _ _ _ (Ne.symm hne), heap_setCell_other _ _ _ _ (Ne.symm hne)]; exact h1
  · exact heap_setCell_same _ q 1 _ _ b1 (heap_setCell_same _ q 0 _ _ b0 h2)
set_option maxHeartbeats 4000000 in
theorem numbers_3 (b : Int) (g off n c : Nat) (l : List (BitVec 64)) (w : World) (h : QRow w (some ⟨g, off, none⟩) n c l) (hn : n = 2) : Calls Tryz.prog 84 #[.agg (sdc 3 b (some ⟨g, off, none⟩) n c)] w fun e w' => e = .returned (.tuple #[.agg #[.int .u64 (W64 (hiN (numA 3 l))), .int .u64 (W64 (loN (numA 3 l)))], .agg #[.int .u64 (W64 (hiN (numB 3 l))), .int .u64 (W64 (loN (numB 3 l)))]]) ∧ New w w' := by
  subst hn
  generalize hW : ((w.alloc (.cells (sdc 3 b (some ⟨g, off, none⟩) 2 c) 30)).alloc (.cells #[.int .u64 0, .int .u64 0] 63)).alloc (.cells #[.int .u64 0, .int .u64 0] 63) = w0
  have HB : Hid (w0.heap[w.heap.size]? = some (.cells (sdc 3 b (some ⟨g, off, none⟩) 2 c) 30 (0, 0))) := Lib.hid (by rw [← hW]; exact (((New.refl _).alloc _).alloc _).block _ (lt_of_block (heap_alloc_new w _)) |>.trans (heap_alloc_new w _))
  have HP := Lib.hid (three_blocksF w (.cells (sdc 3 b (some ⟨g, off, none⟩) 2 c) 30) (.cells #[.int .u64 0, .int .u64 0] 63) (.cells #[.int .u64 0, .int .u64 0] 63))
  rw [hW] at HP
  have HN : Hid (New w w0) := Lib.hid (by rw [← hW]; exact (((New.refl w).alloc _).alloc _).alloc _)
  have HSZ : Hid (w0.heap.size = w.heap.size + 3) := Lib.hid (by rw [← hW]; simp)
  have HROW := Lib.hid (h.stay HN.out)
  have le := h.le
  have hold := h.old _ rfl (by omega)
  have ne1 : ¬ g = w.heap.size + 1 := by simp at hold; omega
  have ne2 : ¬ g = w.heap.size + 1 + 1 := by simp at hold; omega
  clear hold
  have q0 : Hid (∀ w' : World, New w0 w' → w'.cell? ⟨g, off, none⟩ = some (.int .u64 (W64 (l.getD 0 0#64)))) := Lib.hid (fun w' hn => (HROW.out.stay hn).cell g off rfl 0 (by omega))
  have q1 : Hid (∀ w' : World, New w0 w' → w'.cell? ⟨g, off + 1, none⟩ = some (.int .u64 (W64 (l.getD 1 0#64)))) := Lib.hid (fun w' hn => (HROW.out.stay hn).cell g off rfl 1 (by omega))
  have HV : Hid ((W64 (hiN (numA 3 l)) = 0 ∧ W64 (loN (numA 3 l)) = W64 (l.getD 0 0#64)) ∧ (W64 (hiN (numB 3 l)) = 0 ∧ W64 (loN (numB 3 l)) = W64 (l.getD 1 0#64))) := Lib.hid (by
    unfold numA numB
    rw [if_pos rfl, if_pos rfl, (lo_word _).1, (lo_word _).2, (lo_word _).1, (lo_word _).2]
    exact ⟨⟨rfl, rfl⟩, rfl, rfl⟩)
  obtain ⟨x0, hx0⟩ : ∃ z, l.getD 0 0#64 = z := ⟨_, rfl⟩
  obtain ⟨x1, hx1⟩ : ∃ z, l.getD 1 0#64 = z := ⟨_, rfl⟩
  rw [hx0, hx1] at HV
  rw [hx0] at q0
  rw [hx1] at q1
  clear h HROW hx0 hx1
  have c0 := cell_of_row _ _ 0 _ _ _ HB.out
  have c1 := cell_of_row _ _ 1 _ _ _ HB.out
  have c2 := cell_of_row _ _ 2 _ _ _ HB.out
  go_enter Tryz.func84, Tryz.ntmps84
  go_wp2_with fail
  clear c0 c1 c2
  have hd := New.refl w0
  have z0 := q0.out _ hd
  have z1 := q1.out _ hd
  have a0 : w0.cell? ⟨w.heap.size + 1, 0, none⟩ = some (.int .u64 0) := cell_of_row _ _ 0 _ _ _ HP.out.1
  have a1 : w0.cell? ⟨w.heap.size + 1, 1, none⟩ = some (.int .u64 0) := cell_of_row _ _ 1 _ _ _ HP.out.1
  have d0 : w0.cell? ⟨w.heap.size + 1 + 1, 0, none⟩ = some (.int .u64 0) := cell_of_row _ _ 0 _ _ _ HP.out.2
  have d1 : w0.cell? ⟨w.heap.size + 1 + 1, 1, none⟩ = some (.int .u64 0) := cell_of_row _ _ 1 _ _ _ HP.out.2
  have af := fun i => frozen_of_row _ _ i _ _ HP.out.1
  have df := fun i => frozen_of_row _ _ i _ _ HP.out.2
  have c0 := cell_of_row _ _ 0 _ _ _ HB.out
  have c1 := cell_of_row _ _ 1 _ _ _ HB.out
  have c2 := cell_of_row _ _ 2 _ _ _ HB.out
  clear hd
  have hf := put22 (.int .u64 0) (.int .u64 (W64 x0)) (.int .u64 0) (.int .u64 (W64 x1)) HP.out.1 HP.out.2 (by omega)
  have hnf : New w ((((w0.setCell ⟨w.heap.size + 1, 0, none⟩ (.int .u64 0)).setCell ⟨w.heap.size + 1, 1, none⟩ (.int .u64 (W64 x0))).setCell ⟨w.heap.size + 1 + 1, 0, none⟩ (.int .u64 0)).setCell ⟨w.heap.size + 1 + 1, 1, none⟩ (.int .u64 (W64 x1))).drew := ((((HN.out.setCell (p := ⟨w.heap.size + 1, 0, none⟩) (Nat.le_succ _) _).setCell (p := ⟨w.heap.size + 1, 1, none⟩) (Nat.le_succ _) _).setCell (p := ⟨w.heap.size + 1 + 1, 0, none⟩) (Nat.le_add_right _ 2) _).setCell (p := ⟨w.heap.size + 1 + 1, 1, none⟩) (Nat.le_add_right _ 2) _).drew
  have HFF := Lib.hid hf
  have HNF := Lib.hid hnf
  clear hf hnf
  go_region
  generalize ((((w0.setCell ⟨w.heap.size + 1, 0, none⟩ (.int .u64 0)).setCell ⟨w.heap.size + 1, 1, none⟩ (.int .u64 (W64 x0))).setCell ⟨w.heap.size + 1 + 1, 0, none⟩ (.int .u64 0)).setCell ⟨w.heap.size + 1 + 1, 1, none⟩ (.int .u64 (W64 x1))).drew = w4 at *
  have k0 := cell_of_row _ _ 0 _ _ _ HFF.out.1
  have k1 := cell_of_row _ _ 1 _ _ _ HFF.out.1
  have k2 := cell_of_row _ _ 0 _ _ _ HFF.out.2
  have k3 := cell_of_row _ _ 1 _ _ _ HFF.out.2
  clear a0 a1 d0 d1 af df c0 c1 c2
  go_wp2_with fail
  refine bodyPost_ret (by simp [results, Tryz.results84, go_sem, k0, k1, k2, k3]; try rfl) rfl ?_
  rw [HV.out.1.1, HV.out.1.2, HV.out.2.1, HV.out.2.2]
  exact ⟨rfl, HNF.out⟩
set_option maxHeartbeats 4000000 in
theorem numbers_4 (b : Int) (g off n c : Nat) (l : List (BitVec 64)) (w : World) (h : QRow w (some ⟨g, off, none⟩) n c l) (hn : n = 4) : Calls Tryz.prog 84 #[.agg (sdc 4 b (some ⟨g, off, none⟩) n c)] w fun e w' => e = .returned (.tuple #[.agg #[.int .u64 (W64 (hiN (numA 4 l))), .int .u64 (W64 (loN (numA 4 l)))], .agg #[.int .u64 (W64 (hiN (numB 4 l))), .int .u64 (W64 (loN (numB 4 l)))]]) ∧ New w w' := by
  subst hn
  generalize hW : ((w.alloc (.cells (sdc 4 b (some ⟨g, off, none⟩) 4 c) 30)).alloc (.cells #[.int .u64 0, .int .u64 0] 63)).alloc (.cells #[.int .u64 0, .int .u64 0] 63) = w0
  have HB : Hid (w0.heap[w.heap.size]? = some (.cells (sdc 4 b (some ⟨g, off, none⟩) 4 c) 30 (0, 0))) := Lib.hid (by rw [← hW]; exact (((New.refl _).alloc _).alloc _).block _ (lt_of_block (heap_alloc_new w _)) |>.trans (heap_alloc_new w _))
  have HP := Lib.hid (three_blocksF w (.cells (sdc 4 b (some ⟨g, off, none⟩) 4 c) 30) (.cells #[.int .u64 0, .int .u64 0] 63) (.cells #[.int .u64 0, .int .u64 0] 63))
  rw [hW] at HP
  have HN : Hid (New w w0) := Lib.hid (by rw [← hW]; exact (((New.refl w).alloc _).alloc _).alloc _)
  have HSZ : Hid (w0.heap.size = w.heap.size + 3) := Lib.hid (by rw [← hW]; simp)
  have HROW := Lib.hid (h.stay HN.out)
  have le := h.le
  have hold := h.old _ rfl (by omega)
  have ne1 : ¬ g = w.heap.size + 1 := by simp at hold; omega
  have ne2 : ¬ g = w.heap.size + 1 + 1 := by simp at hold; omega
  clear hold
  have q0 : Hid (∀ w' : World, New w0 w' → w'.cell? ⟨g, off, none⟩ = some (.int .u64 (W64 (l.getD 0 0#64)))) := Lib.hid (fun w' hn => (HROW.out.stay hn).cell g off rfl 0 (by omega))
  have q1 : Hid (∀ w' : World, New w0 w' → w'.cell? ⟨g, off + 1, none⟩ = some (.int .u64 (W64 (l.getD 1 0#64)))) := Lib.hid (fun w' hn => (HROW.out.stay hn).cell g off rfl 1 (by omega))
  have q2 : Hid (∀ w' : World, New w0 w' → w'.cell? ⟨g, off + 2, none⟩ = some (.int .u64 (W64 (l.getD 2 0#64)))) := Lib.hid (fun w' hn => (HROW.out.stay hn).cell g off rfl 2 (by omega))
  have q3 : Hid (∀ w' : World, New w0 w' → w'.cell? ⟨g, off + 3, none⟩ = some (.int .u64 (W64 (l.getD 3 0#64)))) := Lib.hid (fun w' hn => (HROW.out.stay hn).cell g off rfl 3 (by omega))
  have HV : Hid ((W64 (hiN (numA 4 l)) = W64 (l.getD 1 0#64) ∧ W64 (loN (numA 4 l)) = W64 (l.getD 0 0#64)) ∧ (W64 (hiN (numB 4 l)) = W64 (l.getD 3 0#64) ∧ W64 (loN (numB 4 l)) = W64 (l.getD 2 0#64))) := Lib.hid (by
    unfold numA numB
    rw [if_neg (by omega), if_neg (by omega), (two_words _ _).1, (two_words _ _).2, (two_words _ _).1, (two_words _ _).2]
    exact ⟨⟨rfl, rfl⟩, rfl, rfl⟩)
  obtain ⟨x0, hx0⟩ : ∃ z, l.getD 0 0#64 = z := ⟨_, rfl⟩
  obtain ⟨x1, hx1⟩ : ∃ z, l.getD 1 0#64 = z := ⟨_, rfl⟩
  obtain ⟨x2, hx2⟩ : ∃ z, l.getD 2 0#64 = z := ⟨_, rfl⟩
  obtain ⟨x3, hx3⟩ : ∃ z, l.getD 3 0#64 = z := ⟨_, rfl⟩
  rw [hx0, hx1, hx2, hx3] at HV
  rw [hx0] at q0
  rw [hx1] at q1
  rw [hx2] at q2
  rw [hx3] at q3
  clear h HROW hx0 hx1 hx2 hx3
  have c0 := cell_of_row _ _ 0 _ _ _ HB.out
  have c1 := cell_of_row _ _ 1 _ _ _ HB.out
  have c2 := cell_of_row _ _ 2 _ _ _ HB.out
  go_enter Tryz.func84, Tryz.ntmps84
  go_wp2_with fail
  clear c0 c1 c2
  have hd := New.refl w0
  have z0 := q0.out _ hd
  have z1 := q1.out _ hd
  have z2 := q2.out _ hd
  have z3 := q3.out _ hd
  have a0 : w0.cell? ⟨w.heap.size + 1, 0, none⟩ = some (.int .u64 0) := cell_of_row _ _ 0 _ _ _ HP.out.1
  have a1 : w0.cell? ⟨w.heap.size + 1, 1, none⟩ = some (.int .u64 0) := cell_of_row _ _ 1 _ _ _ HP.out.1
  have d0 : w0.cell? ⟨w.heap.size + 1 + 1, 0, none⟩ = some (.int .u64 0) := cell_of_row _ _ 0 _ _ _ HP.out.2
  have d1 : w0.cell? ⟨w.heap.size + 1 + 1, 1, none⟩ = some (.int .u64 0) := cell_of_row _ _ 1 _ _ _ HP.out.2
  have af := fun i => frozen_of_row _ _ i _ _ HP.out.1
  have df := fun i => frozen_of_row _ _ i _ _ HP.out.2
  have c0 := cell_of_row _ _ 0 _ _ _ HB.out
  have c1 := cell_of_row _ _ 1 _ _ _ HB.out
  have c2 := cell_of_row _ _ 2 _ _ _ HB.out
  clear hd
  have hf := put22 (.int .u64 (W64 x1)) (.int .u64 (W64 x0)) (.int .u64 (W64 x3)) (.int .u64 (W64 x2)) HP.out.1 HP.out.2 (by omega)
  have hnf : New w ((((w0.setCell ⟨w.heap.size + 1, 0, none⟩ (.int .u64 (W64 x1))).setCell ⟨w.heap.size + 1, 1, none⟩ (.int .u64 (W64 x0))).setCell ⟨w.heap.size + 1 + 1, 0, none⟩ (.int .u64 (W64 x3))).setCell ⟨w.heap.size + 1 + 1, 1, none⟩ (.int .u64 (W64 x2))).drew := ((((HN.out.setCell (p := ⟨w.heap.size + 1, 0, none⟩) (Nat.le_succ _) _).setCell (p := ⟨w.heap.size + 1, 1, none⟩) (Nat.le_succ _) _).setCell (p := ⟨w.heap.size + 1 + 1, 0, none⟩) (Nat.le_add_right _ 2) _).setCell (p := ⟨w.heap.size + 1 + 1, 1, none⟩) (Nat.le_add_right _ 2) _).drew
  have HFF := Lib.hid hf
  have HNF := Lib.hid hnf
  clear hf hnf
  go_region
  generalize ((((w0.setCell ⟨w.heap.size + 1, 0, none⟩ (.int .u64 (W64 x1))).setCell ⟨w.heap.size + 1, 1, none⟩ (.int .u64 (W64 x0))).setCell ⟨w.heap.size + 1 + 1, 0, none⟩ (.int .u64 (W64 x3))).setCell ⟨w.heap.size + 1 + 1, 1, none⟩ (.int .u64 (W64 x2))).drew = w4 at *
  have k0 := cell_of_row _ _ 0 _ _ _ HFF.out.1
  have k1 := cell_of_row _ _ 1 _ _ _ HFF.out.1
  have k2 := cell_of_row _ _ 0 _ _ _ HFF.out.2
  have k3 := cell_of_row _ _ 1 _ _ _ HFF.out.2
  clear a0 a1 d0 d1 af df c0 c1 c2
  go_wp2_with fail
  refine bodyPost_ret (by simp [results, Tryz.results84, go_sem, k0, k1, k2, k3]; try rfl) rfl ?_
  rw [HV.out.1.1, HV.out.1.2, HV.out.2.1, HV.out.2.2]
  exact ⟨rfl, HNF.out⟩
set_option maxHeartbeats 4000000 in
theorem pair_3 (b : Int) (g off n c : Nat) (l : List (BitVec 64)) (w : World) (h : QRow w (some ⟨g, off, none⟩) n c l) (hn : n = 2) : Calls Tryz.prog 32 #[.agg (sdc 3 b (some ⟨g, off, none⟩) n c)] w fun e w' => e = .returned (.tuple #[.agg #[.int .u64 (W64 (hiN (numA 3 l))), .int .u64 (W64 (loN (numA 3 l)))], .agg #[.int .u64 (W64 (hiN (numB 3 l))), .int .u64 (W64 (loN (numB 3 l)))]]) ∧ New w w' := by
  subst hn
  generalize hW : ((w.alloc (.cells (sdc 3 b (some ⟨g, off, none⟩) 2 c) 30)).alloc (.cells #[.int .u64 0, .int .u64 0] 63)).alloc (.cells #[.int .u64 0, .int .u64 0] 63) = w0
  have HB : Hid (w0.heap[w.heap.size]? = some (.cells (sdc 3 b (some ⟨g, off, none⟩) 2 c) 30 (0, 0))) := Lib.hid (by rw [← hW]; exact (((New.refl _).alloc _).alloc _).block _ (lt_of_block (heap_alloc_new w _)) |>.trans (heap_alloc_new w _))
  have HP := Lib.hid (three_blocksF w (.cells (sdc 3 b (some ⟨g, off, none⟩) 2 c) 30) (.cells #[.int .u64 0, .int .u64 0] 63) (.cells #[.int .u64 0, .int .u64 0] 63))
  rw [hW] at HP
  have HN : Hid (New w w0) := Lib.hid (by rw [← hW]; exact (((New.refl w).alloc _).alloc _).alloc _)
  have HSZ : Hid (w0.heap.size = w.heap.size + 3) := Lib.hid (by rw [← hW]; simp)
  have HROW := Lib.hid (h.stay HN.out)
  have le := h.le
  have hold := h.old _ rfl (by omega)
  have ne1 : ¬ g = w.heap.size + 1 := by simp at hold; omega
  have ne2 : ¬ g = w.heap.size + 1 + 1 := by simp at hold; omega
  clear hold
  have q0 : Hid (∀ w' : World, New w0 w' → w'.cell? ⟨g, off, none⟩ = some (.int .u64 (W64 (l.getD 0 0#64)))) := Lib.hid (fun w' hn => (HROW.out.stay hn).cell g off rfl 0 (by omega))
  have q1 : Hid (∀ w' : World, New w0 w' → w'.cell? ⟨g, off + 1, none⟩ = some (.int .u64 (W64 (l.getD 1 0#64)))) := Lib.hid (fun w' hn => (HROW.out.stay hn).cell g off rfl 1 (by omega))
  have HV : Hid ((W64 (hiN (numA 3 l)) = 0 ∧ W64 (loN (numA 3 l)) = W64 (l.getD 0 0#64)) ∧ (W64 (hiN (numB 3 l)) = 0 ∧ W64 (loN (numB 3 l)) = W64 (l.getD 1 0#64))) := Lib.hid (by
    unfold numA numB
    rw [if_pos rfl, if_pos rfl, (lo_word _).1, (lo_word _).2, (lo_word _).1, (lo_word _).2]
    exact ⟨⟨rfl, rfl⟩, rfl, rfl⟩)
  obtain ⟨x0, hx0⟩ : ∃ z, l.getD 0 0#64 = z := ⟨_, rfl⟩
  obtain ⟨x1, hx1⟩ : ∃ z, l.getD 1 0#64 = z := ⟨_, rfl⟩
  rw [hx0, hx1] at HV
  rw [hx0] at q0
  rw [hx1] at q1
  clear h HROW hx0 hx1
  have c0 := cell_of_row _ _ 0 _ _ _ HB.out
  have c1 := cell_of_row _ _ 1 _ _ _ HB.out
  have c2 := cell_of_row _ _ 2 _ _ _ HB.out
  go_enter Tryz.func32, Tryz.ntmps32
  go_wp2_with fail
  clear c0 c1 c2
  have hd := New.refl w0
  have z0 := q0.out _ hd
  have z1 := q1.out _ hd
  have a0 : w0.cell? ⟨w.heap.size + 1, 0, none⟩ = some (.int .u64 0) := cell_of_row _ _ 0 _ _ _ HP.out.1
  have a1 : w0.cell? ⟨w.heap.size + 1, 1, none⟩ = some (.int .u64 0) := cell_of_row _ _ 1 _ _ _ HP.out.1
  have d0 : w0.cell? ⟨w.heap.size + 1 + 1, 0, none⟩ = some (.int .u64 0) := cell_of_row _ _ 0 _ _ _ HP.out.2
  have d1 : w0.cell? ⟨w.heap.size + 1 + 1, 1, none⟩ = some (.int .u64 0) := cell_of_row _ _ 1 _ _ _ HP.out.2
  have af := fun i => frozen_of_row _ _ i _ _ HP.out.1
  have df := fun i => frozen_of_row _ _ i _ _ HP.out.2
  have c0 := cell_of_row _ _ 0 _ _ _ HB.out
  have c1 := cell_of_row _ _ 1 _ _ _ HB.out
  have c2 := cell_of_row _ _ 2 _ _ _ HB.out
  clear hd
  have hf := put22 (.int .u64 0) (.int .u64 (W64 x0)) (.int .u64 0) (.int .u64 (W64 x1)) HP.out.1 HP.out.2 (by omega)
  have hnf : New w ((((w0.setCell ⟨w.heap.size + 1, 0, none⟩ (.int .u64 0)).setCell ⟨w.heap.size + 1, 1, none⟩ (.int .u64 (W64 x0))).setCell ⟨w.heap.size + 1 + 1, 0, none⟩ (.int .u64 0)).setCell ⟨w.heap.size + 1 + 1, 1, none⟩ (.int .u64 (W64 x1))).drew := ((((HN.out.setCell (p := ⟨w.heap.size + 1, 0, none⟩) (Nat.le_succ _) _).setCell (p := ⟨w.heap.size + 1, 1, none⟩) (Nat.le_succ _) _).setCell (p := ⟨w.heap.size + 1 + 1, 0, none⟩) (Nat.le_add_right _ 2) _).setCell (p := ⟨w.heap.size + 1 + 1, 1, none⟩) (Nat.le_add_right _ 2) _).drew
  have HFF := Lib.hid hf
  have HNF := Lib.hid hnf
  clear hf hnf
  go_region
  generalize ((((w0.setCell ⟨w.heap.size + 1, 0, none⟩ (.int .u64 0)).setCell ⟨w.heap.size + 1, 1, none⟩ (.int .u64 (W64 x0))).setCell ⟨w.heap.size + 1 + 1, 0, none⟩ (.int .u64 0)).setCell ⟨w.heap.size + 1 + 1, 1, none⟩ (.int .u64 (W64 x1))).drew = w4 at *
  have k0 := cell_of_row _ _ 0 _ _ _ HFF.out.1
  have k1 := cell_of_row _ _ 1 _ _ _ HFF.out.1
  have k2 := cell_of_row _ _ 0 _ _ _ HFF.out.2
  have k3 := cell_of_row _ _ 1 _ _ _ HFF.out.2
  clear a0 a1 d0 d1 af df c0 c1 c2
  go_wp2_with fail
  refine bodyPost_ret (by simp [results, Tryz.results32, go_sem, k0, k1, k2, k3]; try rfl) rfl ?_
  rw [HV.out.1.1, HV.out.1.2, HV.out.2.1, HV.out.2.2]
  exact ⟨rfl, HNF.out⟩
set_option maxRecDepth 100000 in
set_option maxHeartbeats 4000000 in
theorem pair_4 (b : Int) (g off n c : Nat) (l : List (BitVec 64)) (w : World) (h : QRow w (some ⟨g, off, none⟩) n c l) (hn : n = 4) : Calls Tryz.prog 32 #[.agg (sdc 4 b (some ⟨g, off, none⟩) n c)] w fun e w' => e = .returned (.tuple #[.agg #[.int .u64 (W64 (hiN (numA 4 l))), .int .u64 (W64 (loN (numA 4 l)))], .agg #[.int .u64 (W64 (hiN (numB 4 l))), .int .u64 (W64 (loN (numB 4 l)))]]) ∧ New w w' := by
  subst hn
  generalize hW : ((w.alloc (.cells (sdc 4 b (some ⟨g, off, none⟩) 4 c) 30)).alloc (.cells #[.int .u64 0, .int .u64 0] 63)).alloc (.cells #[.int .u64 0, .int .u64 0] 63) = w0
  have HB : Hid (w0.heap[w.heap.size]? = some (.cells (sdc 4 b (some ⟨g, off, none⟩) 4 c) 30 (0, 0))) := Lib.hid (by rw [← hW]; exact (((New.refl _).alloc _).alloc _).block _ (lt_of_block (heap_alloc_new w _)) |>.trans (heap_alloc_new w _))
  have HP := Lib.hid (three_blocksF w (.cells (sdc 4 b (some ⟨g, off, none⟩) 4 c) 30) (.cells #[.int .u64 0, .int .u64 0] 63) (.cells #[.int .u64 0, .int .u64 0] 63))
  rw [hW] at HP
  have HN : Hid (New w w0) := Lib.hid (by rw [← hW]; exact (((New.refl w).alloc _).alloc _).alloc _)
  have HSZ : Hid (w0.heap.size = w.heap.size + 3) := Lib.hid (by rw [← hW]; simp)
  have HROW := Lib.hid (h.stay HN.out)
  have le := h.le
  have hold := h.old _ rfl (by omega)
  have ne1 : ¬ g = w.heap.size + 1 := by simp at hold; omega
  have ne2 : ¬ g = w.heap.size + 1 + 1 := by simp at hold; omega
  clear hold
  have Q0 : Hid (∀ w' : World, New w w' → w'.cell? ⟨g, off, none⟩ = some (.int .u64 (W64 (l.getD 0 0#64)))) := Lib.hid (fun w' hn => (h.stay hn).cell g off rfl 0 (by omega))
  have Q1 : Hid (∀ w' : World, New w w' → w'.cell? ⟨g, off + 1, none⟩ = some (.int .u64 (W64 (l.getD 1 0#64)))) := Lib.hid (fun w' hn => (h.stay hn).cell g off rfl 1 (by omega))
  have Q2 : Hid (∀ w' : World, New w w' → w'.cell? ⟨g, off + 2, none⟩ = some (.int .u64 (W64 (l.getD 2 0#64)))) := Lib.hid (fun w' hn => (h.stay hn).cell g off rfl 2 (by omega))
  have Q3 : Hid (∀ w' : World, New w w' → w'.cell? ⟨g, off + 3, none⟩ = some (.int .u64 (W64 (l.getD 3 0#64)))) := Lib.hid (fun w' hn => (h.stay hn).cell g off rfl 3 (by omega))
  have HV : Hid ((W64 (hiN (numA 4 l)) = W64 (l.getD 1 0#64) ∧ W64 (loN (numA 4 l)) = W64 (l.getD 0 0#64)) ∧ (W64 (hiN (numB 4 l)) = W64 (l.getD 3 0#64) ∧ W64 (loN (numB 4 l)) = W64 (l.getD 2 0#64))) := Lib.hid (by
    unfold numA numB
    rw [if_neg (by omega), if_neg (by omega), (two_words _ _).1, (two_words _ _).2, (two_words _ _).1, (two_words _ _).2]
    exact ⟨⟨rfl, rfl⟩, rfl, rfl⟩)
  obtain ⟨x0, hx0⟩ : ∃ z, l.getD 0 0#64 = z := ⟨_, rfl⟩
  obtain ⟨x1, hx1⟩ : ∃ z, l.getD 1 0#64 = z := ⟨_, rfl⟩
  obtain ⟨x2, hx2⟩ : ∃ z, l.getD 2 0#64 = z := ⟨_, rfl⟩
  obtain ⟨x3, hx3⟩ : ∃ z, l.getD 3 0#64 = z := ⟨_, rfl⟩
  rw [hx0, hx1, hx2, hx3] at HV
  rw [hx0] at Q0
  rw [hx1] at Q1
  rw [hx2] at Q2
  rw [hx3] at Q3
  have HH := Lib.hid h
  clear h HROW hx0 hx1 hx2 hx3
  have c0 := cell_of_row _ _ 0 _ _ _ HB.out
  have c1 := cell_of_row _ _ 1 _ _ _ HB.out
  have c2 := cell_of_row _ _ 2 _ _ _ HB.out
  go_enter Tryz.func32, Tryz.ntmps32
  go_wp2_with fail
  refine Grow.wp_region_growS (fun w' => (w'.heap[w.heap.size]? = some (.cells (sdc 4 b (some ⟨g, off, none⟩) 4 c) 30 (0, 0)) ∧ (∃ u v, w'.heap[w.heap.size + 1]? = some (.cells #[u, v] 63 (0, 0))) ∧ (∃ u v, w'.heap[w.heap.size + 1 + 1]? = some (.cells #[u, v] 63 (0, 0)))) ∧ New w w') (fun k => [18, 19].contains k) (by kernel_rfl) (by kernel_rfl) (by kernel_rfl) ⟨⟨((New.refl w0).drew.block _ (lt_of_block HB.out)).trans HB.out, ⟨_, _, ((New.refl w0).drew.block _ (lt_of_block HP.out.1)).trans HP.out.1⟩, ⟨_, _, ((New.refl w0).drew.block _ (lt_of_block HP.out.2)).trans HP.out.2⟩⟩, HN.out.drew⟩ ?_
  intro I _ f hall hback
  have HALL := Lib.hid hall
  have HBACK := Lib.hid hback
  have s0 := fun n => cell_of_row _ _ 0 _ _ _ (hall n).1.1
  have s1 := fun n => cell_of_row _ _ 1 _ _ _ (hall n).1.1
  have s2 := fun n => cell_of_row _ _ 2 _ _ _ (hall n).1.1
  have z0 := fun n => Q0.out _ (hall n).2
  have z1 := fun n => Q1.out _ (hall n).2
  have z2 := fun n => Q2.out _ (hall n).2
  have z3 := fun n => Q3.out _ (hall n).2
  clear hall hback c0 c1 c2
  refine Grow.wpGrow_take 18 (by kernel_rfl) ?_
  simp only [List.take, List.drop, List.length]
  repeat (go_big_quiet_step (fail))
  refine wpQuiet_nil ?_
  refine Grow.wpGrow_turn (fun v => v = undef) (fun _ w9 => w9.heap[w.heap.size + 1]? = some (.cells #[.int .u64 (W64 x1), .int .u64 (W64 x0)] 63 (0, 0))) rfl rfl ⟨_, rfl⟩ (fun w1 hB hG => ?_) (fun v1 A1 hv1 hA => ?_)
  · obtain ⟨n, rfl⟩ := hB
    obtain ⟨⟨hbx, h1, h2⟩, hnw⟩ := HALL.out n
    obtain ⟨u, v, hq⟩ := h1
    have hc0 := cell_of_row _ _ 0 _ _ _ hq
    have hc1 := cell_of_row _ _ 1 _ _ _ hq
    have hfr := fun i => frozen_of_row _ _ i _ _ hq
    have HQ : Hid ((((f n).setCell ⟨w.heap.size + 1, 0, none⟩ (.int .u64 (W64 x1))).setCell ⟨w.heap.size + 1, 1, none⟩ (.int .u64 (W64 x0))).heap[w.heap.size + 1]? = some (.cells #[(.int .u64 (W64 x1)), (.int .u64 (W64 x0))] 63 (0, 0))) := Lib.hid (heap_setCell_same _ (w.heap.size + 1) 1 _ _ (.int .u64 (W64 x0)) (heap_setCell_same _ (w.heap.size + 1) 0 _ _ (.int .u64 (W64 x1)) hq))
    have HOT : Hid (∀ j, j ≠ w.heap.size + 1 → (((f n).setCell ⟨w.heap.size + 1, 0, none⟩ (.int .u64 (W64 x1))).setCell ⟨w.heap.size + 1, 1, none⟩ (.int .u64 (W64 x0))).heap[j]? = (f n).heap[j]?) := Lib.hid (fun j hj => by rw [heap_setCell_other _ _ _ _ hj, heap_setCell_other _ _ _ _ hj])
    have HBX := Lib.hid hbx
    have HO := Lib.hid h2
    have HNW : Hid (New w (((f n).setCell ⟨w.heap.size + 1, 0, none⟩ (.int .u64 (W64 x1))).setCell ⟨w.heap.size + 1, 1, none⟩ (.int .u64 (W64 x0)))) := Lib.hid ((hnw.setCell (p := ⟨w.heap.size + 1, 0, none⟩) (by show w.heap.size ≤ w.heap.size + 1; omega) _).setCell (p := ⟨w.heap.size + 1, 1, none⟩) (by show w.heap.size ≤ w.heap.size + 1; omega) _)
    have HG := Lib.hid hG
    clear hbx h2 hnw hq hG
    go_simp
    exact ⟨HBACK.out _ ⟨⟨(HOT.out _ (by omega)).trans HBX.out, ⟨_, _, HQ.out⟩, (let ⟨u2, v2, h⟩ := HO.out; ⟨u2, v2, (HOT.out _ (by omega)).trans h⟩)⟩, HNW.out⟩, HQ.out⟩
  simp [Act.put] at hA
  subst hA
  refine Grow.wpGrow_turn (fun v => v = undef) (fun _ w9 => w9.heap[w.heap.size + 1]? = some (.cells #[.int .u64 (W64 x1), .int .u64 (W64 x0)] 63 (0, 0)) ∧ w9.heap[w.heap.size + 1 + 1]? = some (.cells #[.int .u64 (W64 x3), .int .u64 (W64 x2)] 63 (0, 0))) rfl rfl ⟨_, rfl⟩ (fun w1 hB hG => ?_) (fun v2 A2 hv2 hA => ?_)
  · obtain ⟨n, rfl⟩ := hB
    obtain ⟨⟨hbx, h1, h2⟩, hnw⟩ := HALL.out n
    obtain ⟨u, v, hq⟩ := h2
    have hc0 := cell_of_row _ _ 0 _ _ _ hq
    have hc1 := cell_of_row _ _ 1 _ _ _ hq
    have hfr := fun i => frozen_of_row _ _ i _ _ hq
    have HQ : Hid ((((f n).setCell ⟨w.heap.size + 1 + 1, 0, none⟩ (.int .u64 (W64 x3))).setCell ⟨w.heap.size + 1 + 1, 1, none⟩ (.int .u64 (W64 x2))).heap[w.heap.size + 1 + 1]? = some (.cells #[(.int .u64 (W64 x3)), (.int .u64 (W64 x2))] 63 (0, 0))) := Lib.hid (heap_setCell_same _ (w.heap.size + 1 + 1) 1 _ _ (.int .u64 (W64 x2)) (heap_setCell_same _ (w.heap.size + 1 + 1) 0 _ _ (.int .u64 (W64 x3)) hq))
    have HOT : Hid (∀ j, j ≠ w.heap.size + 1 + 1 → (((f n).setCell ⟨w.heap.size + 1 + 1, 0, none⟩ (.int .u64 (W64 x3))).setCell ⟨w.heap.size + 1 + 1, 1, none⟩ (.int .u64 (W64 x2))).heap[j]? = (f n).heap[j]?) := Lib.hid (fun j hj => by rw [heap_setCell_other _ _ _ _ hj, heap_setCell_other _ _ _ _ hj])
    have HBX := Lib.hid hbx
    have HO := Lib.hid h1
    have HNW : Hid (New w (((f n).setCell ⟨w.heap.size + 1 + 1, 0, none⟩ (.int .u64 (W64 x3))).setCell ⟨w.heap.size + 1 + 1, 1, none⟩ (.int .u64 (W64 x2)))) := Lib.hid ((hnw.setCell (p := ⟨w.heap.size + 1 + 1, 0, none⟩) (by show w.heap.size ≤ w.heap.size + 1 + 1; omega) _).setCell (p := ⟨w.heap.size + 1 + 1, 1, none⟩) (by show w.heap.size ≤ w.heap.size + 1 + 1; omega) _)
    have HG := Lib.hid hG
    clear hbx h1 hnw hq hG
    go_simp
    exact ⟨HBACK.out _ ⟨⟨(HOT.out _ (by omega)).trans HBX.out, (let ⟨u2, v2, h⟩ := HO.out; ⟨u2, v2, (HOT.out _ (by omega)).trans h⟩), ⟨_, _, HQ.out⟩⟩, HNW.out⟩, ⟨(HOT.out _ (by omega)).trans HG.out, HQ.out⟩⟩
  simp [Act.put] at hA
  subst hA
  refine Grow.wpGrow_nil ?_
  rintro w9 ⟨n9, rfl⟩ hG
  have HNF := Lib.hid (HALL.out n9).2
  obtain ⟨g1, g2⟩ := hG
  have k0 := cell_of_row _ _ 0 _ _ _ g1
  have k1 := cell_of_row _ _ 1 _ _ _ g1
  have k2 := cell_of_row _ _ 0 _ _ _ g2
  have k3 := cell_of_row _ _ 1 _ _ _ g2
  clear HALL HBACK s0 s1 s2 z0 z1 z2 z3 g1 g2
  generalize f n9 = w9 at *
  go_wp2_with fail
  refine bodyPost_ret (by simp [results, Tryz.results32, go_sem, k0, k1, k2, k3]; try rfl) rfl ?_
  rw [HV.out.1.1, HV.out.1.2, HV.out.2.1, HV.out.2.2]
  exact ⟨rfl, HNF.out⟩
end Go.Proofs.YtebcfbcfipmahaaGreat
