/- Layer 30: the words of bytes. -/
import Derived.Test.YtnapogamcohfaaaM30A
import Derived.Test.YtnapogamcohfaaaPcs
import Derived.Defers
import Derived.Recover
import Derived.Laws.Pointers
import Derived.Handy
import Derived.Laws.EntriesVeiled
import Derived.LoopN
import Derived.Laws.CopyOwn
namespace Go.Proofs.Ytnapogamcohfaaa
open Go.RowKit Go.Bv
set_option linter.unusedVariables false
theorem size_b8 : (Try.prog.info? 5).map (·.size) = some 1 := by kernel_rfl
def pad16 (l : List (BitVec 8)) : List (BitVec 8) := l ++ List.replicate (16 - l.length) 0#8
theorem pad16_len (l : List (BitVec 8)) (h : l.length ≤ 16) : (pad16 l).length = 16 := by unfold pad16; simp; omega
theorem pad16_get (l : List (BitVec 8)) (i : Nat) : (pad16 l).getD i 0 = l.getD i 0 := by
  unfold pad16
  by_cases h : i < l.length
  · rw [List.getD_eq_getElem?_getD, List.getElem?_append_left h, List.getD_eq_getElem?_getD]
  · rw [List.getD_eq_getElem?_getD, List.getElem?_append_right (by omega), List.getElem?_replicate, List.getD_eq_getElem?_getD, List.getElem?_eq_none (by omega : l.length ≤ i)]
    split <;> rfl
theorem pad16_rd (l : List (BitVec 8)) (k m : Nat) : rd (pad16 l) k m = rd l k m := by
  unfold rd
  exact num_congr m (fun i hi => pad16_get l (k + i))
theorem pad16_of (l : List (BitVec 8)) (n k m : Nat) (h : l.length = n) (hk : k + m ≤ 16) : rd (pad16 (l.take (min n 16))) k m = rd l k m := by
  rw [pad16_rd]
  unfold rd
  refine num_congr m (fun i hi => ?_)
  rw [List.getD_eq_getElem?_getD, List.getD_eq_getElem?_getD, List.getElem?_take]
  split
  · rfl
  · rw [List.getElem?_eq_none (by omega : l.length ≤ k + i)]
theorem bcopy_len {w : World} {a : Option Addr} {m c n : Nat} {l : List (BitVec 8)} (h : BRow w a m c l) (hm : m = Nat.min n 16) : (l.map fun x => Value.int .u8 (W8 x)).length = Nat.min n 16 := by
  rw [List.length_map, h.len_eq]; exact hm
theorem bcopy_src {w : World} {a : Option Addr} {m c : Nat} {l : List (BitVec 8)} (x : Addr) (h : BRow w a m c l) : 0 < (l.map fun x => Value.int .u8 (W8 x)).length → some x = some x ∧ ∃ ad, a = some ad ∧ ∀ j v, (l.map fun x => Value.int .u8 (W8 x))[j]? = some v → w.cell? (ad.add j) = some v := by
  intro h0
  rw [List.length_map, h.len_eq] at h0
  obtain ⟨b, off, rfl, _⟩ := h.addr h0
  exact ⟨rfl, _, rfl, h.olds _ rfl⟩
theorem bcopy_fit {w : World} {a : Option Addr} {m c : Nat} {l : List (BitVec 8)} (h : BRow w a m c l) (hm : m ≤ 16) : 0 + (l.map fun x => Value.int .u8 (W8 x)).length ≤ [Value.int .u8 0, Value.int .u8 0, Value.int .u8 0, Value.int .u8 0, Value.int .u8 0, Value.int .u8 0, Value.int .u8 0, Value.int .u8 0, Value.int .u8 0, Value.int .u8 0, Value.int .u8 0, Value.int .u8 0, Value.int .u8 0, Value.int .u8 0, Value.int .u8 0, Value.int .u8 0].length := by
  rw [List.length_map, h.len_eq]; simpa using hm
theorem splice_b (l : List (BitVec 8)) (k : Nat) (hl : l.length ≤ 16) (hk : k < 16) : (splice [Value.int .u8 0, Value.int .u8 0, Value.int .u8 0, Value.int .u8 0, Value.int .u8 0, Value.int .u8 0, Value.int .u8 0, Value.int .u8 0, Value.int .u8 0, Value.int .u8 0, Value.int .u8 0, Value.int .u8 0, Value.int .u8 0, Value.int .u8 0, Value.int .u8 0, Value.int .u8 0] 0 (l.map fun x => Value.int .u8 (W8 x))).toArray[k]? = some (.int .u8 (W8 ((pad16 l).getD k 0))) := by
  have e : [Value.int .u8 0, Value.int .u8 0, Value.int .u8 0, Value.int .u8 0, Value.int .u8 0, Value.int .u8 0, Value.int .u8 0, Value.int .u8 0, Value.int .u8 0, Value.int .u8 0, Value.int .u8 0, Value.int .u8 0, Value.int .u8 0, Value.int .u8 0, Value.int .u8 0, Value.int .u8 0] = List.replicate 16 (Value.int .u8 0) := rfl
  rw [e]
  unfold splice
  rw [pad16_get, List.getElem?_toArray, List.take_zero, List.nil_append, Nat.zero_add, List.length_map]
  by_cases h : k < l.length
  · rw [List.getElem?_append_left (by rw [List.length_map]; exact h), List.getElem?_map, List.getElem?_eq_getElem h, List.getD_eq_getElem?_getD, List.getElem?_eq_getElem h]; rfl
  · rw [List.getElem?_append_right (by rw [List.length_map]; omega), List.length_map, List.getElem?_drop, List.getElem?_replicate, if_pos (by omega), List.getD_eq_getElem?_getD, List.getElem?_eq_none (by omega : l.length ≤ k)]; rfl
set_option maxRecDepth 100000 in
set_option maxHeartbeats 4000000 in
theorem words_30s (a : Option Addr) (n c : Nat) (l : List (BitVec 8)) (w : World) (hh : BRow w a n c l) :
    Calls Try.prog 46 #[.slice a n c] w fun e w' => e = .returned (.agg #[.int .u32 (W32 ((rd l 0 4).setWidth 32)), .int .u32 (W32 ((rd l 4 4).setWidth 32)), .int .u32 (W32 ((rd l 8 4).setWidth 32)), .int .u32 (W32 ((rd l 12 4).setWidth 32))]) ∧ New w w' := by
  have h := row_front hh (show min n 16 ≤ n by omega)
  have h16 : min n 16 ≤ 16 := by omega
  have hlen := h.len_eq
  have hl0 := hh.len_eq
  have e0 := pad16_of l n 0 4 hl0 (by omega)
  have e1 := pad16_of l n 4 4 hl0 (by omega)
  have e2 := pad16_of l n 8 4 hl0 (by omega)
  have e3 := pad16_of l n 12 4 hl0 (by omega)
  rw [← e0, ← e1, ← e2, ← e3]
  clear hh hl0
  have hml : (l.take (min n 16)).length = min n 16 := hlen
  obtain ⟨l2, hl2⟩ : ∃ z, l.take (min n 16) = z := ⟨_, rfl⟩
  rw [hl2] at h hlen hml ⊢
  clear hl2 hml e0 e1 e2 e3 l
  obtain ⟨m, hm⟩ : ∃ z, min n 16 = z := ⟨_, rfl⟩
  have HMN : Hid (m = Nat.min n 16) := Lib.hid hm.symm
  rw [hm] at h h16 hlen
  clear hm
  obtain ⟨l, hl2⟩ : ∃ z, l2 = z := ⟨_, rfl⟩
  rw [hl2] at h hlen ⊢
  clear hl2 l2
  obtain ⟨k0, hk⟩ : ∃ z, (rd (pad16 l) 0 4).setWidth 32 = z := ⟨_, rfl⟩
  have HE0 := Lib.hid hk
  rw [hk]
  clear hk
  obtain ⟨k1, hk⟩ : ∃ z, (rd (pad16 l) 4 4).setWidth 32 = z := ⟨_, rfl⟩
  have HE1 := Lib.hid hk
  rw [hk]
  clear hk
  obtain ⟨k2, hk⟩ : ∃ z, (rd (pad16 l) 8 4).setWidth 32 = z := ⟨_, rfl⟩
  have HE2 := Lib.hid hk
  rw [hk]
  clear hk
  obtain ⟨k3, hk⟩ : ∃ z, (rd (pad16 l) 12 4).setWidth 32 = z := ⟨_, rfl⟩
  have HE3 := Lib.hid hk
  rw [hk]
  clear hk
  have HZ := Lib.hid (two_blocks w (.cells #[.int .u32 0, .int .u32 0, .int .u32 0, .int .u32 0] 52) (.cells #[Value.int .u8 0, Value.int .u8 0, Value.int .u8 0, Value.int .u8 0, Value.int .u8 0, Value.int .u8 0, Value.int .u8 0, Value.int .u8 0, Value.int .u8 0, Value.int .u8 0, Value.int .u8 0, Value.int .u8 0, Value.int .u8 0, Value.int .u8 0, Value.int .u8 0, Value.int .u8 0] 89))
  have HSZ := Lib.hid (show (w.alloc (.cells #[.int .u32 0, .int .u32 0, .int .u32 0, .int .u32 0] 52)).heap.size = w.heap.size + 1 by simp)
  have HN0 := Lib.hid ((New.refl w).alloc (.cells #[.int .u32 0, .int .u32 0, .int .u32 0, .int .u32 0] 52))
  have HN1 := Lib.hid ((New.refl (w.alloc (.cells #[.int .u32 0, .int .u32 0, .int .u32 0, .int .u32 0] 52))).alloc (.cells #[Value.int .u8 0, Value.int .u8 0, Value.int .u8 0, Value.int .u8 0, Value.int .u8 0, Value.int .u8 0, Value.int .u8 0, Value.int .u8 0, Value.int .u8 0, Value.int .u8 0, Value.int .u8 0, Value.int .u8 0, Value.int .u8 0, Value.int .u8 0, Value.int .u8 0, Value.int .u8 0] 89))
  have HM := Lib.hid (h.stay HZ.out.2.2)
  have HRES := Lib.hid (heap_alloc_new w (.cells #[.int .u32 0, .int .u32 0, .int .u32 0, .int .u32 0] 52))
  clear h
  go_enter Try.func46, Try.ntmps46
  go_wp2_with (refine wpList_copy_splice rfl (.tmp 6) (.tmp 7) 23 23 rfl 5 Try.underlying23 size_b8 _ _ _ _ _ _ rfl rfl (w.heap.size + 1) 0 [Value.int .u8 0, Value.int .u8 0, Value.int .u8 0, Value.int .u8 0, Value.int .u8 0, Value.int .u8 0, Value.int .u8 0, Value.int .u8 0, Value.int .u8 0, Value.int .u8 0, Value.int .u8 0, Value.int .u8 0, Value.int .u8 0, Value.int .u8 0, Value.int .u8 0, Value.int .u8 0] 89 HZ.out.2.1 (l.map fun x => Value.int .u8 (W8 x)) (bcopy_len HM.out HMN.out) (bcopy_src _ HM.out) (bcopy_fit HM.out h16) (by intro u hu; obtain ⟨y, _, rfl⟩ := List.mem_map.1 hu; rfl) (w.alloc (.cells #[.int .u32 0, .int .u32 0, .int .u32 0, .int .u32 0] 52)).heap.size (w.alloc (.cells #[.int .u32 0, .int .u32 0, .int .u32 0, .int .u32 0] 52)) HN1.out (by rw [HSZ.out]; exact Nat.le_refl _) ?_)
  intro w4 hg4 hb4
  generalize hw0 : w.alloc (.cells #[.int .u32 0, .int .u32 0, .int .u32 0, .int .u32 0] 52) = w0 at *
  clear hw0
  have HROW : Hid (BRow w4 (some ⟨w.heap.size + 1, 0, none⟩) 16 16 (pad16 l)) := Lib.hid (by
    refine ⟨pad16_len l (by omega), Nat.le_refl _, by omega, by omega, (fun e => by cases e), ?_, ?_, ?_⟩
    · intro b off e k hk
      cases e
      rw [Nat.zero_add, cell_of_row _ _ _ _ _ _ hg4.out, splice_b _ _ (by omega) hk]
    · intro x e h; cases e; rfl
    · intro x e h; cases e; exact lt_of_block hg4.out)
  have HN4 := Lib.hid (show New w0 w4 from by show Below w0.heap.size w0 w4; rw [HSZ.out]; exact hb4)
  have HO := Lib.hid ((HN4.out.block _ (lt_of_block HRES.out)).trans HRES.out)
  have HN := Lib.hid (HN0.out.trans HN4.out)
  clear hg4 hb4 HM HZ HSZ HN0 HN1 HN4 HRES hlen h16
  have HLW := Lib.hid (lt_of_block HO.out)
  have HL0 := Lib.hid (fun w' (hn : New w4 w') => le32_yes (w.heap.size + 1) 0 16 16 0 (pad16 l) w' (HROW.out.stay hn) (by omega))
  rw [HE0.out] at HL0
  have HL1 := Lib.hid (fun w' (hn : New w4 w') => le32_yes (w.heap.size + 1) 0 16 16 4 (pad16 l) w' (HROW.out.stay hn) (by omega))
  rw [HE1.out] at HL1
  have HL2 := Lib.hid (fun w' (hn : New w4 w') => le32_yes (w.heap.size + 1) 0 16 16 8 (pad16 l) w' (HROW.out.stay hn) (by omega))
  rw [HE2.out] at HL2
  have HL3 := Lib.hid (fun w' (hn : New w4 w') => le32_yes (w.heap.size + 1) 0 16 16 12 (pad16 l) w' (HROW.out.stay hn) (by omega))
  rw [HE3.out] at HL3
  have HK := Lib.hid (heap_alloc_new w4 (.cells #[.int .u32 0, .int .u32 0, .int .u32 0, .int .u32 0] 52))
  have HN5 := Lib.hid ((New.refl w4).alloc (.cells #[.int .u32 0, .int .u32 0, .int .u32 0, .int .u32 0] 52))
  clear HROW
  go_wp2_with fail
  refine wp_loop_rounds 5 ?_
  generalize hw8 : w4.alloc (.cells #[.int .u32 0, .int .u32 0, .int .u32 0, .int .u32 0] 52) = w8 at *
  clear hw8
  rw [rounds_succ]
  go_wp2_with fail
  refine (HL0.out _ HN5.out).mono ?_
  rintro e w9 ⟨rfl, hw9⟩
  replace hw9 := hw9.symm
  subst hw9
  have c0 := cell_of_row _ _ 0 _ _ _ HK.out
  have cf := fun i => frozen_of_row _ _ i _ _ HK.out
  go_wp2_with fail
  clear c0 cf
  have h0 := heap_setCell_same w8 w4.heap.size 0 _ _ (.int .u32 (W32 k0)) HK.out
  have h1 := HN5.out.setCell (p := ⟨w4.heap.size, 0, none⟩) (Nat.le_refl _) (.int .u32 (W32 k0))
  replace HK := Lib.hid (show (w8.setCell ⟨w4.heap.size, 0, none⟩ (.int .u32 (W32 k0))).heap[w4.heap.size]? = some (.cells #[.int .u32 (W32 k0), .int .u32 0, .int .u32 0, .int .u32 0] 52 (0, 0)) from h0)
  replace HN5 := Lib.hid h1
  clear h0 h1 HL0
  generalize w8.setCell ⟨w4.heap.size, 0, none⟩ (.int .u32 (W32 k0)) = w7 at *
  obtain ⟨w8, hw8⟩ : ∃ z, w7 = z := ⟨_, rfl⟩
  rw [hw8] at HK HN5 ⊢
  clear hw8 w7
  rw [rounds_succ]
  go_wp2_with fail
  refine (HL1.out _ HN5.out).mono ?_
  rintro e w9 ⟨rfl, hw9⟩
  replace hw9 := hw9.symm
  subst hw9
  have c1 := cell_of_row _ _ 1 _ _ _ HK.out
  have cf := fun i => frozen_of_row _ _ i _ _ HK.out
  go_wp2_with fail
  clear c1 cf
  have h0 := heap_setCell_same w8 w4.heap.size 1 _ _ (.int .u32 (W32 k1)) HK.out
  have h1 := HN5.out.setCell (p := ⟨w4.heap.size, 1, none⟩) (Nat.le_refl _) (.int .u32 (W32 k1))
  replace HK := Lib.hid (show (w8.setCell ⟨w4.heap.size, 1, none⟩ (.int .u32 (W32 k1))).heap[w4.heap.size]? = some (.cells #[.int .u32 (W32 k0), .int .u32 (W32 k1), .int .u32 0, .int .u32 0] 52 (0, 0)) from h0)
  replace HN5 := Lib.hid h1
  clear h0 h1 HL1
  generalize w8.setCell ⟨w4.heap.size, 1, none⟩ (.int .u32 (W32 k1)) = w7 at *
  obtain ⟨w8, hw8⟩ : ∃ z, w7 = z := ⟨_, rfl⟩
  rw [hw8] at HK HN5 ⊢
  clear hw8 w7
  rw [rounds_succ]
  go_wp2_with fail
  refine (HL2.out _ HN5.out).mono ?_
  rintro e w9 ⟨rfl, hw9⟩
  replace hw9 := hw9.symm
  subst hw9
  have c2 := cell_of_row _ _ 2 _ _ _ HK.out
  have cf := fun i => frozen_of_row _ _ i _ _ HK.out
  go_wp2_with fail
  clear c2 cf
  have h0 := heap_setCell_same w8 w4.heap.size 2 _ _ (.int .u32 (W32 k2)) HK.out
  have h1 := HN5.out.setCell (p := ⟨w4.heap.size, 2, none⟩) (Nat.le_refl _) (.int .u32 (W32 k2))
  replace HK := Lib.hid (show (w8.setCell ⟨w4.heap.size, 2, none⟩ (.int .u32 (W32 k2))).heap[w4.heap.size]? = some (.cells #[.int .u32 (W32 k0), .int .u32 (W32 k1), .int .u32 (W32 k2), .int .u32 0] 52 (0, 0)) from h0)
  replace HN5 := Lib.hid h1
  clear h0 h1 HL2
  generalize w8.setCell ⟨w4.heap.size, 2, none⟩ (.int .u32 (W32 k2)) = w7 at *
  obtain ⟨w8, hw8⟩ : ∃ z, w7 = z := ⟨_, rfl⟩
  rw [hw8] at HK HN5 ⊢
  clear hw8 w7
  rw [rounds_succ]
  go_wp2_with fail
  refine (HL3.out _ HN5.out).mono ?_
  rintro e w9 ⟨rfl, hw9⟩
  replace hw9 := hw9.symm
  subst hw9
  have c3 := cell_of_row _ _ 3 _ _ _ HK.out
  have cf := fun i => frozen_of_row _ _ i _ _ HK.out
  go_wp2_with fail
  clear c3 cf
  have h0 := heap_setCell_same w8 w4.heap.size 3 _ _ (.int .u32 (W32 k3)) HK.out
  have h1 := HN5.out.setCell (p := ⟨w4.heap.size, 3, none⟩) (Nat.le_refl _) (.int .u32 (W32 k3))
  replace HK := Lib.hid (show (w8.setCell ⟨w4.heap.size, 3, none⟩ (.int .u32 (W32 k3))).heap[w4.heap.size]? = some (.cells #[.int .u32 (W32 k0), .int .u32 (W32 k1), .int .u32 (W32 k2), .int .u32 (W32 k3)] 52 (0, 0)) from h0)
  replace HN5 := Lib.hid h1
  clear h0 h1 HL3
  generalize w8.setCell ⟨w4.heap.size, 3, none⟩ (.int .u32 (W32 k3)) = w7 at *
  obtain ⟨w8, hw8⟩ : ∃ z, w7 = z := ⟨_, rfl⟩
  rw [hw8] at HK HN5 ⊢
  clear hw8 w7
  replace HO := Lib.hid ((HN5.out.block _ (lt_of_block HO.out)).trans HO.out)
  replace HN := Lib.hid (HN.out.trans HN5.out)
  rw [rounds_succ]
  have z0 := cell_of_row _ _ 0 _ _ _ HO.out
  have c0 := cell_of_row _ _ 0 _ _ _ HK.out
  have z1 := cell_of_row _ _ 1 _ _ _ HO.out
  have c1 := cell_of_row _ _ 1 _ _ _ HK.out
  have z2 := cell_of_row _ _ 2 _ _ _ HO.out
  have c2 := cell_of_row _ _ 2 _ _ _ HK.out
  have z3 := cell_of_row _ _ 3 _ _ _ HO.out
  have c3 := cell_of_row _ _ 3 _ _ _ HK.out
  have zf := fun i => frozen_of_row _ _ i _ _ HO.out
  go_wp2
  refine bodyPost_ret (by simp [results, Try.results46, go_sem, z0, z1, z2, z3]; try rfl) rfl ?_
  exact ⟨rfl, ((((HN.out.setCell (by show w.heap.size ≤ w.heap.size; omega) _).setCell (by show w.heap.size ≤ w.heap.size; omega) _).setCell (by show w.heap.size ≤ w.heap.size; omega) _).setCell (by show w.heap.size ≤ w.heap.size; omega) _)⟩
end Go.Proofs.Ytnapogamcohfaaa
