/- Contracts of split.Words and of the document's own Words; the walk of the statement SplitTells: for every state and every number. -/
import Derived.Test.YtfeibahbmkhgoaaSplA
import Derived.Test.YtfeibahbmkhgoaaWords
import Derived.Deep.OwnRows
import Derived.OneCell
namespace Go.Proofs.Ytfeibahbmkhgoaa
open Go.RowKit Go.Bv
set_option linter.unusedVariables false
theorem info8_u64 : (Try.prog.info? 22).map (fun i => (i.zero, i.size, i.bytes)) = some (some (.int .u64 0), 1, 8) := by kernel_rfl
/-- what so many steps tell -/
def told8 (s : BitVec 64) (m : Nat) : List (BitVec 64) := (List.range m).map fun i => split (s + BitVec.ofNat 64 (i + 1) * Gm)
theorem told8_len (s : BitVec 64) (m : Nat) : (told8 s m).length = m := by simp [told8]
theorem told8_at (s : BitVec 64) (m i : Nat) (h : i < m) : (told8 s m).getD i 0 = split (s + BitVec.ofNat 64 (i + 1) * Gm) := by
  unfold told8; rw [List.getD_eq_getElem?_getD, List.getElem?_map, List.getElem?_range h]; rfl
theorem told8_succ (s : BitVec 64) (m : Nat) : told8 s (m + 1) = told8 s m ++ [split (s + BitVec.ofNat 64 (m + 1) * Gm)] := by
  unfold told8; rw [List.range_succ, List.map_append]; rfl
theorem gm_next (s : BitVec 64) (k : Nat) : s + BitVec.ofNat 64 k * Gm + Gm = s + BitVec.ofNat 64 (k + 1) * Gm := by
  rw [show BitVec.ofNat 64 (k + 1) = BitVec.ofNat 64 k + 1#64 from by rw [BitVec.ofNat_add]]; grind
set_option maxHeartbeats 400000 in
theorem source1_any (b : Nat) (s : BitVec 64) (t : TypeId) (w : World) (hb : w.heap[b]? = some (.cells #[.int .u64 (W64 s)] t (0, 0))) :
    Calls Try.prog 88 #[.pointer (some ⟨b, 0, none⟩)] w fun e w' => ∃ w1, e = .returned (.int .u64 (W64 (split (s + Gm)))) ∧ New w w1 ∧ w' = w1.setCell ⟨b, 0, none⟩ (.int .u64 (W64 (s + Gm))) := by
  have hc := cell_of_one hb
  have hf := free_of_one hb
  go_enter Try.func88, Try.ntmps88
  go_wp2_with fail
  refine (next_any _ w w (New.refl w)).mono ?_
  rintro e w1 ⟨rfl, hn⟩
  have hf1 : w1.frozen? ⟨b, 0, none⟩ = false := by rw [hn.frozen (a := ⟨b, 0, none⟩) (lt_of_block hb)]; exact hf
  have hc1 : w1.cell? ⟨b, 0, none⟩ = some (.int .u64 (W64 s)) := by rw [hn.cell (a := ⟨b, 0, none⟩) (lt_of_block hb)]; exact hc
  rw [ofInt_W64]
  go_wp2
  go_ret
  exact ⟨w1, rfl, hn, rfl⟩
set_option maxHeartbeats 400000 in
theorem source_any (s : Int) (w : World) :
    Calls Try.prog 82 #[.int .u64 s] w fun e w' => e = .returned (.func (.func 88) #[] #[.pointer (some ⟨w.heap.size, 0, none⟩)]) ∧ w' = w.alloc (.cells #[.int .u64 s] 22) := by
  go_enter Try.func82, Try.ntmps82
  go_wp2
  go_ret
  exact ⟨rfl, rfl⟩
theorem made64 (m : Nat) (f : Nat → BitVec 64) : (madeCells #[Value.int .u64 0] m).size = m ∧ ∀ j, j < m → (madeCells #[Value.int .u64 0] m)[j]? = some (.int .u64 (W64 (if j < 0 then f j else 0#64))) := by
  refine ⟨size_madeCells _ _, fun j hj => ?_⟩
  rw [if_neg (by omega), ← Array.getElem?_toList, toList_madeCells_one, List.getElem?_replicate, if_pos hj]
  rfl
set_option maxHeartbeats 1000000 in
theorem words_at (s n : Int) (m : Nat) (hm : m ≤ 4096) (hnm : (n < 0 ∧ m = 0) ∨ n = (m : Int)) (hs : 0 ≤ s ∧ s < 18446744073709551616) (W w : World) (hg : New W w) :
    Calls Try.prog 31 #[.int .u64 s, .int .i64 n] w fun e w' =>
      ∃ a cap, e = .returned (.slice a m cap) ∧ QRow w' a m cap (told8 (BitVec.ofInt 64 s) m) ∧ New w w' ∧ New W w' := by
  obtain ⟨s, rfl⟩ := ex64 s hs
  rw [ofInt_W64]
  obtain ⟨i0, hi, hz0, hz1, hz2⟩ := info_parts info8_u64
  have hmk := run_make_row (P := Try.prog) 34 22 i0 (.int .u64 0) Try.underlying34 hi hz0 hz1 rfl .i64 .i64 m (by rw [hz2]; omega) (by omega) (w.alloc (.cells #[.int .u64 (W64 s)] 22))
  have hsz : (w.alloc (.cells #[.int .u64 (W64 s)] 22)).heap.size = w.heap.size + 1 := by simp
  have HM := Lib.hid (made64 m (fun i => (told8 s m).getD i 0))
  rcases hnm with ⟨hn, rfl⟩ | rfl
  · have hmk0 : (Instr.makeSlice 34 (.int .i64 0) (.int .i64 0)).run Try.prog (w.alloc (.cells #[.int .u64 (W64 s)] 22)) = .ok (.slice (some ⟨w.heap.size + 1, 0, none⟩) 0 0) ((w.alloc (.cells #[.int .u64 (W64 s)] 22)).alloc (.cells (madeCells #[.int .u64 0] 0) 22)) := by rw [← hsz]; exact hmk
    clear hmk hsz
    have hn2 : ¬ (0 : Int) < n := by omega
    go_enter Try.func31, Try.ntmps31
    go_wp2_with (go_at_call 82; refine (source_any _ _).mono ?_; rintro e w' ⟨rfl, rfl⟩)
    go_loopw [16] (fun i wr => i = .int .i64 0 ∧ New w wr) (fun i _ => 0)
    case atStart => exact ⟨rfl, ((New.refl w).alloc _).alloc _⟩
    case round =>
      obtain ⟨rfl, hn⟩ := hrel
      go_wp2
      go_ret
      exact ⟨_, _, rfl, ⟨by simp [told8], by omega, by omega, by omega, (fun e => by cases e), (fun b off e i h => by omega), (fun x e h => by omega), (fun x e h => by omega)⟩, hn, hg.trans hn⟩
  · have hmk0 : (Instr.makeSlice 34 (.int .i64 m) (.int .i64 m)).run Try.prog (w.alloc (.cells #[.int .u64 (W64 s)] 22)) = .ok (.slice (some ⟨w.heap.size + 1, 0, none⟩) m m) ((w.alloc (.cells #[.int .u64 (W64 s)] 22)).alloc (.cells (madeCells #[.int .u64 0] m) 22)) := by rw [← hsz]; exact hmk
    clear hmk hsz
    have h4096 : ¬ (4096 : Int) < m := by omega
    have h0 : ¬ (m : Int) < 0 := by omega
    go_enter Try.func31, Try.ntmps31
    go_wp2_with (go_at_call 82; refine (source_any _ _).mono ?_; rintro e w' ⟨rfl, rfl⟩)
    go_loopw [16] (fun i wr => ∃ (k : Nat) (cs : Array Value), k ≤ m ∧ i = .int .i64 k ∧ wr.heap[w.heap.size]? = some (.cells #[.int .u64 (W64 (s + BitVec.ofNat 64 k * Gm))] 22 (0, 0)) ∧ wr.heap[w.heap.size + 1]? = some (.cells cs 22 (0, 0)) ∧ Hid (cs.size = m ∧ ∀ j, j < m → cs[j]? = some (.int .u64 (W64 (if j < k then (told8 s m).getD j 0 else 0#64)))) ∧ New w wr) (fun i _ => m - (intOf i).toNat)
    case atStart => exact ⟨0, _, by omega, rfl, by rw [heap_alloc2_old]; simp, heap_alloc2_new _ _ _, HM, ((New.refl w).alloc _).alloc _⟩
    case round =>
      obtain ⟨k, cs, hk, rfl, hb0, hb1, H, hn⟩ := hrel
      by_cases hlt : (k : Int) < m
      · go_wp2_with fail
        refine (source1_any w.heap.size _ _ wr hb0).mono ?_
        rintro e w' ⟨w2, rfl, hn2, rfl⟩
        have hlt0 := lt_of_block hb0
        have hlt1 := lt_of_block hb1
        have hb0' : w2.heap[w.heap.size]? = some (.cells #[.int .u64 (W64 (s + BitVec.ofNat 64 k * Gm))] 22 (0, 0)) := by rw [hn2.block _ hlt0]; exact hb0
        have hb1' : w2.heap[w.heap.size + 1]? = some (.cells cs 22 (0, 0)) := by rw [hn2.block _ hlt1]; exact hb1
        have hc0 := one_setCell (u := .int .u64 (W64 (s + BitVec.ofNat 64 k * Gm + Gm))) hb0'
        have hc1 : (w2.setCell ⟨w.heap.size, 0, none⟩ (.int .u64 (W64 (s + BitVec.ofNat 64 k * Gm + Gm)))).heap[w.heap.size + 1]? = some (.cells cs 22 (0, 0)) := by
          rw [heap_setCell_other _ _ _ _ (by show w.heap.size + 1 ≠ w.heap.size; omega)]; exact hb1'
        have hn3 : New w (w2.setCell ⟨w.heap.size, 0, none⟩ (.int .u64 (W64 (s + BitVec.ofNat 64 k * Gm + Gm)))) := (hn.trans hn2).setCell (Nat.le_refl _) _
        clear hb0' hb1' hn2 hb0 hb1 hn
        generalize w2.setCell ⟨w.heap.size, 0, none⟩ (.int .u64 (W64 (s + BitVec.ofNat 64 k * Gm + Gm))) = w3 at *
        rw [gm_next] at hc0 ⊢
        have hcell : w3.cell? ⟨w.heap.size + 1, k, none⟩ = some (.int .u64 (W64 (if k < k then (told8 s m).getD k 0 else 0#64))) := by
          rw [cell_of_row _ _ _ _ _ _ hc1]; exact H.out.2 k (by omega)
        have hfree := frozen_of_row w3 (w.heap.size + 1) k cs _ hc1
        have hd := heap_setCell_same w3 (w.heap.size + 1) k cs _ (.int .u64 (W64 (split (s + BitVec.ofNat 64 (k + 1) * Gm)))) hc1
        have he : (w3.setCell ⟨w.heap.size + 1, k, none⟩ (.int .u64 (W64 (split (s + BitVec.ofNat 64 (k + 1) * Gm))))).heap[w.heap.size]? = some (.cells #[.int .u64 (W64 (s + BitVec.ofNat 64 (k + 1) * Gm))] 22 (0, 0)) := by
          rw [heap_setCell_other _ _ _ _ (by show w.heap.size ≠ w.heap.size + 1; omega)]; exact hc0
        have HE := Lib.hid he
        have HD := Lib.hid hd
        clear hd he hc0 hc1
        go_wp2
        refine ⟨⟨k + 1, _, by omega, by go_num, HE.out, HD.out, Lib.hid ⟨by rw [Array.size_setIfInBounds]; exact H.out.1, ?_⟩, hn3.setCell (by show _ ≤ w.heap.size + 1; omega) _⟩, by simp [intOf]; omega⟩
        intro j hj
        have hs := H.out.1
        rw [Array.getElem?_setIfInBounds]
        by_cases e : k = j
        · subst e
          rw [if_pos rfl, if_pos (by omega), if_pos (by omega), told8_at _ _ _ hj]
        · rw [if_neg e, H.out.2 j hj]
          refine congrArg (fun d => some (Value.int .u64 (W64 d))) ?_
          by_cases e2 : j < k
          · rw [if_pos e2, if_pos (by omega)]
          · rw [if_neg e2, if_neg (by omega)]
      · obtain rfl : k = m := by omega
        go_wp2
        go_ret
        refine ⟨_, _, rfl, ⟨told8_len _ _, Nat.le_refl _, by omega, by omega, (fun e => by cases e), ?_, ?_, ?_⟩, hn, hg.trans hn⟩
        · intro b off e i hi
          cases e
          rw [Nat.zero_add, cell_of_row _ _ _ _ _ _ hb1, H.out.2 i hi, if_pos hi]
        · intro x e h; cases e; rfl
        · intro x e h; cases e; exact lt_of_block hb1
theorem new_cells8 (w : World) (cs : Array Value) (t : TypeId) : ∀ j u, cs.toList[j]? = some u → (w.alloc (.cells cs t)).cell? ((⟨w.heap.size, 0, none⟩ : Addr).add j) = some u := by
  intro j u h
  rw [add_plain, Nat.zero_add, World.cell?_alloc_new]
  simpa using h
set_option maxHeartbeats 1000000 in
theorem words8_ref (s : Int) (n : Int) (m : Nat) (hm : m ≤ 4096) (hnm : (n < 0 ∧ m = 0) ∨ n = (m : Int)) (hs : 0 ≤ s ∧ s < 18446744073709551616) (W w : World) (hg : New W w) :
    Calls Try.prog 32 #[.int .u64 s, .int .i64 n] w fun e w' =>
      ∃ a cap, e = .returned (.slice a m cap) ∧ QRow w' a m cap (told8 (BitVec.ofInt 64 s) m) ∧ New w w' ∧ New W w' := by
  obtain ⟨s, rfl⟩ := ex64 s hs
  obtain ⟨i0, hi, hz0, hz1, hz2⟩ := info_parts info8_u64
  rw [ofInt_W64]
  go_enter Try.func32, Try.ntmps32
  go_wp2
  go_loopw [5, 6] (fun v i wr => ∃ k : Nat, k ≤ m ∧ i = .int .i64 k ∧ wr.ownsRow w.heap.size 22 1 v k ((told8 s k).map fun y => .int .u64 (W64 y)) ∧ New w wr) (fun _ i _ => m - (intOf i).toNat)
  case atStart => exact ⟨0, by omega, rfl, World.ownsRow_nil w _ _ 1, New.refl w⟩
  case round =>
    obtain ⟨k, hk, rfl, hown, hnew⟩ := hrel
    by_cases hlt : (k : Int) < n
    · have hlt2 : (k : Int) < 4096 := by omega
      go_wp2_with fail
      refine (out_ref _ _ _).mono ?_
      rintro e w' ⟨rfl, rfl⟩
      rw [ofInt_W64, ofInt_W64]
      go_wp2_with (at_builtin; refine wpList_append_own _ rfl _ _ 34 rfl w.heap.size 22 i0 (.int .u64 0) 1 8 Try.underlying34 hi hz0 hz1 hz2 rfl (by decide) _ k _ rfl (hown.alloc _) ⟨w'.heap.size, 0, none⟩ 1 1 [.int .u64 (W64 (split (s + (BitVec.ofNat 64 k + 1#64) * Gm)))] rfl rfl ?c1 ?c2 ?c3 ?c4 ?c5 ?_)
      case c1 => exact new_cells8 w' _ _
      case c2 => intro u hu; simp at hu; subst hu; rfl
      case c3 => unfold maxLen; omega
      case c4 => omega
      case c5 => simp; have := hnew.le; omega
      intro v' w1 how hgr _
      have how2 : w1.ownsRow w.heap.size 22 1 v' (k + 1) ((told8 s (k + 1)).map fun y => .int .u64 (W64 y)) := by
        rw [told8_succ, List.map_append, BitVec.ofNat_add]; exact how
      have hn1 : New w w1 := (hnew.alloc _).grown' hgr (own_base hown)
      clear how hgr
      go_wp2
      exact ⟨⟨k + 1, by omega, by go_num, how2, hn1⟩, by simp [intOf]; omega⟩
    · obtain rfl : k = m := by omega
      obtain ⟨a', cap', rfl, hrow⟩ := QRow.of_owns hown (by omega)
      go_wp2
      go_ret
      exact ⟨a', cap', rfl, hrow, hnew, hg.trans hnew⟩
set_option maxHeartbeats 1000000 in
theorem SplitTells_walk (W : World) (a0 : Int) (w0 : (Lit.int .u64 a0).wf = true) (a1 : Int) (w1 : (Lit.int .i64 a1).wf = true) :
    Calls Try.prog 6 #[.int .u64 a0, .int .i64 a1] W fun e w' => e = .returned (.bool true) ∧ Below W.heap.size W w' := by
  obtain ⟨s, rfl⟩ := wf64 w0
  clear w0 w1
  have hg := New.refl W
  by_cases hbig : (300 : Int) < a1
  · by_cases hbig2 : a1 < (4096 : Int)
    · go_enter Try.func6, Try.ntmps6
      go_wp2_with (go_at_call 26; refine (awake08 _ _ hg).mono ?_; clear hg; rintro e w' ⟨rfl, hg⟩)
      go_ret
      exact ⟨rfl, hg⟩
    · go_enter Try.func6, Try.ntmps6
      go_wp2_with fail
      refine (awake08 _ _ hg).mono ?_; clear hg; rintro e w' ⟨rfl, hg⟩
      go_wp2_with fail
      refine (next_any _ _ _ hg).mono ?_; clear hg; rintro e w' ⟨rfl, hg⟩
      rw [ofInt_W64]
      have h1 : (s + Gm == s + 11400714819323198485#64) = true := by rw [beq_iff_eq]; rfl
      have h2 : (s + Gm - Gm == s) = true := by rw [beq_iff_eq, BitVec.add_sub_cancel]
      have h3 : s + BitVec.ofInt 64 1 * Gm = s + Gm := by rw [show BitVec.ofInt 64 1 = 1#64 from rfl, BitVec.one_mul]
      generalize s + Gm = t at h1 h2 h3 ⊢
      have H3 := Lib.hid h3
      clear h3
      go_wp2_with fail
      refine (out_ref _ _ _).mono ?_; rintro e w' ⟨rfl, rfl⟩
      rw [ofInt_W64, H3.out]
      go_wp2_with fail
      refine (back_any _ _).mono ?_; rintro e w' ⟨rfl, rfl⟩
      rw [ofInt_W64]
      go_wp2_with fail
      all_goals (go_ret; exact ⟨rfl, hg⟩)
  · have hm : ∃ m : Nat, m ≤ 300 ∧ ((a1 < 0 ∧ m = 0) ∨ a1 = (m : Int)) := by
      by_cases h : a1 < 0
      · exact ⟨0, by omega, Or.inl ⟨h, rfl⟩⟩
      · exact ⟨a1.toNat, by omega, Or.inr (by omega)⟩
    obtain ⟨m, hm, hnm⟩ := hm
    have HNM := Lib.hid hnm
    clear hnm
    go_enter Try.func6, Try.ntmps6
    go_wp2_with fail
    refine (awake08 _ _ hg).mono ?_; clear hg; rintro e w' ⟨rfl, hg⟩
    go_wp2_with fail
    refine (next_any _ _ _ hg).mono ?_; clear hg; rintro e w' ⟨rfl, hg⟩
    rw [ofInt_W64]
    have h1 : (s + Gm == s + 11400714819323198485#64) = true := by rw [beq_iff_eq]; rfl
    have h2 : (s + Gm - Gm == s) = true := by rw [beq_iff_eq, BitVec.add_sub_cancel]
    have h3 : s + BitVec.ofInt 64 1 * Gm = s + Gm := by rw [show BitVec.ofInt 64 1 = 1#64 from rfl, BitVec.one_mul]
    generalize s + Gm = t at h1 h2 h3 ⊢
    have H3 := Lib.hid h3
    clear h3
    go_wp2_with fail
    refine (out_ref _ _ _).mono ?_; rintro e w' ⟨rfl, rfl⟩
    rw [ofInt_W64, H3.out]
    go_wp2_with fail
    refine (back_any _ _).mono ?_; rintro e w' ⟨rfl, rfl⟩
    rw [ofInt_W64]
    go_wp2_with fail
    refine (words_at _ _ m (by omega) HNM.out (b64 _) _ _ hg).mono ?_
    clear hg
    rintro e w1 ⟨a, c, rfl, hrow, _, hg⟩
    go_wp2_with fail
    refine (words8_ref _ _ m (by omega) HNM.out (b64 _) _ _ hg).mono ?_
    clear hg
    rintro e w2 ⟨a2, c2, rfl, hrow2, hn2, hg⟩
    go_wp2_with fail
    refine (words_ref _ _ _ _ _ _ _ _ W w2 (hrow.stay hn2) hrow2 hg).mono ?_
    rintro e w3 ⟨rfl, hn4, hn3⟩
    rw [beq_self_eq_true]
    go_wp2
    go_ret
    exact ⟨rfl, hn3⟩
end Go.Proofs.Ytfeibahbmkhgoaa
