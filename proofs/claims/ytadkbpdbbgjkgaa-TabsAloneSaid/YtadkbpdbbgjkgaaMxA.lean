/- Contracts of tabs.Chars and of the document's own Letters as rows of their own; of mixed.Row and of the document's own Row: for all words, all keys. -/
import Derived.Test.YtadkbpdbbgjkgaaTabL
import Derived.Test.YtadkbpdbbgjkgaaTwiA
namespace Go.Proofs.Ytadkbpdbbgjkgaa
open Go.RowKit Go.Bv
set_option linter.unusedVariables false
theorem own_stay {w w' : World} {base : Nat} {e : TypeId} {size : Nat} {v : Value} {n : Nat} {xs : List Value} (h : w.ownsRow base e size v n xs) (hn : New w w') : w'.ownsRow base e size v n xs := by
  obtain ⟨hl, h⟩ := h
  refine ⟨hl, ?_⟩
  rcases h with h | ⟨g, cap, cur, hv, hb, hc, h2⟩
  · exact Or.inl h
  · exact Or.inr ⟨g, cap, cur, hv, hb, by rw [hn.block _ (lt_of_block hc)]; exact hc, h2⟩
set_option maxHeartbeats 1000000 in
theorem chars_own (x : BitVec 64) (n : Int) (m : Nat) (hm : m ≤ 16) (hnm : min (max n 0) 16 = (m : Int)) (w : World) :
    Calls Try.prog 18 #[.int .u64 (W64 x), .int .i64 n] w fun e w' =>
      ∃ v, e = .returned v ∧ w'.ownsRow w.heap.size 3 1 v m ((lets x m).map fun y => .int .i64 y) ∧ New w w' := by
  obtain ⟨i0, hi, hz0, hz1, hz2⟩ := info_parts info_i64
  have hmk := run_make_row (P := Try.prog) 23 3 i0 (.int .i64 0) Try.underlying23 hi hz0 hz1 rfl .i64 .i64 m (by rw [hz2]; omega) (by omega) w
  have HM := Lib.hid (made_i m (fun i => (lets x m).getD i 0))
  have h0 : ¬ (m : Int) < 0 := by omega
  have hmk1 : Hid (∀ t : Int, t = (m : Int) → (Instr.makeSlice 23 (.int .i64 t) (.int .i64 t)).run Try.prog w = .ok (.slice (some ⟨w.heap.size, 0, none⟩) m m) (w.alloc (.cells (madeCells #[.int .i64 0] m) 3))) := Lib.hid (by rintro t rfl; exact hmk)
  clear hmk
  have h16 : ∀ k : Nat, k < m → wrap64 (4 * (k : Int)) = 4 * (k : Int) := by intro k hk; unfold wrap64; omega
  have H16 := Lib.hid h16
  clear h16
  go_enter Try.func18, Try.ntmps18
  go_wp2
  all_goals (
    rw [hmk1.out _ (by omega)]
    go_wp2
    go_loopw [13] (fun i wr => ∃ (k : Nat) (cs : Array Value), k ≤ m ∧ i = .int .i64 k ∧ wr.heap[w.heap.size]? = some (.cells cs 3 (0, 0)) ∧ Hid (cs.size = m ∧ ∀ j, j < m → cs[j]? = some (.int .i64 (if j < k then (lets x m).getD j 0 else 0))) ∧ New w wr) (fun i _ => m - (intOf i).toNat)
    case atStart => exact ⟨0, _, by omega, rfl, heap_alloc_new _ _, HM, (New.refl w).alloc _⟩
    case round =>
      obtain ⟨k, cs, hk, rfl, hb1, H, hn⟩ := hrel
      by_cases hlt : (k : Int) < m
      · first
        | (exfalso; omega)
        | (
          have hcell : wr.cell? ⟨w.heap.size, k, none⟩ = some (.int .i64 (if k < k then (lets x m).getD k 0 else 0)) := by
            rw [cell_of_row _ _ _ _ _ _ hb1]; exact H.out.2 k (by omega)
          have hfree := frozen_of_row wr w.heap.size k cs _ hb1
          have hd := heap_setCell_same wr w.heap.size k cs _ (.int .i64 (lat x k)) hb1
          have HD := Lib.hid hd
          clear hd
          have e4 := H16.out k (by omega)
          have e5 : (4 * (k : Int)).toNat = 4 * k := by omega
          have e6 : wrap64 (W64 (x >>> (4 * k) % 16#64)) = lat x k := by have := lat_lt x k; unfold lat at *; unfold wrap64; omega
          go_wp2
          refine ⟨⟨k + 1, _, by omega, by go_num, HD.out, Lib.hid ⟨by rw [Array.size_setIfInBounds]; exact H.out.1, ?_⟩, hn.setCell (Nat.le_refl _) _⟩, by simp [intOf]; omega⟩
          intro j hj
          have hs := H.out.1
          rw [Array.getElem?_setIfInBounds]
          by_cases e : k = j
          · subst e
            rw [if_pos rfl, if_pos (by omega), if_pos (by omega), lets_at _ _ _ hj]
          · rw [if_neg e, H.out.2 j hj]
            refine congrArg (fun d => some (Value.int .i64 d)) ?_
            by_cases e2 : j < k
            · rw [if_pos e2, if_pos (by omega)]
            · rw [if_neg e2, if_neg (by omega)])
      · obtain rfl : k = m := by omega
        go_wp2
        go_ret
        refine ⟨_, rfl, ⟨by simp [lets_len], Or.inr ⟨w.heap.size, k, cs, rfl, Nat.le_refl _, hb1, Nat.le_refl _, by unfold maxLen; omega, by rw [H.out.1, Nat.mul_one], ?_⟩⟩, hn⟩
        apply List.ext_getElem?
        intro j
        rw [Nat.mul_one, List.getElem?_take]
        by_cases hj : j < k
        · rw [if_pos hj, Array.getElem?_toList, H.out.2 j hj, if_pos hj, List.getElem?_map, List.getD_eq_getElem?_getD, List.getElem?_eq_getElem (by rw [lets_len]; exact hj)]
          rfl
        · rw [if_neg hj, List.getElem?_eq_none (by rw [List.length_map, lets_len]; omega)])
set_option maxHeartbeats 1000000 in
theorem letters_own (x : BitVec 64) (n : Int) (m : Nat) (hm : m ≤ 16) (hnm : min (max n 0) 16 = (m : Int)) (w : World) :
    Calls Try.prog 19 #[.int .u64 (W64 x), .int .i64 n] w fun e w' =>
      ∃ v, e = .returned v ∧ w'.ownsRow w.heap.size 3 1 v m ((lets x m).map fun y => .int .i64 y) ∧ New w w' := by
  obtain ⟨i0, hi, hz0, hz1, hz2⟩ := info_parts info_i64
  have hx0 : x >>> (4 * 0) = x := by simp
  have hstart : W64 x = W64 (x >>> (4 * 0)) := by rw [hx0]
  have HS := Lib.hid hstart
  clear hstart hx0
  go_enter Try.func19, Try.ntmps19
  go_wp2
  go_loopw [0, 5, 6] (fun xv v i wr => ∃ k : Nat, k ≤ m ∧ i = .int .i64 k ∧ xv = .int .u64 (W64 (x >>> (4 * k))) ∧ wr.ownsRow w.heap.size 3 1 v k ((lets x k).map fun y => .int .i64 y) ∧ New w wr) (fun _ _ i _ => m - (intOf i).toNat)
  case atStart => exact ⟨0, by omega, rfl, congrArg (Value.int .u64) HS.out, World.ownsRow_nil w _ _ 1, New.refl w⟩
  case round =>
    obtain ⟨k, hk, rfl, rfl, hown, hnew⟩ := hrel
    by_cases hlt : k < m
    · have hlt1 : (k : Int) < n := by omega
      have hlt2 : (k : Int) < 16 := by omega
      have e6 : wrap64 (W64 (x >>> (4 * k) % 16#64)) = lat x k := by have := lat_lt x k; unfold lat at *; unfold wrap64; omega
      have e7 := lat_next x k
      go_wp2_with (at_builtin; refine wpList_append_own _ rfl _ _ 23 rfl w.heap.size 3 i0 (.int .i64 0) 1 8 Try.underlying23 hi hz0 hz1 hz2 rfl (by decide) _ k _ rfl (hown.alloc _) ⟨wr.heap.size, 0, none⟩ 1 1 [.int .i64 (lat x k)] rfl rfl ?c1 ?c2 ?c3 ?c4 ?c5 ?_)
      case c1 => exact new_cells_i wr _ _
      case c2 => intro u hu; simp at hu; subst hu; rfl
      case c3 => unfold maxLen; omega
      case c4 => omega
      case c5 => simp; have := hnew.le; omega
      intro v' w1 how hgr _
      have how2 : w1.ownsRow w.heap.size 3 1 v' (k + 1) ((lets x (k + 1)).map fun y => .int .i64 y) := by
        rw [lets_succ, List.map_append]; exact how
      have hn1 : New w w1 := (hnew.alloc _).grown' hgr (own_base hown)
      clear how hgr
      go_wp2
      exact ⟨⟨k + 1, by omega, by go_num, rfl, how2, hn1⟩, by simp [intOf]; omega⟩
    · obtain rfl : k = m := by omega
      by_cases hk16 : k = 16
      · have hlt2 : ¬ (k : Int) < 16 := by omega
        by_cases hlt1 : (k : Int) < n
        · go_wp2
          go_ret
          exact ⟨_, rfl, hk16 ▸ hown, hnew⟩
        · go_wp2
          go_ret
          exact ⟨_, rfl, hk16 ▸ hown, hnew⟩
      · have hlt1 : ¬ (k : Int) < n := by omega
        go_wp2
        go_ret
        exact ⟨_, rfl, hown, hnew⟩
/-- the word from which letters are derived, by the first letters -/
def dwx (l : List (BitVec 64)) (x : BitVec 64) : Nat → BitVec 64
  | 0 => 0#64
  | k + 1 => dwx l x k ^^^ l.getD (192 + 16 * k + (lat x k).toNat) 0
theorem dwx_xs (l : List (BitVec 64)) (x : BitVec 64) : ∀ k, k ≤ 8 → xs ((l.drop 192).take 128) (lets x 8) k = dwx l x k
  | 0, _ => rfl
  | k + 1, h => by
    have hl := lat_lt x k
    show xs ((l.drop 192).take 128) (lets x 8) k ^^^ ((l.drop 192).take 128).getD (16 * k + ((lets x 8).getD k 0).toNat) 0 = dwx l x k ^^^ l.getD (192 + 16 * k + (lat x k).toNat) 0
    rw [dwx_xs l x k (by omega), lets_at _ _ _ (by omega), getD_part _ _ _ _ (by omega), Nat.add_assoc]
def rowM (l : List (BitVec 64)) (x : BitVec 64) : List Int := lets x 8 ++ lets (dwx l x 8) 4
theorem rowM_len (l : List (BitVec 64)) (x : BitVec 64) : (rowM l x).length = 12 := by unfold rowM; rw [List.length_append, lets_len, lets_len]
theorem rowM_mem (l : List (BitVec 64)) (x : BitVec 64) : ∀ n ∈ rowM l x, 0 ≤ n ∧ n < 16 := by
  intro n hn
  unfold rowM at hn
  rcases List.mem_append.1 hn with h | h
  · exact lets_mem _ _ _ h
  · exact lets_mem _ _ _ h
theorem rowM_wf (l : List (BitVec 64)) (x : BitVec 64) : ∀ n ∈ rowM l x, In64 n := by
  intro n hn; have := rowM_mem l x n hn; unfold In64; omega
set_option maxHeartbeats 1000000 in
theorem rowing1_any (x : BitVec 64) (g b off : Nat) (l : List (BitVec 64)) (w : World) (hL : l.length = 320) (hg : w.cell? ⟨g, 0, none⟩ = some (.slice (some ⟨b, off, none⟩) 128 128)) (hq : QRow w (some ⟨b, off, none⟩) 128 128 ((l.drop 192).take 128)) :
    Calls Try.prog 60 #[.int .u64 (W64 x), .pointer (some ⟨g, 0, none⟩)] w fun e w' => ∃ a cap, e = .returned (.slice a 12 cap) ∧ ZRow w' a 12 cap (rowM l x) ∧ New w w' := by
  obtain ⟨i0, hi, hz0, hz1, hz2⟩ := info_parts info_i64
  have hsv : sv ((l.drop 192).take 128) (lets x 8) = dwx l x 8 := by
    rw [sv_lets _ _ 8 (by rw [List.length_take, List.length_drop, hL]; omega), dwx_xs l x 8 (by omega)]
  have HSV := Lib.hid hsv
  clear hsv
  have HR : Hid (lets x 8 ++ lets (dwx l x 8) 4 = rowM l x) := Lib.hid rfl
  go_enter Try.func60, Try.ntmps60
  go_wp2_with fail
  refine (chars_own x 8 8 (by omega) (by decide) _).mono ?_
  rintro e w1 ⟨v, rfl, hown, hn1⟩
  obtain ⟨a1, c1, rfl, hz⟩ := ZRow.of_owns hown (by omega) (lets_wf _ _)
  have g1 : w1.cell? ⟨g, 0, none⟩ = some (.slice (some ⟨b, off, none⟩) 128 128) := by
    rw [hn1.cell (a := ⟨g, 0, none⟩) (World.block_lt_of_cell? _ _ hg)]; exact hg
  go_wp2_with fail
  refine (sum_any _ _ _ _ _ _ _ _ _ (hq.stay hn1) hz).mono ?_
  rintro e w2 ⟨rfl, hn2⟩
  rw [HSV.out]
  go_wp2_with fail
  refine (chars_any (dwx l x 8) 4 4 (by omega) (by decide) _).mono ?_
  rintro e w3 ⟨a3, c3, rfl, hz3, hn3⟩
  have hown3 := own_stay hown (hn2.trans hn3)
  obtain ⟨b3, o3, rfl, _⟩ := hz3.addr (by omega)
  have hn13 := hn1.trans (hn2.trans hn3)
  clear g1 hn2 hn3 hown hz hn1
  go_wp2_with (at_builtin; refine wpList_append_own _ rfl _ _ 23 rfl w.heap.size 3 i0 (.int .i64 0) 1 8 Try.underlying23 hi hz0 hz1 hz2 rfl (by decide) _ 8 _ rfl hown3 ⟨b3, o3, none⟩ 4 c3 ((lets (dwx l x 8) 4).map fun y => .int .i64 y) rfl (by simp [lets_len]) ?c1 ?c2 ?c3 ?c4 ?c5 ?_)
  case c1 => exact hz3.olds _ rfl
  case c2 => intro u hu; obtain ⟨y, _, rfl⟩ := List.mem_map.1 hu; rfl
  case c3 => unfold maxLen; omega
  case c4 => omega
  case c5 => exact hn13.le
  intro v' w4 how hgr _
  rw [← List.map_append, HR.out] at how
  have hn4 : New w w4 := hn13.grown' hgr (own_base hown3)
  obtain ⟨a5, c5, rfl, hz5⟩ := ZRow.of_owns how (by omega) (rowM_wf l x)
  clear how hgr
  go_wp2
  go_ret
  exact ⟨_, _, rfl, hz5, hn4⟩
end Go.Proofs.Ytadkbpdbbgjkgaa
