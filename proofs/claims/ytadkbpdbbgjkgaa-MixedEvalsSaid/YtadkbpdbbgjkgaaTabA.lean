/- Contracts of tabs.Chars, tabs.Sum and of the document's own Letters, Fits, Sum, Ints: for every word, every row. -/
import Derived.Test.YtadkbpdbbgjkgaaProg
import Derived.Test.YtadkbpdbbgjkgaaRowI
import Derived.Deep.OwnRows
import Derived.OneCell
import Derived.Deep.QuietTactic
import Derived.BigQuiet
namespace Go.Proofs.Ytadkbpdbbgjkgaa
open Go.RowKit Go.Bv
set_option linter.unusedVariables false
theorem info_i64 : (Try.prog.info? 3).map (fun i => (i.zero, i.size, i.bytes)) = some (some (.int .i64 0), 1, 8) := by kernel_rfl
def lat (x : BitVec 64) (i : Nat) : Int := W64 (x >>> (4 * i) % 16#64)
theorem lat_lt (x : BitVec 64) (i : Nat) : 0 ≤ lat x i ∧ lat x i < 16 := by
  unfold lat W64
  have h := BitVec.toNat_umod (x := x >>> (4 * i)) (y := 16#64)
  rw [h, show (16#64).toNat = 16 from rfl]
  omega
/-- the lowest letters -/
def lets (x : BitVec 64) (m : Nat) : List Int := (List.range m).map (lat x)
theorem lets_len (x : BitVec 64) (m : Nat) : (lets x m).length = m := by simp [lets]
theorem lets_at (x : BitVec 64) (m i : Nat) (h : i < m) : (lets x m).getD i 0 = lat x i := by
  unfold lets; rw [List.getD_eq_getElem?_getD, List.getElem?_map, List.getElem?_range h]; rfl
theorem lets_succ (x : BitVec 64) (m : Nat) : lets x (m + 1) = lets x m ++ [lat x m] := by
  unfold lets; rw [List.range_succ, List.map_append]; rfl
theorem lets_mem (x : BitVec 64) (m : Nat) : ∀ n ∈ lets x m, 0 ≤ n ∧ n < 16 := by
  intro n hn
  obtain ⟨i, _, rfl⟩ := List.mem_map.1 hn
  exact lat_lt x i
theorem lets_wf (x : BitVec 64) (m : Nat) : ∀ n ∈ lets x m, In64 n := by
  intro n hn
  have := lets_mem x m n hn
  unfold In64; omega
theorem made_i (m : Nat) (f : Nat → Int) : (madeCells #[Value.int .i64 0] m).size = m ∧ ∀ j, j < m → (madeCells #[Value.int .i64 0] m)[j]? = some (.int .i64 (if j < 0 then f j else 0)) := by
  refine ⟨size_madeCells _ _, fun j hj => ?_⟩
  rw [if_neg (by omega), ← Array.getElem?_toList, toList_madeCells_one, List.getElem?_replicate, if_pos hj]
set_option maxHeartbeats 1000000 in
theorem chars_any (x : BitVec 64) (n : Int) (m : Nat) (hm : m ≤ 16) (hnm : min (max n 0) 16 = (m : Int)) (w : World) :
    Calls Try.prog 18 #[.int .u64 (W64 x), .int .i64 n] w fun e w' =>
      ∃ a cap, e = .returned (.slice a m cap) ∧ ZRow w' a m cap (lets x m) ∧ New w w' := by
  obtain ⟨i0, hi, hz0, hz1, hz2⟩ := info_parts info_i64
  have hmk := run_make_row (P := Try.prog) 23 3 i0 (.int .i64 0) Try.underlying23 hi hz0 hz1 rfl .i64 .i64 m (by rw [hz2]; omega) (by omega) w
  have HM := Lib.hid (made_i m (fun i => (lets x m).getD i 0))
  have h0 : ¬ (m : Int) < 0 := by omega
  have hmk1 : Hid (∀ t : Int, t = (m : Int) → (Instr.makeSlice 23 (.int .i64 t) (.int .i64 t)).run Try.prog w = .ok (.slice (some ⟨w.heap.size, 0, none⟩) m m) (w.alloc (.cells (madeCells #[.int .i64 0] m) 3))) := Lib.hid (by rintro t rfl; exact hmk)
  clear hmk
  have h16 : ∀ k : Nat, k < m → wrap64 (4 * (k : Int)) = 4 * (k : Int) := by intro k hk; unfold wrap64; omega
  have H16 := Lib.hid h16
  clear h16
  go_enter Try.func18, Try.ntmps18
  go_wp2
  all_goals (
    rw [hmk1.out _ (by omega)]
    go_wp2
    go_loopw [13] (fun i wr => ∃ (k : Nat) (cs : Array Value), k ≤ m ∧ i = .int .i64 k ∧ wr.heap[w.heap.size]? = some (.cells cs 3 (0, 0)) ∧ Hid (cs.size = m ∧ ∀ j, j < m → cs[j]? = some (.int .i64 (if j < k then (lets x m).getD j 0 else 0))) ∧ New w wr) (fun i _ => m - (intOf i).toNat)
    case atStart => exact ⟨0, _, by omega, rfl, heap_alloc_new _ _, HM, (New.refl w).alloc _⟩
    case round =>
      obtain ⟨k, cs, hk, rfl, hb1, H, hn⟩ := hrel
      by_cases hlt : (k : Int) < m
      · first
        | (exfalso; omega)
        | (
          have hcell : wr.cell? ⟨w.heap.size, k, none⟩ = some (.int .i64 (if k < k then (lets x m).getD k 0 else 0)) := by
            rw [cell_of_row _ _ _ _ _ _ hb1]; exact H.out.2 k (by omega)
          have hfree := frozen_of_row wr w.heap.size k cs _ hb1
          have hd := heap_setCell_same wr w.heap.size k cs _ (.int .i64 (lat x k)) hb1
          have HD := Lib.hid hd
          clear hd
          have e4 := H16.out k (by omega)
          have e5 : (4 * (k : Int)).toNat = 4 * k := by omega
          have e6 : wrap64 (W64 (x >>> (4 * k) % 16#64)) = lat x k := by have := lat_lt x k; unfold lat at *; unfold wrap64; omega
          go_wp2
          refine ⟨⟨k + 1, _, by omega, by go_num, HD.out, Lib.hid ⟨by rw [Array.size_setIfInBounds]; exact H.out.1, ?_⟩, hn.setCell (Nat.le_refl _) _⟩, by simp [intOf]; omega⟩
          intro j hj
          have hs := H.out.1
          rw [Array.getElem?_setIfInBounds]
          by_cases e : k = j
          · subst e
            rw [if_pos rfl, if_pos (by omega), if_pos (by omega), lets_at _ _ _ hj]
          · rw [if_neg e, H.out.2 j hj]
            refine congrArg (fun d => some (Value.int .i64 d)) ?_
            by_cases e2 : j < k
            · rw [if_pos e2, if_pos (by omega)]
            · rw [if_neg e2, if_neg (by omega)])
      · obtain rfl : k = m := by omega
        go_wp2
        go_ret
        refine ⟨_, _, rfl, ⟨lets_len _ _, Nat.le_refl _, by omega, by omega, (fun e => by cases e), ?_, ?_, ?_, lets_wf _ _⟩, hn⟩
        · intro b off e i hi
          cases e
          rw [Nat.zero_add, cell_of_row _ _ _ _ _ _ hb1, H.out.2 i hi, if_pos hi]
        · intro x e h; cases e; rfl
        · intro x e h; cases e; exact lt_of_block hb1)
theorem lat_next (x : BitVec 64) (k : Nat) : x >>> (4 * k) / 16#64 = x >>> (4 * (k + 1)) := by
  apply BitVec.eq_of_toNat_eq
  rw [BitVec.toNat_udiv, BitVec.toNat_ushiftRight, BitVec.toNat_ushiftRight, Nat.shiftRight_eq_div_pow, Nat.shiftRight_eq_div_pow, show (16#64).toNat = 2 ^ 4 from rfl, Nat.div_div_eq_div_mul, ← Nat.pow_add]
  rfl
theorem new_cells_i (w : World) (cs : Array Value) (t : TypeId) : ∀ j u, cs.toList[j]? = some u → (w.alloc (.cells cs t)).cell? ((⟨w.heap.size, 0, none⟩ : Addr).add j) = some u := by
  intro j u h
  rw [add_plain, Nat.zero_add, World.cell?_alloc_new]
  simpa using h
set_option maxHeartbeats 1000000 in
theorem letters_ref (x : BitVec 64) (n : Int) (m : Nat) (hm : m ≤ 16) (hnm : min (max n 0) 16 = (m : Int)) (w : World) :
    Calls Try.prog 19 #[.int .u64 (W64 x), .int .i64 n] w fun e w' =>
      ∃ a cap, e = .returned (.slice a m cap) ∧ ZRow w' a m cap (lets x m) ∧ New w w' := by
  obtain ⟨i0, hi, hz0, hz1, hz2⟩ := info_parts info_i64
  have hx0 : x >>> (4 * 0) = x := by simp
  have hstart : W64 x = W64 (x >>> (4 * 0)) := by rw [hx0]
  have HS := Lib.hid hstart
  clear hstart hx0
  go_enter Try.func19, Try.ntmps19
  go_wp2
  go_loopw [0, 5, 6] (fun xv v i wr => ∃ k : Nat, k ≤ m ∧ i = .int .i64 k ∧ xv = .int .u64 (W64 (x >>> (4 * k))) ∧ wr.ownsRow w.heap.size 3 1 v k ((lets x k).map fun y => .int .i64 y) ∧ New w wr) (fun _ _ i _ => m - (intOf i).toNat)
  case atStart => exact ⟨0, by omega, rfl, congrArg (Value.int .u64) HS.out, World.ownsRow_nil w _ _ 1, New.refl w⟩
  case round =>
    obtain ⟨k, hk, rfl, rfl, hown, hnew⟩ := hrel
    by_cases hlt : k < m
    · have hlt1 : (k : Int) < n := by omega
      have hlt2 : (k : Int) < 16 := by omega
      have e6 : wrap64 (W64 (x >>> (4 * k) % 16#64)) = lat x k := by have := lat_lt x k; unfold lat at *; unfold wrap64; omega
      have e7 := lat_next x k
      go_wp2_with (at_builtin; refine wpList_append_own _ rfl _ _ 23 rfl w.heap.size 3 i0 (.int .i64 0) 1 8 Try.underlying23 hi hz0 hz1 hz2 rfl (by decide) _ k _ rfl (hown.alloc _) ⟨wr.heap.size, 0, none⟩ 1 1 [.int .i64 (lat x k)] rfl rfl ?c1 ?c2 ?c3 ?c4 ?c5 ?_)
      case c1 => exact new_cells_i wr _ _
      case c2 => intro u hu; simp at hu; subst hu; rfl
      case c3 => unfold maxLen; omega
      case c4 => omega
      case c5 => simp; have := hnew.le; omega
      intro v' w1 how hgr _
      have how2 : w1.ownsRow w.heap.size 3 1 v' (k + 1) ((lets x (k + 1)).map fun y => .int .i64 y) := by
        rw [lets_succ, List.map_append]; exact how
      have hn1 : New w w1 := (hnew.alloc _).grown' hgr (own_base hown)
      clear how hgr
      go_wp2
      exact ⟨⟨k + 1, by omega, by go_num, rfl, how2, hn1⟩, by simp [intOf]; omega⟩
    · obtain rfl : k = m := by omega
      obtain ⟨a', cap', rfl, hrow⟩ := ZRow.of_owns hown (by omega) (lets_wf _ _)
      by_cases hk16 : k = 16
      · have hlt2 : ¬ (k : Int) < 16 := by omega
        by_cases hlt1 : (k : Int) < n
        · go_wp2
          go_ret
          exact ⟨a', cap', rfl, hk16 ▸ hrow, hnew⟩
        · go_wp2
          go_ret
          exact ⟨a', cap', rfl, hk16 ▸ hrow, hnew⟩
      · have hlt1 : ¬ (k : Int) < n := by omega
        go_wp2
        go_ret
        exact ⟨a', cap', rfl, hrow, hnew⟩
end Go.Proofs.Ytadkbpdbbgjkgaa
