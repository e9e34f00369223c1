/- All generators: kind 1's seed and next; the chapter's example. -/
import Derived.Test.YtoplabhoedloeaaGreatGsG
import Derived.Test.YtoplabhoedloeaaGreatSplW
namespace Go.Proofs.YtoplabhoedloeaaGreat
open Go.RowKit Go.Bv
set_option linter.unusedVariables false
def q1 (s : BitVec 64) : W4 := ⟨s, 0#64, 0#64, 0#64⟩
theorem W64z : W64 0#64 = 0 := W64_lit 0 (by omega)
theorem q1_cells (s : BitVec 64) : (q1 s).cells = #[.int .u64 (W64 s), .int .u64 0, .int .u64 0, .int .u64 0] := by
  show #[Value.int .u64 (W64 s), .int .u64 (W64 0#64), .int .u64 (W64 0#64), .int .u64 (W64 0#64)] = _
  rw [W64z]
theorem sd1 (n : BitVec 64) : SdC 1 n (q1 n) := by
  intro w g h
  cases h with
  | split b h =>
    show Calls Tryz.prog 41 #[.int .u64 (W64 n)] w _
    rw [q1_cells]
    go_enter Tryz.func41, Tryz.ntmps41
    go_wp2_with fail
    go_returns
    exact ⟨rfl, (New.refl w).alloc _⟩
  | xosh k hk b h => omega
  | xoro k hk b b4 b5 b6 h h4 h5 h6 => omega
set_option maxHeartbeats 1000000 in
theorem nx1_any (s : BitVec 64) (w : World) : Calls Tryz.prog 38 #[.agg (q1 s).cells] w fun e w' => e = .returned (.tuple #[.int .u64 (W64 (split (s + Gm))), .agg (q1 (s + Gm)).cells]) ∧ New w w' := by
  rw [q1_cells, q1_cells]
  have hz := two_blocksG w (.cells #[.int .u64 (W64 s), .int .u64 0, .int .u64 0, .int .u64 0] 53) (.cells #[.int .u64 0, .int .u64 0, .int .u64 0, .int .u64 0] 53)
  have HZ := Lib.hid hz
  clear hz
  go_enter Tryz.func38, Tryz.ntmps38
  go_wp2_with fail
  refine (next_any (W64 s) _ _ (New.refl _)).mono ?_
  rw [ofInt_W64]
  rintro e w' ⟨rfl, hn⟩
  have hy := (hn.block _ (lt_of_block HZ.out.2.1)).trans HZ.out.2.1
  have d0 := cell_of_row _ _ 0 _ _ _ hy
  have d1 := cell_of_row _ _ 1 _ _ _ hy
  have d2 := cell_of_row _ _ 2 _ _ _ hy
  have d3 := cell_of_row _ _ 3 _ _ _ hy
  have df := fun i => frozen_of_row _ _ i _ _ hy
  have HN := Lib.hid (HZ.out.2.2.trans hn)
  clear hy hn HZ
  go_wp2_with fail
  refine bodyPost_ret (by simp [results, Tryz.results38, go_sem, d0, d1, d2, d3]; try rfl) rfl ?_
  exact ⟨rfl, (((HN.out.setCell (by show w.heap.size ≤ w.heap.size + 1; omega) _).setCell (by show w.heap.size ≤ w.heap.size + 1; omega) _).setCell (by show w.heap.size ≤ w.heap.size + 1; omega) _).setCell (by show w.heap.size ≤ w.heap.size + 1; omega) _⟩
theorem nx1 (s : BitVec 64) : NxC 1 (q1 s) (split (s + Gm)) (q1 (s + Gm)) := by
  intro w g h
  cases h with
  | split b h => exact nx1_any s w
  | xosh k hk b h => omega
  | xoro k hk b b4 b5 b6 h h4 h5 h6 => omega
theorem chk1 (s : BitVec 64) : chkK 1 (q1 s) = 0 := by simp [chkK, okK, formK, szK, badK, q1]
theorem st_awake : W64 (split (0#64 + Gm)) = 16294208416658607535 := by decide +kernel
end Go.Proofs.YtoplabhoedloeaaGreat
