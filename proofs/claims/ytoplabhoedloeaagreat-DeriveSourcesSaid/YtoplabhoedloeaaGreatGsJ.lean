/- All generators: the seeds of kinds 2 to 7. -/
import Derived.Test.YtoplabhoedloeaaGreatGsH
import Derived.Test.YtoplabhoedloeaaGreatYoS
import Derived.Test.YtoplabhoedloeaaGreatPcgA
namespace Go.Proofs.YtoplabhoedloeaaGreat
open Go.RowKit Go.Bv
set_option linter.unusedVariables false
set_option maxRecDepth 100000
def w9 (q : Q4) : W4 := ⟨q.a, q.b, q.c, q.d⟩
def w10 (q : Q2) : W4 := ⟨q.a, q.b, 0#64, 0#64⟩
theorem w10_cells (q : Q2) : (w10 q).cells = #[.int .u64 (W64 q.a), .int .u64 (W64 q.b), .int .u64 0, .int .u64 0] := by
  show #[Value.int .u64 (W64 q.a), .int .u64 (W64 q.b), .int .u64 (W64 0#64), .int .u64 (W64 0#64)] = _
  rw [W64z]
abbrev zw : Array Value := #[.int .u64 0, .int .u64 0, .int .u64 0, .int .u64 0]
set_option maxHeartbeats 1000000 in
theorem sdX_any (n : BitVec 64) (w : World) : Calls Tryz.prog 49 #[.int .u64 (W64 n)] w fun e w' => e = .returned (.agg (w9 (sd9 n)).cells) ∧ New w w' := by
  have hz := heap_alloc_new w (.cells zw 53)
  have HZ := Lib.hid hz
  clear hz
  go_enter Tryz.func49, Tryz.ntmps49
  go_wp2_with fail
  refine (seed_any9 n _).mono ?_
  rintro e w' ⟨rfl, hn⟩
  have hy := (hn.block _ (lt_of_block HZ.out)).trans HZ.out
  have d0 := cell_of_row _ _ 0 _ _ _ hy
  have d1 := cell_of_row _ _ 1 _ _ _ hy
  have d2 := cell_of_row _ _ 2 _ _ _ hy
  have d3 := cell_of_row _ _ 3 _ _ _ hy
  have df := fun i => frozen_of_row _ _ i _ _ hy
  have HN := Lib.hid (((New.refl w).alloc _).trans hn)
  clear hy hn HZ
  go_wp2_with fail
  refine bodyPost_ret (by simp [results, Tryz.results49, go_sem, d0, d1, d2, d3]; try rfl) rfl ?_
  exact ⟨rfl, (((HN.out.setCell (by show w.heap.size ≤ w.heap.size; omega) _).setCell (by show w.heap.size ≤ w.heap.size; omega) _).setCell (by show w.heap.size ≤ w.heap.size; omega) _).setCell (by show w.heap.size ≤ w.heap.size; omega) _⟩
theorem sdX (k : Int) (hk : k = 2 ∨ k = 3 ∨ k = 4) (n : BitVec 64) : SdC k n (w9 (sd9 n)) := by
  intro w g h
  cases h with
  | split b h => omega
  | xosh k hk b h => exact sdX_any n w
  | xoro k hk b b4 b5 b6 h h4 h5 h6 => omega
  | pcg32 => omega
  | pcg64 => omega
set_option maxHeartbeats 1000000 in
theorem four_any (q : Q2) (w : World) : Calls Tryz.prog 55 #[.agg #[.int .u64 (W64 q.a), .int .u64 (W64 q.b)]] w fun e w' => e = .returned (.agg (w10 q).cells) ∧ New w w' := by
  rw [w10_cells]
  go_enter Tryz.func55, Tryz.ntmps55
  go_wp2_with fail
  go_returns
  exact ⟨rfl, ((New.refl w).alloc _).alloc _⟩
set_option maxHeartbeats 1000000 in
theorem two_any (q : W4) (w : World) : Calls Tryz.prog 54 #[.agg q.cells] w fun e w' => e = .returned (.agg #[.int .u64 (W64 q.a), .int .u64 (W64 q.b)]) ∧ New w w' := by
  go_enter Tryz.func54, Tryz.ntmps54
  go_wp2_with fail
  go_returns
  exact ⟨rfl, ((New.refl w).alloc _).alloc _⟩
set_option maxHeartbeats 2000000 in
theorem sdO_any (b5 : Nat) (n : BitVec 64) (w : World) (h5 : w.heap[b5]? = some (.cells #[.func (Fn.func 55) #[] #[]] 92 (0, 0))) :
    Calls Tryz.prog 58 #[.int .u64 (W64 n), ptv b5] w fun e w' => e = .returned (.agg (w10 (sd10 n)).cells) ∧ New w w' := by
  unfold ptv
  have hb := heap_alloc_new w (.cells zw 53)
  have n3 : New w (w.alloc (.cells zw 53)) := (New.refl w).alloc _
  have h6 := (n3.block _ (lt_of_block h5)).trans h5
  have HF := Lib.hid (fun w => four_any (sd10 n) w)
  have HS := Lib.hid (fun w => seed_any10 n w)
  have HN3 := Lib.hid n3
  clear h5 n3
  go_enter Tryz.func58, Tryz.ntmps58
  go_wp2_with fail
  generalize w.alloc (.cells #[.int .u64 0, .int .u64 0, .int .u64 0, .int .u64 0] 53) = w3 at *
  generalize hbb : w.heap.size = bb at *
  have c0 := cell_of_row _ _ 0 _ _ _ h6
  go_region_with (first
      | (go_at_call 55
         refine (HF.out _).mono ?_
         rintro e w4 ⟨rfl, hn4⟩
         have hn5 : New w3 w4 := New.trans (by assumption) hn4
         clear hn4
         have hy := (hn5.block _ (lt_of_block hb)).trans hb
         have d0 := cell_of_row _ _ 0 _ _ _ hy
         have d1 := cell_of_row _ _ 1 _ _ _ hy
         have d2 := cell_of_row _ _ 2 _ _ _ hy
         have d3 := cell_of_row _ _ 3 _ _ _ hy
         have df := fun i => frozen_of_row _ _ i _ _ hy)
      | (go_at_call 59
         refine (HS.out _).mono ?_
         rintro e w4 ⟨rfl, hn4⟩
         have hn5 : New w3 w4 := (New.refl w3).drew.trans hn4
         clear hn4
         have c0 := cell_of_row _ _ 0 _ _ _ ((hn5.block _ (lt_of_block h6)).trans h6)))
  all_goals
    have HN := Lib.hid (HN3.out.trans hn5)
    clear hn5 c0 h6 hb HF HS
    go_wp2
    refine bodyPost_ret (by simp [results, Tryz.results58, go_sem, d0, d1, d2, d3]; try rfl) rfl ?_
    exact ⟨rfl, (((HN.out.setCell (by show w.heap.size ≤ bb; omega) _).setCell (by show w.heap.size ≤ bb; omega) _).setCell (by show w.heap.size ≤ bb; omega) _).setCell (by show w.heap.size ≤ bb; omega) _⟩
theorem sdO (k : Int) (hk : k = 5 ∨ k = 6) (n : BitVec 64) : SdC k n (w10 (sd10 n)) := by
  intro w g h
  cases h with
  | split b h => omega
  | xosh k hk b h => omega
  | xoro k hk b b4 b5 b6 h h4 h5 h6 => exact sdO_any b5 n w h5
  | pcg32 => omega
  | pcg64 => omega
end Go.Proofs.YtoplabhoedloeaaGreat
