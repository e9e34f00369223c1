/- Contracts of the document's own Step and Out, of SS, PP, P; the walk of the statement XoshiroTells. -/
import Derived.Test.YtoplabhoedloeaaGreatXoA
import Derived.Deep.RegionHeld3
import Derived.Deep.RegionWith
import Derived.StillTailTactics
namespace Go.Proofs.YtoplabhoedloeaaGreat
open Go.RowKit Go.Bv
set_option linter.unusedVariables false
theorem mul_17 (x : BitVec 64) : x * 131072#64 = x <<< 17 := by
  rw [show (131072#64 : BitVec 64) = 1#64 <<< 17 from rfl, mul_shl]
/-- what is told: 2 by **, 3 by ++, else by + -/
def ss9 (s1 : BitVec 64) : BitVec 64 := (s1 * 5#64).rotateLeft 7 * 9#64
def pp9 (s0 s3 : BitVec 64) : BitVec 64 := (s0 + s3).rotateLeft 23 + s0
theorem five (x : BitVec 64) : x + x * 4#64 = x * 5#64 := by grind
set_option maxHeartbeats 400000 in
theorem ss_any (s0 s1 s2 s3 : BitVec 64) (w : World) :
    Calls Tryz.prog 46 #[.agg #[.int .u64 (W64 s0), .int .u64 (W64 s1), .int .u64 (W64 s2), .int .u64 (W64 s3)]] w fun e w' => e = .returned (.int .u64 (W64 (ss9 s1))) ∧ New w w' := by
  go_enter Tryz.func46, Tryz.ntmps46
  go_wp2_with (go_at_call 94; refine (rot64_any _ (b64 _) _ _).mono ?_; rintro e w' ⟨rfl, rfl⟩)
  go_ret
  exact ⟨rfl, (New.refl w).alloc _⟩
theorem fresh_cell {w w' : World} {o : Obj} {cs : Array Value} {t : TypeId} (hn : New ((w.alloc o).alloc (.cells cs t)) w') (i : Nat) : w'.cell? ⟨w.heap.size + 1, i, none⟩ = cs[i]? := by
  rw [hn.cell (a := ⟨w.heap.size + 1, i, none⟩) (by simp)]
  exact cell_of_row _ _ _ cs t (0, 0) (heap_alloc2_new w o (.cells cs t))
theorem fresh_free {w w' : World} {o : Obj} {cs : Array Value} {t : TypeId} (hn : New ((w.alloc o).alloc (.cells cs t)) w') (i : Nat) : w'.frozen? ⟨w.heap.size + 1, i, none⟩ = false := by
  rw [hn.frozen (a := ⟨w.heap.size + 1, i, none⟩) (by simp)]
  exact frozen_of_row _ _ _ cs t (heap_alloc2_new w o (.cells cs t))
set_option maxHeartbeats 400000 in
theorem step_any9 (s0 s1 s2 s3 : BitVec 64) (w : World) :
    Calls Tryz.prog 95 #[.agg #[.int .u64 (W64 s0), .int .u64 (W64 s1), .int .u64 (W64 s2), .int .u64 (W64 s3)]] w fun e w' =>
      e = .returned (.agg #[.int .u64 (W64 (s0 ^^^ (s3 ^^^ s1))), .int .u64 (W64 (s1 ^^^ (s2 ^^^ s0))), .int .u64 (W64 ((s2 ^^^ s0) ^^^ s1 <<< 17)), .int .u64 (W64 ((s3 ^^^ s1).rotateLeft 45))]) ∧ New w w' := by
  go_enter Tryz.func95, Tryz.ntmps95
  go_wp2_with fail
  refine (step_m _ _ _ _ _).mono ?_
  rintro e w' ⟨rfl, hn⟩
  have k0 : w'.cell? ⟨w.heap.size + 1, 0, none⟩ = some (.int .u64 0) := fresh_cell hn 0
  have k1 : w'.cell? ⟨w.heap.size + 1, 1, none⟩ = some (.int .u64 0) := fresh_cell hn 1
  have k2 : w'.cell? ⟨w.heap.size + 1, 2, none⟩ = some (.int .u64 0) := fresh_cell hn 2
  have k3 : w'.cell? ⟨w.heap.size + 1, 3, none⟩ = some (.int .u64 0) := fresh_cell hn 3
  have kf := fresh_free hn
  have hN : New w w' := (((New.refl w).alloc _).alloc _).trans hn
  have HN := Lib.hid hN
  clear hN hn
  go_wp2
  refine bodyPost_ret (by simp [results, Tryz.results95, go_sem, k0, k1, k2, k3]; try rfl) rfl ?_
  exact ⟨rfl, (((HN.out.setCell (by simp) _).setCell (by simp) _).setCell (by simp) _).setCell (by simp) _⟩
set_option maxHeartbeats 1000000 in
theorem pp_any (s0 s1 s2 s3 : BitVec 64) (w : World) :
    Calls Tryz.prog 47 #[.agg #[.int .u64 (W64 s0), .int .u64 (W64 s1), .int .u64 (W64 s2), .int .u64 (W64 s3)]] w fun e w' => e = .returned (.int .u64 (W64 (pp9 s0 s3))) ∧ New w w' := by
  go_enter Tryz.func47, Tryz.ntmps47
  go_wp2_with fail
  go_region_held3 (fun w' => w'.cell? ⟨w.heap.size, 0, none⟩ = some (.int .u64 (W64 s0)) ∧ w'.cell? ⟨w.heap.size, 1, none⟩ = some (.int .u64 (W64 s1)) ∧ w'.cell? ⟨w.heap.size, 2, none⟩ = some (.int .u64 (W64 s2)) ∧ w'.cell? ⟨w.heap.size, 3, none⟩ = some (.int .u64 (W64 s3))) (go_keep)
    (first | (go_at_call 94; refine (rot64_any _ (b64 _) _ _).mono ?_; rintro e w' ⟨rfl, rfl⟩))
  go_wp2
  go_ret
  exact ⟨rfl, ((New.refl w).alloc _).drew⟩
set_option maxHeartbeats 1000000 in
theorem p_any (s0 s1 s2 s3 : BitVec 64) (w : World) :
    Calls Tryz.prog 45 #[.agg #[.int .u64 (W64 s0), .int .u64 (W64 s1), .int .u64 (W64 s2), .int .u64 (W64 s3)]] w fun e w' => e = .returned (.int .u64 (W64 (s0 + s3))) ∧ New w w' := by
  go_enter Tryz.func45, Tryz.ntmps45
  go_wp2_with fail
  go_ret
  exact ⟨rfl, (New.refl w).alloc _⟩
end Go.Proofs.YtoplabhoedloeaaGreat
