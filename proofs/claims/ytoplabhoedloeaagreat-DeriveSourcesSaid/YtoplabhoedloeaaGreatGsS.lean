/- The statement GensSeeds: for every kind and every number. -/
import Derived.Test.YtoplabhoedloeaaGreatGsP
namespace Go.Proofs.YtoplabhoedloeaaGreat
open Go.RowKit Go.Bv
set_option linter.unusedVariables false
set_option maxRecDepth 100000
set_option maxHeartbeats 1000000 in
theorem new_no (k : Int) (n : BitVec 64) (hk : okK k = false) (w : World) : Calls Tryz.prog 10 #[.int .i64 k, .int .u64 (W64 n)] w fun e w' => e = .returned (.tuple #[.agg zst, .int .i64 6]) ∧ New w w' := by
  have hz := heap_alloc_new w (.cells zst 28)
  have HZ := Lib.hid hz
  clear hz
  go_enter Tryz.func10, Tryz.ntmps10
  go_wp2_with fail
  refine (gen_of k _).mono ?_
  rintro e w' ⟨⟨cs, rfl, hv⟩, hn⟩
  obtain rfl : cs = gzc := by
    rcases hv with h | h
    · rw [hk] at h; exact absurd h.1 (by simp)
    · exact h.2
  rw [hk]
  clear hv
  have n2 := hn.alloc (.cells gzc 50)
  have hy := (n2.block _ (lt_of_block HZ.out)).trans HZ.out
  have d0 := cell_of_row _ _ 0 _ _ _ hy
  have d1 := cell_of_row _ _ 1 _ _ _ hy
  have d2 := cell_of_row _ _ 2 _ _ _ hy
  have d3 := cell_of_row _ _ 3 _ _ _ hy
  have d4 := cell_of_row _ _ 4 _ _ _ hy
  have df := fun i => frozen_of_row _ _ i _ _ hy
  have HN := Lib.hid (((New.refl w).alloc (.cells zst 28)).trans n2)
  have HY := Lib.hid hy
  clear hy n2 hn
  go_wp2_with fail
  have hp := put5_facts (.int .i64 0) (.int .u64 0) (.int .u64 0) (.int .u64 0) (.int .u64 0) HY.out
  refine bodyPost_ret (by simp [results, Tryz.results10, go_sem, d0, d1, d2, d3, d4]; try rfl) rfl ?_
  exact ⟨rfl, hp.2.2.1 _ HN.out (by omega)⟩
theorem szK_none {k : Int} (h : okK k = false) : szK k = 0 := by
  unfold okK at h; simp at h
  unfold szK
  rw [if_neg (by omega), if_neg (by omega), if_neg (by omega)]
end Go.Proofs.YtoplabhoedloeaaGreat
