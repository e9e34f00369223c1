/- Layer 45: the laws' wakefulness. -/
import Derived.Test.YtoplabhoedloeaaDrvQ
namespace Go.Proofs.Ytoplabhoedloeaa
open Go Go.RowKit Go.Bv Go.Drv
set_option linter.unusedVariables false
set_option maxRecDepth 100000
theorem kid_a : kidL (1#64, 2#64) (pts [97]) = (9624342580668418083#64, 972729733768659611#64) := by decide +kernel
theorem path_empty (w : World) (hx : MaxL w) : Calls Try.prog 14 #[.agg #[.int .u64 1, .int .u64 2], .string ⟨#[]⟩] w fun e w' => e = .returned (.tuple #[.agg #[.int .u64 1, .int .u64 2], .int .i64 0]) ∧ New w w' :=
  path_yes (1#64, 2#64) [] (by decide) (by decide +kernel) w hx
theorem path_a (w : World) (hx : MaxL w) : Calls Try.prog 14 #[.agg #[.int .u64 1, .int .u64 2], .string ⟨#[97]⟩] w fun e w' => e = .returned (.tuple #[.agg #[.int .u64 9624342580668418083, .int .u64 972729733768659611], .int .i64 0]) ∧ New w w' := by
  have h := path_yes (1#64, 2#64) [97] (by decide) (by decide +kernel) w hx
  rw [kid_a] at h
  exact h
set_option maxHeartbeats 2000000 in
theorem awake_q (w : World) (hx : MaxL w) : Calls Try.prog 6 #[] w fun e w' => e = .returned (.bool true) ∧ New w w' := by
  have HX := Lib.hid hx
  have HP0 := Lib.hid (fun (w' : World) (hn : New w w') => path_empty w' (hx.stay hn))
  have HP1 := Lib.hid (fun (w' : World) (hn : New w w') => path_a w' (hx.stay hn))
  clear hx
  go_enter Try.func6, Try.ntmps6
  go_wp2_with fail
  have hb1 := heap_alloc_new w (.cells #[.int .u64 1, .int .u64 2] 24)
  have hn1 := (New.refl w).alloc (.cells #[.int .u64 1, .int .u64 2] 24)
  obtain ⟨b1, hb1e⟩ : ∃ b, w.heap.size = b := ⟨_, rfl⟩
  rw [hb1e] at hb1
  rw [hb1e]
  generalize w.alloc (.cells #[.int .u64 1, .int .u64 2] 24) = w1 at *
  have k0 := cell_of_row _ _ 0 _ _ _ hb1
  have k1 := cell_of_row _ _ 1 _ _ _ hb1
  go_wp2_with fail
  refine (HP0.out _ hn1).mono ?_
  rintro e w2 ⟨rfl, hn2⟩
  have hb2 := (hn2.block _ (lt_of_block hb1)).trans hb1
  have hn3 := hn1.trans hn2
  clear hb1 hn1 hn2 k0 k1
  have hc1 := heap_alloc_new w2 (.cells #[.int .u64 1, .int .u64 2] 24)
  have hm1 := (New.refl w2).alloc (.cells #[.int .u64 1, .int .u64 2] 24)
  have hc0 := (hm1.block _ (lt_of_block hb2)).trans hb2
  have hm2 := hn3.trans hm1
  have m0 := cell_of_row _ _ 0 _ _ _ hc0
  have m1 := cell_of_row _ _ 1 _ _ _ hc0
  clear hm1 hb2 hn3
  go_wp2_with fail
  obtain ⟨b2, hb2e⟩ : ∃ b, w2.heap.size = b := ⟨_, rfl⟩
  rw [hb2e] at hc1
  rw [hb2e]
  generalize w2.alloc (.cells #[.int .u64 1, .int .u64 2] 24) = w3 at *
  refine (HP1.out _ hm2).mono ?_
  rintro e w4 ⟨rfl, hn4⟩
  have hd0 := (hn4.block _ (lt_of_block hc0)).trans hc0
  have hd1 := (hn4.block _ (lt_of_block hc1)).trans hc1
  have hm4 := hm2.trans hn4
  clear hc0 hc1 hm2 hn4 m0 m1
  have he2 := heap_alloc_new w4 (.cells #[.int .u64 9624342580668418083, .int .u64 972729733768659611] 24)
  have hn5 := (New.refl w4).alloc (.cells #[.int .u64 9624342580668418083, .int .u64 972729733768659611] 24)
  have he0 := (hn5.block _ (lt_of_block hd0)).trans hd0
  have he1 := (hn5.block _ (lt_of_block hd1)).trans hd1
  have hm5 := hm4.trans hn5
  have q0 := cell_of_row _ _ 0 _ _ _ he0
  have q1 := cell_of_row _ _ 1 _ _ _ he0
  have q2 := cell_of_row _ _ 0 _ _ _ he1
  have q3 := cell_of_row _ _ 1 _ _ _ he1
  have q4 := cell_of_row _ _ 0 _ _ _ he2
  have q5 := cell_of_row _ _ 1 _ _ _ he2
  clear hd0 hd1 hm4 hn5 he0 he1 he2
  go_wp2
  go_ret
  exact ⟨rfl, hm5⟩
end Go.Proofs.Ytoplabhoedloeaa
