/- Contracts of xoroshiro.Step and of the document's own Step, for each kind. -/
import Derived.Test.YtfaobdmoifnglaaGreatYoA
namespace Go.Proofs.YtfaobdmoifnglaaGreat
open Go.RowKit Go.Bv
set_option linter.unusedVariables false
set_option maxRecDepth 100000
set_option maxHeartbeats 2000000 in
theorem step_6 : Mv2 77 6 (stp 49 21 28) := by
  intro q w
  obtain ⟨s0, s1⟩ := q
  go_enter Tryz.func77, Tryz.ntmps77
  go_wp2_with fail
  refine (shifts_6 _).mono ?_
  rintro e w' ⟨rfl, hn⟩
  have c0 : w'.cell? ⟨w.heap.size, 0, none⟩ = some (.int .u64 (W64 s0)) := f1 hn 0
  have c1 : w'.cell? ⟨w.heap.size, 1, none⟩ = some (.int .u64 (W64 s1)) := f1 hn 1
  have k0 : w'.cell? ⟨w.heap.size + 1, 0, none⟩ = some (.int .u64 0) := fresh_cell hn 0
  have k1 : w'.cell? ⟨w.heap.size + 1, 1, none⟩ = some (.int .u64 0) := fresh_cell hn 1
  have kf := fresh_free hn
  have hN : New w w' := (((New.refl w).alloc _).alloc _).trans hn
  have g0 := cell_old c0 (.cells #[.int .i64 49, .int .i64 21, .int .i64 28] 120)
  have g1 := cell_old c1 (.cells #[.int .i64 49, .int .i64 21, .int .i64 28] 120)
  have g2 := cell_old k0 (.cells #[.int .i64 49, .int .i64 21, .int .i64 28] 120)
  have g3 := cell_old k1 (.cells #[.int .i64 49, .int .i64 21, .int .i64 28] 120)
  have gf := free_old k0 kf (.cells #[.int .i64 49, .int .i64 21, .int .i64 28] 120)
  have m0 : (w'.alloc (.cells #[.int .i64 49, .int .i64 21, .int .i64 28] 120)).cell? ⟨w'.heap.size, 0, none⟩ = some (.int .i64 49) := by rw [World.cell?_alloc_new]; rfl
  have m1 : (w'.alloc (.cells #[.int .i64 49, .int .i64 21, .int .i64 28] 120)).cell? ⟨w'.heap.size, 1, none⟩ = some (.int .i64 21) := by rw [World.cell?_alloc_new]; rfl
  have m2 : (w'.alloc (.cells #[.int .i64 49, .int .i64 21, .int .i64 28] 120)).cell? ⟨w'.heap.size, 2, none⟩ = some (.int .i64 28) := by rw [World.cell?_alloc_new]; rfl
  have HN := Lib.hid ((hN.alloc (.cells #[.int .i64 49, .int .i64 21, .int .i64 28] 120)).drew)
  clear hN hn c0 c1 k0 k1 kf
  go_wp2_with fail
  generalize w'.heap.size = b5 at m0 m1 m2 ⊢
  generalize w'.alloc (.cells #[.int .i64 49, .int .i64 21, .int .i64 28] 120) = w2 at g0 g1 g2 g3 gf m0 m1 m2 HN ⊢
  refine wp_region_still_tail 17 (by kernel_rfl) (by kernel_rfl) ?_
  change wpStill _ _ w2.drew (fun a' => wpList _ _ _ _ a' w2.drew) _ _
  change w2.drew.cell? _ = _ at g0 g1 g2 g3 m0 m1 m2
  change ∀ i, w2.drew.frozen? _ = _ at gf
  generalize w2.drew = w3 at g0 g1 g2 g3 gf m0 m1 m2 HN ⊢
  simp only [List.take_succ_cons, List.take_zero, List.drop_succ_cons, List.drop_zero]
  repeat (first | still_step | still_call (rot64_any _ (b64 _) _ _))
  refine wpStill_nil ?_
  go_wp2
  refine bodyPost_ret (by simp [results, Tryz.results77, go_sem, g2, g3]; try rfl) rfl ?_
  exact ⟨rfl, (HN.out.setCell (by simp) _).setCell (by simp) _⟩
set_option maxHeartbeats 2000000 in
theorem step_o (k : Int) (h5 : (k == 5) = false) (h6 : (k == 6) = false) : Mv2 77 k id := by
  intro q w
  obtain ⟨s0, s1⟩ := q
  go_enter Tryz.func77, Tryz.ntmps77
  go_wp2_with fail
  refine (shifts_o k h5 h6 _).mono ?_
  rintro e w' ⟨rfl, hn⟩
  have c0 : w'.cell? ⟨w.heap.size, 0, none⟩ = some (.int .u64 (W64 s0)) := f1 hn 0
  have c1 : w'.cell? ⟨w.heap.size, 1, none⟩ = some (.int .u64 (W64 s1)) := f1 hn 1
  have k0 : w'.cell? ⟨w.heap.size + 1, 0, none⟩ = some (.int .u64 0) := fresh_cell hn 0
  have k1 : w'.cell? ⟨w.heap.size + 1, 1, none⟩ = some (.int .u64 0) := fresh_cell hn 1
  have kf := fresh_free hn
  have hN : New w w' := (((New.refl w).alloc _).alloc _).trans hn
  have g0 := cell_old c0 (.cells #[.int .i64 0, .int .i64 0, .int .i64 0] 120)
  have g1 := cell_old c1 (.cells #[.int .i64 0, .int .i64 0, .int .i64 0] 120)
  have g2 := cell_old k0 (.cells #[.int .i64 0, .int .i64 0, .int .i64 0] 120)
  have g3 := cell_old k1 (.cells #[.int .i64 0, .int .i64 0, .int .i64 0] 120)
  have gf := free_old k0 kf (.cells #[.int .i64 0, .int .i64 0, .int .i64 0] 120)
  have HN := Lib.hid (hN.alloc (.cells #[.int .i64 0, .int .i64 0, .int .i64 0] 120))
  clear hN hn c0 c1 k0 k1 kf
  go_wp2
  refine bodyPost_ret (by simp [results, Tryz.results77, go_sem, g2, g3]; try rfl) rfl ?_
  exact ⟨rfl, (HN.out.setCell (by simp) _).setCell (by simp) _⟩
theorem mulk_5 (x : BitVec 64) : x * 65536#64 = x <<< 16 := by
  rw [show (65536#64 : BitVec 64) = 1#64 <<< 16 from rfl, mul_shl]
set_option maxHeartbeats 2000000 in
theorem stepr_5 : Mv2 42 5 (stp 24 16 37) := by
  intro q w
  obtain ⟨s0, s1⟩ := q
  go_enter Tryz.func42, Tryz.ntmps42
  go_wp2_with (go_at_call 52; refine (rot64_ref _ (b64 _) _ (by omega) _).mono ?_; rintro e w' ⟨rfl, rfl⟩)
  go_returns
  exact ⟨by rw [mulk_5]; rfl, ((New.refl w).alloc _).alloc _⟩
theorem mulk_6 (x : BitVec 64) : x * 2097152#64 = x <<< 21 := by
  rw [show (2097152#64 : BitVec 64) = 1#64 <<< 21 from rfl, mul_shl]
set_option maxHeartbeats 2000000 in
theorem stepr_6 : Mv2 42 6 (stp 49 21 28) := by
  intro q w
  obtain ⟨s0, s1⟩ := q
  go_enter Tryz.func42, Tryz.ntmps42
  go_wp2_with (go_at_call 52; refine (rot64_ref _ (b64 _) _ (by omega) _).mono ?_; rintro e w' ⟨rfl, rfl⟩)
  go_returns
  exact ⟨by rw [mulk_6]; rfl, ((New.refl w).alloc _).alloc _⟩
set_option maxHeartbeats 2000000 in
theorem stepr_o (k : Int) (h5 : (k == 5) = false) (h6 : (k == 6) = false) : Mv2 42 k id := by
  intro q w
  obtain ⟨s0, s1⟩ := q
  go_enter Tryz.func42, Tryz.ntmps42
  go_wp2
  go_returns
  exact ⟨rfl, ((New.refl w).alloc _).alloc _⟩
end Go.Proofs.YtfaobdmoifnglaaGreat
