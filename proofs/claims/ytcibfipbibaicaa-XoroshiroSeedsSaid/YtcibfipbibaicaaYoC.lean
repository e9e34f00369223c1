/- Contracts of xoroshiro.Back, Out and of the document's own Out, for each kind. -/
import Derived.Test.YtcibfipbibaicaaYoB
namespace Go.Proofs.Ytcibfipbibaicaa
open Go.RowKit Go.Bv
set_option linter.unusedVariables false
set_option maxHeartbeats 2000000 in
theorem back_5 : Mv2 32 5 (bck 40 16 27) := by
  intro q w
  obtain ⟨s0, s1⟩ := q
  go_enter Try.func32, Try.ntmps32
  go_wp2_with fail
  refine (shifts_5 _).mono ?_
  rintro e w' ⟨rfl, hn⟩
  have c0 : w'.cell? ⟨w.heap.size, 0, none⟩ = some (.int .u64 (W64 s0)) := f1 hn 0
  have c1 : w'.cell? ⟨w.heap.size, 1, none⟩ = some (.int .u64 (W64 s1)) := f1 hn 1
  have k0 : w'.cell? ⟨w.heap.size + 1, 0, none⟩ = some (.int .u64 0) := fresh_cell hn 0
  have k1 : w'.cell? ⟨w.heap.size + 1, 1, none⟩ = some (.int .u64 0) := fresh_cell hn 1
  have kf := fresh_free hn
  have hN : New w w' := (((New.refl w).alloc _).alloc _).trans hn
  have g0 := cell_old c0 (.cells #[.int .i64 24, .int .i64 16, .int .i64 37] 51)
  have g1 := cell_old c1 (.cells #[.int .i64 24, .int .i64 16, .int .i64 37] 51)
  have g2 := cell_old k0 (.cells #[.int .i64 24, .int .i64 16, .int .i64 37] 51)
  have g3 := cell_old k1 (.cells #[.int .i64 24, .int .i64 16, .int .i64 37] 51)
  have gf := free_old k0 kf (.cells #[.int .i64 24, .int .i64 16, .int .i64 37] 51)
  have m0 : (w'.alloc (.cells #[.int .i64 24, .int .i64 16, .int .i64 37] 51)).cell? ⟨w'.heap.size, 0, none⟩ = some (.int .i64 24) := by rw [World.cell?_alloc_new]; rfl
  have m1 : (w'.alloc (.cells #[.int .i64 24, .int .i64 16, .int .i64 37] 51)).cell? ⟨w'.heap.size, 1, none⟩ = some (.int .i64 16) := by rw [World.cell?_alloc_new]; rfl
  have m2 : (w'.alloc (.cells #[.int .i64 24, .int .i64 16, .int .i64 37] 51)).cell? ⟨w'.heap.size, 2, none⟩ = some (.int .i64 37) := by rw [World.cell?_alloc_new]; rfl
  have HN := Lib.hid ((hN.alloc (.cells #[.int .i64 24, .int .i64 16, .int .i64 37] 51)))
  clear hN hn c0 c1 k0 k1 kf
  go_wp2_with (go_at_call 39; refine (rot64_any _ (b64 _) _ _).mono ?_; rintro e w' ⟨rfl, rfl⟩)
  go_quiet (first | (go_at_call 39; refine Calls.quiet_of_same (rot64_any _ (b64 _) _ _)))
  go_wp2
  refine bodyPost_ret (by simp [results, Try.results32, go_sem, g2, g3]; try rfl) rfl ?_
  exact ⟨rfl, ((HN.out.drewN nq).setCell (by simp) _).setCell (by simp) _⟩
set_option maxHeartbeats 2000000 in
theorem back_6 : Mv2 32 6 (bck 15 21 36) := by
  intro q w
  obtain ⟨s0, s1⟩ := q
  go_enter Try.func32, Try.ntmps32
  go_wp2_with fail
  refine (shifts_6 _).mono ?_
  rintro e w' ⟨rfl, hn⟩
  have c0 : w'.cell? ⟨w.heap.size, 0, none⟩ = some (.int .u64 (W64 s0)) := f1 hn 0
  have c1 : w'.cell? ⟨w.heap.size, 1, none⟩ = some (.int .u64 (W64 s1)) := f1 hn 1
  have k0 : w'.cell? ⟨w.heap.size + 1, 0, none⟩ = some (.int .u64 0) := fresh_cell hn 0
  have k1 : w'.cell? ⟨w.heap.size + 1, 1, none⟩ = some (.int .u64 0) := fresh_cell hn 1
  have kf := fresh_free hn
  have hN : New w w' := (((New.refl w).alloc _).alloc _).trans hn
  have g0 := cell_old c0 (.cells #[.int .i64 49, .int .i64 21, .int .i64 28] 51)
  have g1 := cell_old c1 (.cells #[.int .i64 49, .int .i64 21, .int .i64 28] 51)
  have g2 := cell_old k0 (.cells #[.int .i64 49, .int .i64 21, .int .i64 28] 51)
  have g3 := cell_old k1 (.cells #[.int .i64 49, .int .i64 21, .int .i64 28] 51)
  have gf := free_old k0 kf (.cells #[.int .i64 49, .int .i64 21, .int .i64 28] 51)
  have m0 : (w'.alloc (.cells #[.int .i64 49, .int .i64 21, .int .i64 28] 51)).cell? ⟨w'.heap.size, 0, none⟩ = some (.int .i64 49) := by rw [World.cell?_alloc_new]; rfl
  have m1 : (w'.alloc (.cells #[.int .i64 49, .int .i64 21, .int .i64 28] 51)).cell? ⟨w'.heap.size, 1, none⟩ = some (.int .i64 21) := by rw [World.cell?_alloc_new]; rfl
  have m2 : (w'.alloc (.cells #[.int .i64 49, .int .i64 21, .int .i64 28] 51)).cell? ⟨w'.heap.size, 2, none⟩ = some (.int .i64 28) := by rw [World.cell?_alloc_new]; rfl
  have HN := Lib.hid ((hN.alloc (.cells #[.int .i64 49, .int .i64 21, .int .i64 28] 51)))
  clear hN hn c0 c1 k0 k1 kf
  go_wp2_with (go_at_call 39; refine (rot64_any _ (b64 _) _ _).mono ?_; rintro e w' ⟨rfl, rfl⟩)
  go_quiet (first | (go_at_call 39; refine Calls.quiet_of_same (rot64_any _ (b64 _) _ _)))
  go_wp2
  refine bodyPost_ret (by simp [results, Try.results32, go_sem, g2, g3]; try rfl) rfl ?_
  exact ⟨rfl, ((HN.out.drewN nq).setCell (by simp) _).setCell (by simp) _⟩
set_option maxHeartbeats 2000000 in
theorem back_o (k : Int) (h5 : (k == 5) = false) (h6 : (k == 6) = false) : Mv2 32 k id := by
  intro q w
  obtain ⟨s0, s1⟩ := q
  go_enter Try.func32, Try.ntmps32
  go_wp2_with fail
  refine (shifts_o k h5 h6 _).mono ?_
  rintro e w' ⟨rfl, hn⟩
  have c0 : w'.cell? ⟨w.heap.size, 0, none⟩ = some (.int .u64 (W64 s0)) := f1 hn 0
  have c1 : w'.cell? ⟨w.heap.size, 1, none⟩ = some (.int .u64 (W64 s1)) := f1 hn 1
  have k0 : w'.cell? ⟨w.heap.size + 1, 0, none⟩ = some (.int .u64 0) := fresh_cell hn 0
  have k1 : w'.cell? ⟨w.heap.size + 1, 1, none⟩ = some (.int .u64 0) := fresh_cell hn 1
  have kf := fresh_free hn
  have hN : New w w' := (((New.refl w).alloc _).alloc _).trans hn
  have g0 := cell_old c0 (.cells #[.int .i64 0, .int .i64 0, .int .i64 0] 51)
  have g1 := cell_old c1 (.cells #[.int .i64 0, .int .i64 0, .int .i64 0] 51)
  have g2 := cell_old k0 (.cells #[.int .i64 0, .int .i64 0, .int .i64 0] 51)
  have g3 := cell_old k1 (.cells #[.int .i64 0, .int .i64 0, .int .i64 0] 51)
  have gf := free_old k0 kf (.cells #[.int .i64 0, .int .i64 0, .int .i64 0] 51)
  have HN := Lib.hid (hN.alloc (.cells #[.int .i64 0, .int .i64 0, .int .i64 0] 51))
  clear hN hn c0 c1 k0 k1 kf
  go_wp2
  refine bodyPost_ret (by simp [results, Try.results32, go_sem, g2, g3]; try rfl) rfl ?_
  exact ⟨rfl, (HN.out.setCell (by simp) _).setCell (by simp) _⟩
theorem ret64_0 : Ending.returned (.int .u64 0) = Ending.returned (.int .u64 (W64 0#64)) := by rw [show W64 0#64 = 0 from W64_lit 0 (by omega)]
set_option maxHeartbeats 1000000 in
theorem out_5 : Ot2 28 5 (fun q => ss9 q.a) := by
  intro q w
  obtain ⟨s0, s1⟩ := q
  go_enter Try.func28, Try.ntmps28
  go_wp2_with (go_at_call 39; refine (rot64_any _ (b64 _) _ _).mono ?_; rintro e w' ⟨rfl, rfl⟩)
  go_ret
  exact ⟨rfl, (New.refl w).alloc _⟩
set_option maxHeartbeats 1000000 in
theorem outr_5 : Ot2 29 5 (fun q => ss9 q.a) := by
  intro q w
  obtain ⟨s0, s1⟩ := q
  go_enter Try.func29, Try.ntmps29
  go_wp2_with (go_at_call 38; refine (rot64_ref _ (b64 _) _ (by omega) _).mono ?_; rintro e w' ⟨rfl, rfl⟩)
  go_ret
  exact ⟨ret64 (by rw [five]; rfl), (New.refl w).alloc _⟩
set_option maxHeartbeats 1000000 in
theorem out_6 : Ot2 28 6 (fun q => (q.a + q.b).rotateLeft 17 + q.a) := by
  intro q w
  obtain ⟨s0, s1⟩ := q
  go_enter Try.func28, Try.ntmps28
  go_wp2_with fail
  go_quiet (first | (go_at_call 39; refine Calls.quiet_of_same (rot64_any _ (b64 _) _ _)))
  go_wp2
  go_ret
  exact ⟨rfl, ((New.refl w).alloc _).drewN nq⟩
set_option maxHeartbeats 1000000 in
theorem outr_6 : Ot2 29 6 (fun q => (q.a + q.b).rotateLeft 17 + q.a) := by
  intro q w
  obtain ⟨s0, s1⟩ := q
  go_enter Try.func29, Try.ntmps29
  go_wp2_with fail
  go_quiet (first | (go_at_call 38; refine Calls.quiet_of_same (rot64_ref _ (b64 _) _ (by omega) _)))
  go_wp2
  go_ret
  exact ⟨rfl, ((New.refl w).alloc _).drewN nq⟩
set_option maxHeartbeats 1000000 in
theorem out_o (k : Int) (h5 : (k == 5) = false) (h6 : (k == 6) = false) : Ot2 28 k (fun _ => 0#64) := by
  intro q w
  obtain ⟨s0, s1⟩ := q
  go_enter Try.func28, Try.ntmps28
  go_wp2
  go_ret
  exact ⟨ret64_0, (New.refl w).alloc _⟩
set_option maxHeartbeats 1000000 in
theorem outr_o (k : Int) (h5 : (k == 5) = false) (h6 : (k == 6) = false) : Ot2 29 k (fun _ => 0#64) := by
  intro q w
  obtain ⟨s0, s1⟩ := q
  go_enter Try.func29, Try.ntmps29
  go_wp2
  go_ret
  exact ⟨ret64_0, (New.refl w).alloc _⟩
end Go.Proofs.Ytcibfipbibaicaa
