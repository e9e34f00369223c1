/- Contracts of xoroshiro.Back, Out and of the document's own Out, for each kind. -/
import Derived.Test.YtfaobdmoifnglaaGreatYoB
namespace Go.Proofs.YtfaobdmoifnglaaGreat
open Go.RowKit Go.Bv
set_option linter.unusedVariables false
set_option maxRecDepth 100000
theorem ret64_0 : Ending.returned (.int .u64 0) = Ending.returned (.int .u64 (W64 0#64)) := by rw [show W64 0#64 = 0 from W64_lit 0 (by omega)]
set_option maxHeartbeats 1000000 in
theorem out_5 : Ot2 81 5 (fun q => ss9 q.a) := by
  intro q w
  obtain ⟨s0, s1⟩ := q
  go_enter Tryz.func81, Tryz.ntmps81
  go_wp2_with (go_at_call 107; refine (rot64_any _ (b64 _) _ _).mono ?_; rintro e w' ⟨rfl, rfl⟩)
  go_ret
  exact ⟨rfl, (New.refl w).alloc _⟩
set_option maxHeartbeats 1000000 in
theorem outr_5 : Ot2 37 5 (fun q => ss9 q.a) := by
  intro q w
  obtain ⟨s0, s1⟩ := q
  go_enter Tryz.func37, Tryz.ntmps37
  go_wp2_with (go_at_call 52; refine (rot64_ref _ (b64 _) _ (by omega) _).mono ?_; rintro e w' ⟨rfl, rfl⟩)
  go_ret
  exact ⟨ret64 (by rw [five]; rfl), (New.refl w).alloc _⟩
set_option maxHeartbeats 1000000 in
theorem out_6 : Ot2 81 6 (fun q => (q.a + q.b).rotateLeft 17 + q.a) := by
  intro q w
  obtain ⟨s0, s1⟩ := q
  go_enter Tryz.func81, Tryz.ntmps81
  go_wp2_with fail
  go_quiet (first | (go_at_call 107; refine Calls.quiet_of_same (rot64_any _ (b64 _) _ _)))
  go_wp2
  go_ret
  exact ⟨rfl, ((New.refl w).alloc _).drewN nq⟩
set_option maxHeartbeats 1000000 in
theorem outr_6 : Ot2 37 6 (fun q => (q.a + q.b).rotateLeft 17 + q.a) := by
  intro q w
  obtain ⟨s0, s1⟩ := q
  go_enter Tryz.func37, Tryz.ntmps37
  go_wp2_with fail
  go_quiet (first | (go_at_call 52; refine Calls.quiet_of_same (rot64_ref _ (b64 _) _ (by omega) _)))
  go_wp2
  go_ret
  exact ⟨rfl, ((New.refl w).alloc _).drewN nq⟩
set_option maxHeartbeats 1000000 in
theorem out_o (k : Int) (h5 : (k == 5) = false) (h6 : (k == 6) = false) : Ot2 81 k (fun _ => 0#64) := by
  intro q w
  obtain ⟨s0, s1⟩ := q
  go_enter Tryz.func81, Tryz.ntmps81
  go_wp2
  go_ret
  exact ⟨ret64_0, (New.refl w).alloc _⟩
set_option maxHeartbeats 1000000 in
theorem outr_o (k : Int) (h5 : (k == 5) = false) (h6 : (k == 6) = false) : Ot2 37 k (fun _ => 0#64) := by
  intro q w
  obtain ⟨s0, s1⟩ := q
  go_enter Tryz.func37, Tryz.ntmps37
  go_wp2
  go_ret
  exact ⟨ret64_0, (New.refl w).alloc _⟩
end Go.Proofs.YtfaobdmoifnglaaGreat
