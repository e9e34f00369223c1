/- Contracts of package xoshiro: one step, what is told; and of the document's own. -/
import Derived.Test.YtoplabhoedloeaaGreatProg
import Derived.Test.YtoplabhoedloeaaGreatRot64
import Derived.Test.YtoplabhoedloeaaGreatFrame
import Derived.Handy
namespace Go.Proofs.YtoplabhoedloeaaGreat
open Go.RowKit Go.Bv
set_option linter.unusedVariables false
set_option maxHeartbeats 1000000 in
theorem step_m (s0 s1 s2 s3 : BitVec 64) (w : World) :
    Calls Tryz.prog 130 #[.agg #[.int .u64 (W64 s0), .int .u64 (W64 s1), .int .u64 (W64 s2), .int .u64 (W64 s3)]] w fun e w' =>
      e = .returned (.agg #[.int .u64 (W64 (s0 ^^^ (s3 ^^^ s1))), .int .u64 (W64 (s1 ^^^ (s2 ^^^ s0))), .int .u64 (W64 ((s2 ^^^ s0) ^^^ s1 <<< 17)), .int .u64 (W64 ((s3 ^^^ s1).rotateLeft 45))]) ∧ New w w' := by
  go_enter Tryz.func130, Tryz.ntmps130
  go_wp2_with (go_at_call 94; refine (rot64_any _ (b64 _) _ _).mono ?_; rintro e w' ⟨rfl, rfl⟩)
  go_returns
  exact ⟨rfl, ((New.refl w).alloc _).alloc _⟩
end Go.Proofs.YtoplabhoedloeaaGreat
