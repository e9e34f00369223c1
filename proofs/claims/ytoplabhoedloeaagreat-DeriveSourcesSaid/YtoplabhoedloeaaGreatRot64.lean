/- Contracts of load.Rot64 and of the document's own Left and Rot64: for every word and every number. -/
import Derived.Test.YtoplabhoedloeaaGreatProg
import Derived.Test.YtoplabhoedloeaaGreatRot
namespace Go.Proofs.YtoplabhoedloeaaGreat
open Go.RowKit Go.Bv
set_option linter.unusedVariables false
set_option maxHeartbeats 400000 in
theorem rot64_any (x : Int) (hx : 0 ≤ x ∧ x < 18446744073709551616) (n : Int) (w : World) :
    Calls Tryz.prog 94 #[.int .u64 x, .int .i64 n] w fun e w' => e = .returned (.int .u64 (W64 ((BitVec.ofInt 64 x).rotateLeft (n % 64).toNat))) ∧ w' = w := by
  obtain ⟨x, rfl⟩ := ex64 x hx
  rw [ofInt_W64]
  go_enter Tryz.func94, Tryz.ntmps94
  go_wp2
  go_ret
  exact ⟨ret64 (rot64_prog x n), rfl⟩
end Go.Proofs.YtoplabhoedloeaaGreat
