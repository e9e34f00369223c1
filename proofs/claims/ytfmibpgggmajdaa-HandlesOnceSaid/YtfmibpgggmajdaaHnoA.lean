/- Layer 48: tables of any places: the handle of a place; who searches. -/
import Derived.Test.YtfmibpgggmajdaaHndC
import Derived.Test.YtfmibpgggmajdaaAliM
import Derived.Test.YtfmibpgggmajdaaFrame
import Derived.BigRegion
import Derived.Deep.RegionHeld3
namespace Go.Hnd
open Go Go.Bv
/-- the places of a table: what stands there, whether, how often something was stored -/
structure Ps where
  th : Nat → Int
  tk : Nat → Bool
  sd : Nat → BitVec 64
/-- the handle of a place -/
def hd (s : BitVec 64) (i : Nat) : BitVec 64 := BitVec.ofNat 64 i + 16#64 * s
end Go.Hnd
namespace Go.Proofs.Ytfmibpgggmajdaa
open Go Go.RowKit Go.Bv Go.Hnd Go.Ali
set_option linter.unusedVariables false
set_option maxRecDepth 100000
theorem handle_any (n : Int) (t : Bool) (s : BitVec 64) (i : Nat) (w : World) : Calls Try.prog 22 #[.agg #[.int .i64 n, .bool t, .int .u64 (W64 s)], .int .i64 (i : Int)] w fun e w' => e = .returned (.int .u64 (W64 (hd s i))) ∧ New w w' := by
  have hcv : IntKind.u64.wrap (i : Int) = W64 (BitVec.ofNat 64 i) := by rw [wrap_u64]; rfl
  go_enter Try.func22, Try.ntmps22
  go_wp2
  go_ret
  exact ⟨rfl, (New.refl _).alloc _⟩
end Go.Proofs.Ytfmibpgggmajdaa
