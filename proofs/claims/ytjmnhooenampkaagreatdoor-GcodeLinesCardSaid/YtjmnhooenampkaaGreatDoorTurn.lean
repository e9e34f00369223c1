/- Contracts of load.Rot32, load.Rot64, load.Swap64 and of the document's own Left, Rot32, Rot64 and Swap: for every word and every number. -/
import Derived.Test.YtjmnhooenampkaaGreatDoorProg
import Derived.Test.YtjmnhooenampkaaGreatDoorRow
namespace Go.Proofs.YtjmnhooenampkaaGreatDoor
open Go.RowKit Go.Bv
set_option linter.unusedVariables false
set_option maxHeartbeats 400000 in
theorem rot32_any (x : Int) (hx : 0 ≤ x ∧ x < 4294967296) (n : Int) (w : World) :
    Calls Tryz.prog 172 #[.int .u32 x, .int .i64 n] w fun e w' => e = .returned (.int .u32 (W32 ((BitVec.ofInt 32 x).rotateLeft (n % 32).toNat))) ∧ w' = w := by
  obtain ⟨x, rfl⟩ := ex32 x hx
  rw [ofInt_W32]
  go_enter Tryz.func172, Tryz.ntmps172
  go_wp2
  go_ret
  exact ⟨ret32 (rot32_prog x n), rfl⟩
set_option maxHeartbeats 400000 in
theorem rot64_any (x : Int) (hx : 0 ≤ x ∧ x < 18446744073709551616) (n : Int) (w : World) :
    Calls Tryz.prog 125 #[.int .u64 x, .int .i64 n] w fun e w' => e = .returned (.int .u64 (W64 ((BitVec.ofInt 64 x).rotateLeft (n % 64).toNat))) ∧ w' = w := by
  obtain ⟨x, rfl⟩ := ex64 x hx
  rw [ofInt_W64]
  go_enter Tryz.func125, Tryz.ntmps125
  go_wp2
  go_ret
  exact ⟨ret64 (rot64_prog x n), rfl⟩
end Go.Proofs.YtjmnhooenampkaaGreatDoor
