/- Layer 45: DerivePaths, for the frame. -/
import Derived.Test.YtoplabhoedloeaaDrvX
import Derived.Test.YtoplabhoedloeaaFrame
namespace Go.Proofs.Ytoplabhoedloeaa
open Go Go.RowKit Go.Bv Go.Drv
set_option linter.unusedVariables false
theorem maxl_of (W : World) (h : W.ShapedOpen Try.prog) : MaxL W := Try.laysM145.s1_3 W h
theorem DerivePaths_walk (W : World) (x0_0 : BitVec 64) (x0_1 : BitVec 64) (a1 : ByteArray) (w1 : a1.size ≤ 140737488351232) (hm : MaxL W) :
    Calls Try.prog 4 #[.agg #[.int .u64 (W64 x0_0), .int .u64 (W64 x0_1)], .string a1] W fun e w' => e = .returned (.bool true) ∧ Below W.heap.size W w' := by
  obtain ⟨l, rfl⟩ : ∃ l, a1 = bs l := ⟨a1.data.toList, by unfold bs; simp⟩
  exact paths_45 (x0_0, x0_1) l W hm
end Go.Proofs.Ytoplabhoedloeaa
