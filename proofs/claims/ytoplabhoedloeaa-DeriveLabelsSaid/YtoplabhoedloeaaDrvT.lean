/- Layer 45: DeriveLabels, for the frame. -/
import Derived.Test.YtoplabhoedloeaaDrvS
import Derived.Test.YtoplabhoedloeaaFrame
namespace Go.Proofs.Ytoplabhoedloeaa
open Go Go.RowKit Go.Bv Go.Drv
set_option linter.unusedVariables false
theorem maxl_of (W : World) (h : W.ShapedOpen Try.prog) : MaxL W := Try.laysM145.s1_3 W h
theorem DeriveLabels_walk (W : World) (x0_0 : BitVec 64) (x0_1 : BitVec 64) (a1 : ByteArray) (w1 : a1.size ≤ 140737488351232) (a2 : Int) (w2 : (Lit.int .u64 a2).wf = true) (hm : MaxL W) :
    Calls Try.prog 3 #[.agg #[.int .u64 (W64 x0_0), .int .u64 (W64 x0_1)], .string a1, .int .u64 a2] W fun e w' => e = .returned (.bool true) ∧ Below W.heap.size W w' := by
  obtain ⟨x, rfl⟩ := wf64 w2
  obtain ⟨l, rfl⟩ : ∃ l, a1 = bs l := ⟨a1.data.toList, by unfold bs; simp⟩
  rw [bs_size] at w1
  exact labels_45 (x0_0, x0_1) l x (by omega) W hm
end Go.Proofs.Ytoplabhoedloeaa
