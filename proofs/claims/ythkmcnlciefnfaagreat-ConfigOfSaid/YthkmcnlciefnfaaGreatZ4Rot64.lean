import Derived.Test.YthkmcnlciefnfaaGreatProg
import Derived.Test.YthkmcnlciefnfaaGreatZ4Rot
import Derived.Test.YthkmcnlciefnfaaGreatZ4Frame
import Derived.Lib.TrailingZeros
section
/- Contracts of load.Rot64 and of the document's own Left and Rot64: for every word and every number. -/
namespace Go.Proofs.YthkmcnlciefnfaaGreat
open Go.RowKit Go.Bv
set_option linter.unusedVariables false
end Go.Proofs.YthkmcnlciefnfaaGreat
end
section
/- The table of bits.TrailingZeros64 in its variable; its contract. -/
namespace Go.Bv
open Go Go.RowKit
/-- the table lies in its variable -/
structure TabD (w : World) : Prop where
  lt : 0 < w.heap.size
  cell : ∀ i, i < 64 → w.cell? ⟨0, i, none⟩ = some (.int .u8 (Lib.deBruijn64tab.getD i 0))
theorem TabD.stay {w w' : World} (h : TabD w) (hn : New w w') : TabD w' where
  lt := Nat.lt_of_lt_of_le h.lt hn.le
  cell := fun i hi => by
    have e := hn.block 0 h.lt
    rw [← h.cell i hi]
    unfold World.cell?
    rw [e]
/-- the number of zeros at a word's end -/
def tzN (x : BitVec 64) : Nat := Lib.ctz 64 x.toNat
end Go.Bv
namespace Go.Proofs.YthkmcnlciefnfaaGreat
open Go.RowKit Go.Bv
set_option linter.unusedVariables false
end Go.Proofs.YthkmcnlciefnfaaGreat
end
