import Derived.Test.YthkmcnlciefnfaaGreatZ5New
import Derived.Lib.SmallJoins
import Derived.OpenShut
import Derived.ChangeOld
/- Plain lemmas for the frames: what is known of an argument that is an array or a struct of words, by value; that nothing old has changed. -/
namespace Go.Bv
open Go Go.RowKit Go.WideShapes
/-- a slice of integers that came in: nil, or a row of cap cells, the numbers zs -/
def IRow (k : IntKind) (w : World) (a : Option Addr) (len cap : Nat) (zs : List Int) : Prop :=
  (a = none ∧ len = 0 ∧ cap = 0 ∧ zs = []) ∨
  ∃ x, a = some x ∧ len ≤ cap ∧ zs.length = cap ∧ (∀ i, i < zs.length → w.cell? (x.add i) = some (.int k (zs.getD i 0))) ∧ ∀ n ∈ zs, (Lit.int k n).wf = true
section
variable {P : Program} {w : World} {r : Reach} {base : Nat}
end
end Go.Bv
