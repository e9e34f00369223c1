/- Contracts of slices.Clone, slices.Grow and slices.Concat at slices of bytes: a fresh slice with the same bytes. -/
import Derived.Test.YtjmnhooenampkaaGreatDoorBoth
import Derived.Test.YtjmnhooenampkaaGreatDoorBut
import Derived.Lib.AppendZerosOnto
import Derived.Lib.SliceRun
import Derived.Deep.OwnRows
import Derived.Deep.AppendLies
namespace Go.Proofs.YtjmnhooenampkaaGreatDoor
open Go.RowKit Go.Bv
set_option linter.unusedVariables false
/-- a fresh row of bytes -/
theorem own_row {w : World} {base : Nat} {v : Value} {n : Nat} {l : List (BitVec 8)} (h : w.ownsRow base 5 1 v n (l.map fun x => .int .u8 (W8 x))) (hn : n ≤ 140737488355328) :
    ∃ a cap, v = .slice a n cap ∧ BRow w a n cap l ∧ ∀ x, a = some x → base ≤ x.block := by
  obtain ⟨a, cap, rfl, hr⟩ := BRow.of_owns h hn
  refine ⟨a, cap, rfl, hr, fun x e => ?_⟩
  subst e
  exact own_base h _ rfl
end Go.Proofs.YtjmnhooenampkaaGreatDoor
