/- Contracts of load.Tail, load.Le32, load.Le64 and of the document's own Num and There: what each call returns, for all bytes. -/
import Derived.Test.YtjmnhooenampkaaGreatProg
import Derived.Test.YtjmnhooenampkaaGreatRow
namespace Go.Proofs.YtjmnhooenampkaaGreat
open Go.RowKit Go.Bv
set_option linter.unusedVariables false
theorem num_eq1 (f : Nat → BitVec 8) : num f 1 = ((f 0).setWidth 64) := by
  simp [num_or, num_zero]
theorem num_eq2 (f : Nat → BitVec 8) : num f 2 = (((f 1).setWidth 64 <<< 8) ||| (f 0).setWidth 64) := by
  simp only [num_or, num_zero, BitVec.shiftLeft_or_distrib, ← BitVec.shiftLeft_add]
  simp
theorem num_eq3 (f : Nat → BitVec 8) : num f 3 = ((((f 2).setWidth 64 <<< 16) ||| (f 1).setWidth 64 <<< 8) ||| (f 0).setWidth 64) := by
  simp only [num_or, num_zero, BitVec.shiftLeft_or_distrib, ← BitVec.shiftLeft_add]
  simp
theorem num_eq4 (f : Nat → BitVec 8) : num f 4 = (((((f 3).setWidth 64 <<< 24) ||| (f 2).setWidth 64 <<< 16) ||| (f 1).setWidth 64 <<< 8) ||| (f 0).setWidth 64) := by
  simp only [num_or, num_zero, BitVec.shiftLeft_or_distrib, ← BitVec.shiftLeft_add]
  simp
theorem num_eq5 (f : Nat → BitVec 8) : num f 5 = ((((((f 4).setWidth 64 <<< 32) ||| (f 3).setWidth 64 <<< 24) ||| (f 2).setWidth 64 <<< 16) ||| (f 1).setWidth 64 <<< 8) ||| (f 0).setWidth 64) := by
  simp only [num_or, num_zero, BitVec.shiftLeft_or_distrib, ← BitVec.shiftLeft_add]
  simp
theorem num_eq6 (f : Nat → BitVec 8) : num f 6 = (((((((f 5).setWidth 64 <<< 40) ||| (f 4).setWidth 64 <<< 32) ||| (f 3).setWidth 64 <<< 24) ||| (f 2).setWidth 64 <<< 16) ||| (f 1).setWidth 64 <<< 8) ||| (f 0).setWidth 64) := by
  simp only [num_or, num_zero, BitVec.shiftLeft_or_distrib, ← BitVec.shiftLeft_add]
  simp
theorem num_eq7 (f : Nat → BitVec 8) : num f 7 = ((((((((f 6).setWidth 64 <<< 48) ||| (f 5).setWidth 64 <<< 40) ||| (f 4).setWidth 64 <<< 32) ||| (f 3).setWidth 64 <<< 24) ||| (f 2).setWidth 64 <<< 16) ||| (f 1).setWidth 64 <<< 8) ||| (f 0).setWidth 64) := by
  simp only [num_or, num_zero, BitVec.shiftLeft_or_distrib, ← BitVec.shiftLeft_add]
  simp
theorem num_eq8 (f : Nat → BitVec 8) : num f 8 = (((((((((f 7).setWidth 64 <<< 56) ||| (f 6).setWidth 64 <<< 48) ||| (f 5).setWidth 64 <<< 40) ||| (f 4).setWidth 64 <<< 32) ||| (f 3).setWidth 64 <<< 24) ||| (f 2).setWidth 64 <<< 16) ||| (f 1).setWidth 64 <<< 8) ||| (f 0).setWidth 64) := by
  simp only [num_or, num_zero, BitVec.shiftLeft_or_distrib, ← BitVec.shiftLeft_add]
  simp
end Go.Proofs.YtjmnhooenampkaaGreat
