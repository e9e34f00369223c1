import Derived.Test.YthkmcnlciefnfaaGreatZ5PolA
import Derived.Deep.OwnRows
import Derived.WalkMore
import Derived.ScopeJumps
import Derived.Test.YthkmcnlciefnfaaGreatZ5DivM
import Derived.Laws.StructEq
import Derived.ChangeKeysEq
import Derived.Handy
import Derived.BigQuiet
section
/- poly.collect with its closures. -/
namespace Go.Proofs.YthkmcnlciefnfaaGreat
open Go.RowKit Go.Bv
set_option linter.unusedVariables false
end Go.Proofs.YthkmcnlciefnfaaGreat
end
section
/- Contracts of poly.Trim, Divide, Eval: for all lists. -/
namespace Go.Proofs.YthkmcnlciefnfaaGreat
open Go.RowKit Go.Bv
set_option linter.unusedVariables false
/-- what is wrong with coefficients or with a number -/
def evC (l : List (BitVec 64)) (x : BitVec 64) : Int := if chkC l ≠ 0 then chkC l else if PP ≤ x.toNat then 2 else 0
def evP (l : List (BitVec 64)) (x : BitVec 64) : BitVec 64 := if evC l x = 0 then mp (nv l x) else 0#64
end Go.Proofs.YthkmcnlciefnfaaGreat
end
section
/- Contracts of layer 20: the parts: allowed, Check, Eval, Top, Power, Bound, same, gap, limit, low; modn.Left, Odd. -/
namespace Go.Bv
open Go Go.RowKit
/-- the error's number -/
def chkM (a : BitVec 64) (k : Int) : Int := if k < 1 ∨ 64 < k then 1 else if a &&& 1#64 = 0#64 then 13 else 0
theorem even_and (a : BitVec 64) : (a % 2#64 == 0#64) = (a &&& 1#64 == 0#64) := by
  have h : a % 2#64 = a &&& 1#64 := by
    apply BitVec.eq_of_toNat_eq
    rw [BitVec.toNat_umod, BitVec.toNat_and]
    exact (Nat.and_two_pow_sub_one_eq_mod a.toNat 1).symm
  rw [h]
end Go.Bv
namespace Go.Proofs.YthkmcnlciefnfaaGreat
open Go.RowKit Go.Bv
set_option linter.unusedVariables false
theorem allowed_m (k : Int) (w : World) : Calls Tryz.prog 318 #[.int .i64 k] w fun e w' => e = .returned (.bool (!decide (k < 1 ∨ 64 < k))) ∧ w' = w := by
  by_cases h1 : 1 ≤ k
  · by_cases h2 : k ≤ 64
    · rw [show decide (k < 1 ∨ 64 < k) = false from decide_eq_false (by omega), Bool.not_false]
      go_enter Tryz.func318, Tryz.ntmps318
      go_wp2
      go_ret
      exact ⟨rfl, rfl⟩
    · rw [show decide (k < 1 ∨ 64 < k) = true from decide_eq_true (by omega), Bool.not_true]
      go_enter Tryz.func318, Tryz.ntmps318
      go_wp2
      go_ret
      exact ⟨rfl, rfl⟩
  · rw [show decide (k < 1 ∨ 64 < k) = true from decide_eq_true (by omega), Bool.not_true]
    go_enter Tryz.func318, Tryz.ntmps318
    go_wp2
    go_ret
    exact ⟨rfl, rfl⟩
theorem check_m (a : BitVec 64) (k : Int) (w : World) : Calls Tryz.prog 200 #[.int .u64 (W64 a), .int .i64 k] w fun e w' => e = .returned (.int .i64 (chkM a k)) ∧ w' = w := by
  have HA := Lib.hid (allowed_m k w)
  unfold chkM
  by_cases h : k < 1 ∨ 64 < k
  · rw [decide_eq_true h, Bool.not_true] at HA
    rw [if_pos h]
    clear h
    go_enter Tryz.func200, Tryz.ntmps200
    go_wp2_with fail
    refine HA.out.mono ?_
    rintro e w1 ⟨rfl, rfl⟩
    go_wp2
    go_ret
    exact ⟨rfl, rfl⟩
  · rw [decide_eq_false h, Bool.not_false] at HA
    rw [if_neg h]
    clear h
    by_cases h : a &&& 1#64 = 0#64
    · rw [if_pos h]
      have z1 : (a &&& 1#64 == 0#64) = true := by rw [h]; rfl
      clear h
      go_enter Tryz.func200, Tryz.ntmps200
      go_wp2_with fail
      refine HA.out.mono ?_
      rintro e w1 ⟨rfl, rfl⟩
      go_wp2
      go_ret
      exact ⟨rfl, rfl⟩
    · rw [if_neg h]
      have z1 : (a &&& 1#64 == 0#64) = false := beq_false_of_ne h
      clear h
      go_enter Tryz.func200, Tryz.ntmps200
      go_wp2_with fail
      refine HA.out.mono ?_
      rintro e w1 ⟨rfl, rfl⟩
      go_wp2
      go_ret
      exact ⟨rfl, rfl⟩
theorem rcheck_m (a : BitVec 64) (k : Int) (w : World) : Calls Tryz.prog 42 #[.int .u64 (W64 a), .int .i64 k] w fun e w' => e = .returned (.int .i64 (chkM a k)) ∧ w' = w := by
  unfold chkM
  by_cases h1 : k < 1
  · rw [if_pos (Or.inl h1)]
    go_enter Tryz.func42, Tryz.ntmps42
    go_wp2
    go_ret
    exact ⟨rfl, rfl⟩
  by_cases h2 : 64 < k
  · rw [if_pos (Or.inr h2)]
    go_enter Tryz.func42, Tryz.ntmps42
    go_wp2
    go_ret
    exact ⟨rfl, rfl⟩
  rw [if_neg (by omega)]
  by_cases h : a &&& 1#64 = 0#64
  · rw [if_pos h]
    have z1 : (a % 2#64 == 0#64) = true := by rw [even_and, h]; rfl
    clear h
    go_enter Tryz.func42, Tryz.ntmps42
    go_wp2
    go_ret
    exact ⟨rfl, rfl⟩
  · rw [if_neg h]
    have z1 : (a % 2#64 == 0#64) = false := by rw [even_and]; exact beq_false_of_ne h
    clear h
    go_enter Tryz.func42, Tryz.ntmps42
    go_wp2
    go_ret
    exact ⟨rfl, rfl⟩
end Go.Proofs.YthkmcnlciefnfaaGreat
end
