/- Contracts of modn.Add, Sub, Mul: for all words. -/
import Derived.Test.YtdjlbpgjbgepdaaGreatWidA
namespace Go.Proofs.YtdjlbpgjbgepdaaGreat
open Go.RowKit Go.Bv
set_option linter.unusedVariables false
theorem wadd_lo (a b : BitVec 64) (w : World) :
    Calls Tryz.prog 167 #[.agg #[.int .u64 0, .int .u64 (W64 a)], .agg #[.int .u64 0, .int .u64 (W64 b)]] w fun e w' =>
      ∃ o : Bool, e = .returned (.tuple #[.agg #[.int .u64 (W64 (hiN (a.toNat + b.toNat))), .int .u64 (W64 (loN (a.toNat + b.toNat)))], .bool o]) ∧ New w w' := by
  have h := wadd_any 0#64 a 0#64 b w
  rw [lo_zero, show (0#64).toNat = 0 from rfl, Nat.zero_add, show loN (hiN (a.toNat + b.toNat)).toNat = hiN (a.toNat + b.toNat) by unfold loN; rw [ofNat_self]] at h
  exact h.mono fun e w' he => ⟨_, he⟩
theorem mul_lt (a b : BitVec 64) : a.toNat * b.toNat < 340282366920938463463374607431768211456 := Nat.mul_lt_mul_of_lt_of_lt a.isLt b.isLt
end Go.Proofs.YtdjlbpgjbgepdaaGreat
