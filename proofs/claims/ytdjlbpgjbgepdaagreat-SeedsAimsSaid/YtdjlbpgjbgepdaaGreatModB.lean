/- Contracts of the document's own Add and Mul modulo a word, of modn.Pow and Gcd: for all words. -/
import Derived.Test.YtdjlbpgjbgepdaaGreatModA
import Derived.WalkMore
import Derived.ScopeJumps
namespace Go.Bv
open Go Go.RowKit
set_option linter.unusedVariables false
theorem md_mod (N : Nat) (n : BitVec 64) : md (N % n.toNat) n = md N n := by
  unfold md; rw [Nat.mod_mod]
theorem md_congr {N M : Nat} {n : BitVec 64} (h : N % n.toNat = M % n.toNat) : md N n = md M n := by
  unfold md; rw [h]
end Go.Bv
namespace Go.Proofs.YtdjlbpgjbgepdaaGreat
open Go.RowKit Go.Bv
set_option linter.unusedVariables false
end Go.Proofs.YtdjlbpgjbgepdaaGreat
