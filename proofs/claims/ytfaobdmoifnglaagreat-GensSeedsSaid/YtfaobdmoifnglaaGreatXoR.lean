/- Contracts of the way back and of Run of xoshiro. -/
import Derived.Test.YtfaobdmoifnglaaGreatXoB
import Derived.OneCell
namespace Go.Proofs.YtfaobdmoifnglaaGreat
open Go.RowKit Go.Bv
set_option linter.unusedVariables false
structure Q4 where
  a : BitVec 64
  b : BitVec 64
  c : BitVec 64
  d : BitVec 64
def st9 (q : Q4) : Q4 := ⟨q.a ^^^ (q.d ^^^ q.b), q.b ^^^ (q.c ^^^ q.a), (q.c ^^^ q.a) ^^^ q.b <<< 17, (q.d ^^^ q.b).rotateLeft 45⟩
/-- the word of which x XOR (x << 17) is z -/
def unsh (z : BitVec 64) : BitVec 64 := (z ^^^ z <<< 17) ^^^ (z ^^^ z <<< 17) <<< 34
def bk9 (q : Q4) : Q4 :=
  ⟨q.a ^^^ q.d.rotateLeft 19, unsh (q.b ^^^ q.c), (q.c ^^^ unsh (q.b ^^^ q.c) <<< 17) ^^^ (q.a ^^^ q.d.rotateLeft 19), q.d.rotateLeft 19 ^^^ unsh (q.b ^^^ q.c)⟩
def it9 (f : Q4 → Q4) : Nat → Q4 → Q4
  | 0, q => q
  | k + 1, q => f (it9 f k q)
/-- a move of the state -/
def Mv (F : FuncId) (f : Q4 → Q4) : Prop := ∀ (q : Q4) (w : World), Calls Tryz.prog F #[.agg #[.int .u64 (W64 q.a), .int .u64 (W64 q.b), .int .u64 (W64 q.c), .int .u64 (W64 q.d)]] w fun e w' =>
  e = .returned (.agg #[.int .u64 (W64 (f q).a), .int .u64 (W64 (f q).b), .int .u64 (W64 (f q).c), .int .u64 (W64 (f q).d)]) ∧ New w w'
theorem step_mv : Mv 136 st9 := fun q w => step_m q.a q.b q.c q.d w
end Go.Proofs.YtfaobdmoifnglaaGreat
