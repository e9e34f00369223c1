/- Contracts of the way back and of Run of xoshiro. -/
import Derived.Test.YtcibfipbibaicaaXoB
import Derived.OneCell
namespace Go.Proofs.Ytcibfipbibaicaa
open Go.RowKit Go.Bv
set_option linter.unusedVariables false
structure Q4 where
  a : BitVec 64
  b : BitVec 64
  c : BitVec 64
  d : BitVec 64
def st9 (q : Q4) : Q4 := ⟨q.a ^^^ (q.d ^^^ q.b), q.b ^^^ (q.c ^^^ q.a), (q.c ^^^ q.a) ^^^ q.b <<< 17, (q.d ^^^ q.b).rotateLeft 45⟩
/-- the word of which x XOR (x << 17) is z -/
def unsh (z : BitVec 64) : BitVec 64 := (z ^^^ z <<< 17) ^^^ (z ^^^ z <<< 17) <<< 34
def bk9 (q : Q4) : Q4 :=
  ⟨q.a ^^^ q.d.rotateLeft 19, unsh (q.b ^^^ q.c), (q.c ^^^ unsh (q.b ^^^ q.c) <<< 17) ^^^ (q.a ^^^ q.d.rotateLeft 19), q.d.rotateLeft 19 ^^^ unsh (q.b ^^^ q.c)⟩
def it9 (f : Q4 → Q4) : Nat → Q4 → Q4
  | 0, q => q
  | k + 1, q => f (it9 f k q)
/-- a move of the state -/
def Mv (F : FuncId) (f : Q4 → Q4) : Prop := ∀ (q : Q4) (w : World), Calls Try.prog F #[.agg #[.int .u64 (W64 q.a), .int .u64 (W64 q.b), .int .u64 (W64 q.c), .int .u64 (W64 q.d)]] w fun e w' =>
  e = .returned (.agg #[.int .u64 (W64 (f q).a), .int .u64 (W64 (f q).b), .int .u64 (W64 (f q).c), .int .u64 (W64 (f q).d)]) ∧ New w w'
theorem step_mv : Mv 37 st9 := fun q w => step_m q.a q.b q.c q.d w
set_option maxHeartbeats 400000 in
theorem unshift_any (z : Int) (hz : 0 ≤ z ∧ z < 18446744073709551616) (w : World) :
    Calls Try.prog 46 #[.int .u64 z] w fun e w' => e = .returned (.int .u64 (W64 (unsh (BitVec.ofInt 64 z)))) ∧ w' = w := by
  obtain ⟨z, rfl⟩ := ex64 z hz
  rw [ofInt_W64]
  go_enter Try.func46, Try.ntmps46
  go_wp2
  go_rounds 3
  go_ret
  exact ⟨ret64 rfl, rfl⟩
set_option maxHeartbeats 1000000 in
theorem back_mv : Mv 40 bk9 := by
  intro q w
  obtain ⟨s0, s1, s2, s3⟩ := q
  have h19 : ((-45 : Int) % 64).toNat = 19 := rfl
  go_enter Try.func40, Try.ntmps40
  go_wp2_with (first | (go_at_call 39; refine (rot64_any _ (b64 _) _ _).mono ?_; rintro e w' ⟨rfl, rfl⟩) | (go_at_call 46; refine (unshift_any _ (b64 _) _).mono ?_; rintro e w' ⟨rfl, rfl⟩))
  go_returns
  exact ⟨rfl, ((New.refl _).alloc _).alloc _⟩
end Go.Proofs.Ytcibfipbibaicaa
