/- Contracts of xoshiro.Xor and Zero; the walk of the statement XoshiroLine: for every two states. -/
import Derived.Test.YtcibfipbibaicaaXoZ
namespace Go.Proofs.Ytcibfipbibaicaa
open Go.RowKit Go.Bv
set_option linter.unusedVariables false
def xq (p q : Q4) : Q4 := ⟨p.a ^^^ q.a, p.b ^^^ q.b, p.c ^^^ q.c, p.d ^^^ q.d⟩
def zr (q : Q4) : Bool := q.a == 0#64 && (q.b == 0#64 && (q.c == 0#64 && q.d == 0#64))
theorem eq4z (w : World) (q : Q4) : (Op.equalIn 10000 23 (.agg #[.int .u64 (W64 q.a), .int .u64 (W64 q.b), .int .u64 (W64 q.c), .int .u64 (W64 q.d)]) (.agg #[.int .u64 0, .int .u64 0, .int .u64 0, .int .u64 0])).run Try.prog w = .ok (zr q) w := by
  have h := eq4 w q.a q.b q.c q.d 0#64 0#64 0#64 0#64
  rw [show W64 0#64 = 0 from W64_lit 0 (by omega)] at h
  exact h
set_option maxHeartbeats 1000000 in
theorem xor_mv (p q : Q4) (w : World) :
    Calls Try.prog 21 #[.agg #[.int .u64 (W64 p.a), .int .u64 (W64 p.b), .int .u64 (W64 p.c), .int .u64 (W64 p.d)], .agg #[.int .u64 (W64 q.a), .int .u64 (W64 q.b), .int .u64 (W64 q.c), .int .u64 (W64 q.d)]] w fun e w' => e = .returned (.agg #[.int .u64 (W64 (xq p q).a), .int .u64 (W64 (xq p q).b), .int .u64 (W64 (xq p q).c), .int .u64 (W64 (xq p q).d)]) ∧ New w w' := by
  obtain ⟨s0, s1, s2, s3⟩ := p
  obtain ⟨t0, t1, t2, t3⟩ := q
  have i0 : ∀ w, (Instr.index 23 (.agg #[.int .u64 (W64 t0), .int .u64 (W64 t1), .int .u64 (W64 t2), .int .u64 (W64 t3)]) (.int .i64 0)).run Try.prog w = .ok (.int .u64 (W64 t0)) w := fun w => rfl
  have i1 : ∀ w, (Instr.index 23 (.agg #[.int .u64 (W64 t0), .int .u64 (W64 t1), .int .u64 (W64 t2), .int .u64 (W64 t3)]) (.int .i64 1)).run Try.prog w = .ok (.int .u64 (W64 t1)) w := fun w => rfl
  have i2 : ∀ w, (Instr.index 23 (.agg #[.int .u64 (W64 t0), .int .u64 (W64 t1), .int .u64 (W64 t2), .int .u64 (W64 t3)]) (.int .i64 2)).run Try.prog w = .ok (.int .u64 (W64 t2)) w := fun w => rfl
  have i3 : ∀ w, (Instr.index 23 (.agg #[.int .u64 (W64 t0), .int .u64 (W64 t1), .int .u64 (W64 t2), .int .u64 (W64 t3)]) (.int .i64 3)).run Try.prog w = .ok (.int .u64 (W64 t3)) w := fun w => rfl
  go_enter Try.func21, Try.ntmps21
  go_wp2
  go_rounds 5
  go_returns
  exact ⟨rfl, (((New.refl w).alloc _).alloc _).alloc _⟩
set_option maxHeartbeats 400000 in
theorem zero_any (q : Q4) (w : World) :
    Calls Try.prog 22 #[.agg #[.int .u64 (W64 q.a), .int .u64 (W64 q.b), .int .u64 (W64 q.c), .int .u64 (W64 q.d)]] w fun e w' => e = .returned (.bool (zr q)) ∧ New w w' := by
  have hz := fun w => eq4z w q
  go_enter Try.func22, Try.ntmps22
  go_wp2
  go_ret
  exact ⟨rfl, (New.refl w).alloc _⟩
theorem rot_xor (x y : BitVec 64) (k : Nat) (hk : k < 64) : (x ^^^ y).rotateLeft k = x.rotateLeft k ^^^ y.rotateLeft k := by
  apply BitVec.eq_of_getLsbD_eq
  intro i hi
  rw [BitVec.getLsbD_xor, BitVec.getLsbD_rotateLeft_of_le hk, BitVec.getLsbD_rotateLeft_of_le hk, BitVec.getLsbD_rotateLeft_of_le hk, BitVec.getLsbD_xor, BitVec.getLsbD_xor]
  cases decide (i < k) <;> cases decide (i < 64) <;> simp
theorem st_xor (p q : Q4) : st9 (xq p q) = xq (st9 p) (st9 q) := by
  obtain ⟨s0, s1, s2, s3⟩ := p
  obtain ⟨t0, t1, t2, t3⟩ := q
  simp only [st9, xq, Q4.mk.injEq]
  refine ⟨by grind, by grind, ?_, ?_⟩
  · rw [BitVec.shiftLeft_xor_distrib]
    generalize s1 <<< 17 = u
    generalize t1 <<< 17 = v
    grind
  · rw [← rot_xor _ _ 45 (by omega)]
    congr 1
    grind
def z9 : Q4 := ⟨0#64, 0#64, 0#64, 0#64⟩
theorem zr_iff (q : Q4) : zr q = true ↔ q = z9 := by
  obtain ⟨a, b, c, d⟩ := q
  simp [zr, z9]
theorem st_z : st9 z9 = z9 := by
  show (⟨_, _, _, _⟩ : Q4) = ⟨_, _, _, _⟩
  rw [Q4.mk.injEq]
  decide +kernel
theorem zr_st (q : Q4) : zr (st9 q) = zr q := by
  rw [Bool.eq_iff_iff, zr_iff, zr_iff]
  constructor
  · intro h
    have h2 := congrArg bk9 h
    rw [bk_st, ← st_z, bk_st] at h2
    exact h2
  · intro h; rw [h, st_z]
end Go.Proofs.Ytcibfipbibaicaa
