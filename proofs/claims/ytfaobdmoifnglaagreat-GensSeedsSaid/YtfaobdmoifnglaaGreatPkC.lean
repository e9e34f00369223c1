/- Contracts of pcg64: Out, Next; the document's own Out. -/
import Derived.Test.YtfaobdmoifnglaaGreatPkA
import Derived.Test.YtfaobdmoifnglaaGreatRot64
import Derived.Deep.RegionLaw
import Derived.Deep.RegionWith
import Derived.Handy
namespace Go.Proofs.YtfaobdmoifnglaaGreat
open Go.RowKit Go.Bv
set_option linter.unusedVariables false
set_option maxRecDepth 100000
/-- what pcg64 tells of a state -/
def out14 (s : BitVec 128) : BitVec 64 := (hi128 s ^^^ lo128 s).rotateLeft ((64 - (hi128 s).toNat / 2 ^ 58) % 64)
theorem rot_k (s : BitVec 128) : ∃ k : Nat, (hi128 s).toNat / 2 ^ 58 = k ∧ k < 64 := ⟨_, rfl, by have := (hi128 s).isLt; omega⟩
theorem rot_neg (s : BitVec 128) : (wrap64 (-wrap64 (W64 (hi128 s >>> 58))) % 64).toNat = (64 - (hi128 s).toNat / 2 ^ 58) % 64 := by
  obtain ⟨k, hk, hlt⟩ := rot_k s
  have e : W64 (hi128 s >>> 58) = (k : Int) := by unfold W64; rw [BitVec.toNat_ushiftRight, Nat.shiftRight_eq_div_pow, hk]
  rw [e, hk]
  unfold wrap64
  omega
theorem rot_sub (s : BitVec 128) : (wrap64 (64 - wrap64 (W64 (hi128 s / 288230376151711744#64))) % 64).toNat = (64 - (hi128 s).toNat / 2 ^ 58) % 64 := by
  obtain ⟨k, hk, hlt⟩ := rot_k s
  have e : W64 (hi128 s / 288230376151711744#64) = (k : Int) := by unfold W64; rw [BitVec.toNat_udiv, ← hk]; rfl
  rw [e, hk]
  unfold wrap64
  omega
theorem rot_in (s : BitVec 128) : -9223372036854775808 ≤ wrap64 (64 - wrap64 (W64 (hi128 s / 288230376151711744#64))) ∧ wrap64 (64 - wrap64 (W64 (hi128 s / 288230376151711744#64))) ≤ 9223372036854775807 := by
  unfold wrap64; omega
set_option maxHeartbeats 1000000 in
theorem outp14 (s : BitVec 128) (w : World) : Calls Tryz.prog 154 #[.agg #[.int .u64 (W64 (hi128 s)), .int .u64 (W64 (lo128 s))]] w fun e w' => e = .returned (.int .u64 (W64 (out14 s))) ∧ New w w' := by
  have HR : Hid (∀ w, Calls Tryz.prog 107 #[.int .u64 (W64 (hi128 s ^^^ lo128 s)), .int .i64 (wrap64 (-wrap64 (W64 (hi128 s >>> 58))))] w fun e w' => e = .returned (.int .u64 (W64 (out14 s))) ∧ w' = w) := Lib.hid fun w => by
    have h := rot64_any (W64 (hi128 s ^^^ lo128 s)) (b64 _) (wrap64 (-wrap64 (W64 (hi128 s >>> 58)))) w
    rw [ofInt_W64, rot_neg s] at h
    exact h
  go_enter Tryz.func154, Tryz.ntmps154
  go_wp2_with fail
  refine (HR.out _).mono ?_
  rintro e w1 ⟨rfl, rfl⟩
  go_wp2
  go_ret
  exact ⟨rfl, (New.refl _).alloc _⟩
set_option maxHeartbeats 1000000 in
theorem outr14 (s : BitVec 128) (w : World) : Calls Tryz.prog 40 #[.agg #[.int .u64 (W64 (hi128 s)), .int .u64 (W64 (lo128 s))]] w fun e w' => e = .returned (.int .u64 (W64 (out14 s))) ∧ New w w' := by
  have HR : Hid (∀ w, Calls Tryz.prog 52 #[.int .u64 (W64 (hi128 s ^^^ lo128 s)), .int .i64 (wrap64 (64 - wrap64 (W64 (hi128 s / 288230376151711744#64))))] w fun e w' => e = .returned (.int .u64 (W64 (out14 s))) ∧ w' = w) := Lib.hid fun w => by
    have h := rot64_ref (W64 (hi128 s ^^^ lo128 s)) (b64 _) (wrap64 (64 - wrap64 (W64 (hi128 s / 288230376151711744#64)))) (rot_in s) w
    rw [ofInt_W64, rot_sub s] at h
    exact h
  go_enter Tryz.func40, Tryz.ntmps40
  go_wp2_with fail
  refine (HR.out _).mono ?_
  rintro e w1 ⟨rfl, rfl⟩
  go_wp2
  go_ret
  exact ⟨rfl, (New.refl _).alloc _⟩
end Go.Proofs.YtfaobdmoifnglaaGreat
