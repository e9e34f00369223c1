/- Contracts of the document's own Mul and Pow modulo a word and of modn.Pow: for all words. -/
import Derived.Test.YtebcfbcfipmahaaGreatModB
namespace Go.Bv
open Go Go.RowKit
set_option linter.unusedVariables false
theorem mod_lift (A B C n : Nat) : (A % n + (B % n) * C) % n = (A + B * C) % n := by
  rw [Nat.mod_add_mod, Nat.add_mod A, Nat.mod_mul_mod, ← Nat.add_mod]
theorem half_parts (q : BitVec 64) : (q / 2#64).toNat = q.toNat / 2 ∧ (q % 2#64).toNat = q.toNat % 2 := ⟨BitVec.toNat_udiv, BitVec.toNat_umod⟩
theorem odd_test (q : BitVec 64) : (q % 2#64 == 1#64) = decide (q.toNat % 2 = 1) := by
  rw [Bool.eq_iff_iff, beq_iff_eq, decide_eq_true_eq, ← (half_parts q).2]
  exact ⟨fun e => by rw [e]; rfl, fun e => BitVec.eq_of_toNat_eq (by rw [e]; rfl)⟩
theorem even_test (q : BitVec 64) : (q % 2#64 == 0#64) = decide (q.toNat % 2 = 0) := by
  rw [Bool.eq_iff_iff, beq_iff_eq, decide_eq_true_eq, ← (half_parts q).2]
  exact ⟨fun e => by rw [e]; rfl, fun e => BitVec.eq_of_toNat_eq (by rw [e]; rfl)⟩
theorem and_test (q : BitVec 64) : (q &&& 1#64 == 1#64) = decide (q.toNat % 2 = 1) := by
  rw [Bool.eq_iff_iff, beq_iff_eq, decide_eq_true_eq]
  have h : (q &&& 1#64).toNat = q.toNat % 2 := by rw [BitVec.toNat_and]; exact Nat.and_two_pow_sub_one_eq_mod _ 1
  constructor
  · intro e; rw [← h, e]; rfl
  · intro e; apply BitVec.eq_of_toNat_eq; rw [h, e]; rfl
theorem shr_one (q : BitVec 64) : (q >>> 1).toNat = q.toNat / 2 := by rw [BitVec.toNat_ushiftRight, Nat.shiftRight_eq_div_pow]
theorem zero_test {q : BitVec 64} (h : ¬ q = 0#64) : decide (0 < W64 q) = true := decide_eq_true (by have := pos_of_ne h; unfold W64; omega)
theorem md_pow (A B h : Nat) (n : BitVec 64) : md ((md A n).toNat * (md B n).toNat ^ h) n = md (A * B ^ h) n := by
  by_cases hz : n = 0#64
  · subst hz; rw [md_zero, md_zero]
  · apply md_congr
    rw [md_nat hz, md_nat hz, Nat.mul_mod, Nat.mod_mod, Nat.pow_mod, Nat.mod_mod, ← Nat.pow_mod, ← Nat.mul_mod]
theorem md_md (A : Nat) (n : BitVec 64) : md (md A n).toNat n = md A n := by
  have := md_pow A 0 0 n
  rw [Nat.pow_zero, Nat.pow_zero, Nat.mul_one, Nat.mul_one] at this
  exact this
theorem md_pow1 (p B h : Nat) (n : BitVec 64) : md (p * (md B n).toNat ^ h) n = md (p * B ^ h) n := by
  by_cases hz : n = 0#64
  · subst hz; rw [md_zero, md_zero]
  · apply md_congr
    rw [md_nat hz, Nat.mul_mod, Nat.pow_mod, Nat.mod_mod, ← Nat.pow_mod, ← Nat.mul_mod]
theorem pow_odd (p x y : Nat) (h : y % 2 = 1) : p * x * (x * x) ^ (y / 2) = p * x ^ y := by
  have e : x ^ y = x * (x * x) ^ (y / 2) := by
    conv => lhs; rw [show y = 2 * (y / 2) + 1 by omega, Nat.pow_succ, Nat.pow_mul, Nat.pow_two]
    rw [Nat.mul_comm]
  rw [e, Nat.mul_assoc]
theorem pow_even (p x y : Nat) (h : y % 2 = 0) : p * (x * x) ^ (y / 2) = p * x ^ y := by
  have e : x ^ y = (x * x) ^ (y / 2) := by
    conv => lhs; rw [show y = 2 * (y / 2) by omega, Nat.pow_mul, Nat.pow_two]
  rw [e]
theorem mul_odd (o x y : Nat) (h : y % 2 = 1) : o + x + (x + x) * (y / 2) = o + x * y := by
  have e : x * y = x * (2 * (y / 2) + 1) := by rw [show 2 * (y / 2) + 1 = y by omega]
  rw [e]; generalize y / 2 = z; grind
theorem mul_even (o x y : Nat) (h : y % 2 = 0) : o + (x + x) * (y / 2) = o + x * y := by
  have e : x * y = x * (2 * (y / 2)) := by rw [show 2 * (y / 2) = y by omega]
  rw [e]; generalize y / 2 = z; grind
end Go.Bv
namespace Go.Proofs.YtebcfbcfipmahaaGreat
open Go.RowKit Go.Bv
set_option linter.unusedVariables false
theorem half_meas {y z : BitVec 64} (h : ¬ y = 0#64) (hz : z.toNat = y.toNat / 2) : (intOf (.int .u64 (W64 z))).toNat < (intOf (.int .u64 (W64 y))).toNat := by
  have e : ∀ z : BitVec 64, (intOf (.int .u64 (W64 z))).toNat = z.toNat := fun z => by simp [intOf, W64]
  have := pos_of_ne h
  rw [e, e, hz]; omega
set_option maxHeartbeats 1000000 in
theorem rmul_any (a b n : BitVec 64) (w : World) :
    Calls Tryz.prog 56 #[.int .u64 (W64 a), .int .u64 (W64 b), .int .u64 (W64 n)] w fun e w' => e = .returned (.int .u64 (W64 (md (a.toNat * b.toNat) n))) ∧ w' = w := by
  by_cases h : n = 0#64
  · subst h
    have HZ := Lib.hid (md_zero (a.toNat * b.toNat))
    go_enter Tryz.func56, Tryz.ntmps56
    go_wp2
    go_ret
    rw [HZ.out, lo_zero]
    exact ⟨rfl, rfl⟩
  · have hb : (n == 0#64) = false := by rw [beq_eq_false_iff_ne]; exact h
    have hp := pos_of_ne h
    have hnz : ¬ W64 n = 0 := by unfold W64; omega
    have HN := Lib.hid h
    have HST : Hid ((0 + (a % n).toNat * b.toNat) % n.toNat = (a.toNat * b.toNat) % n.toNat ∧ (0#64).toNat < n.toNat) := Lib.hid ⟨by rw [Nat.zero_add, BitVec.toNat_umod, Nat.mod_mul_mod], hp⟩
    clear hp h
    go_enter Tryz.func56, Tryz.ntmps56
    go_wp2_with fail
    go_loop [0, 1, 7] (fun A B O => ∃ x y o : BitVec 64, A = .int .u64 (W64 x) ∧ B = .int .u64 (W64 y) ∧ O = .int .u64 (W64 o) ∧ Hid ((o.toNat + x.toNat * y.toNat) % n.toNat = (a.toNat * b.toNat) % n.toNat ∧ o.toNat < n.toNat)) (fun _ B _ => (intOf B).toNat)
    case atStart => exact ⟨_, _, 0#64, rfl, rfl, congrArg (Value.int .u64) lo_zero.symm, HST⟩
    case round =>
      obtain ⟨x, y, o, rfl, rfl, rfl, H⟩ := hrel
      by_cases hy : y = 0#64
      · have hg : decide (0 < W64 y) = false := by subst hy; rw [lo_zero]; rfl
        have HE : Hid (o = md (a.toNat * b.toNat) n) := Lib.hid (md_eq HN.out (by
          obtain ⟨h1, h2⟩ := H.out
          rw [← h1, hy, show (0#64).toNat = 0 from rfl, Nat.mul_zero, Nat.add_zero, Nat.mod_eq_of_lt h2]))
        clear hy H
        go_wp2
        go_ret
        rw [HE.out]
        exact ⟨rfl, rfl⟩
      · have hg := zero_test hy
        have HM := Lib.hid (half_meas hy (half_parts y).1)
        have hodd := odd_test y
        clear hy
        by_cases ho : y.toNat % 2 = 1
        · rw [decide_eq_true ho] at hodd
          have HG : Hid (((md (o.toNat + x.toNat) n).toNat + (md (x.toNat + x.toNat) n).toNat * (y / 2#64).toNat) % n.toNat = (a.toNat * b.toNat) % n.toNat ∧ (md (o.toNat + x.toNat) n).toNat < n.toNat) := Lib.hid ⟨by
            rw [md_nat HN.out, md_nat HN.out, (half_parts y).1, mod_lift, mul_odd _ _ _ ho]; exact H.out.1, md_lt HN.out⟩
          clear H ho
          go_wp2_with (first
            | (go_at_call 55; refine (radd_any _ _ _ _).mono ?_; rintro e w' ⟨rfl, rfl⟩))
          exact ⟨⟨_, _, _, rfl, rfl, rfl, HG⟩, HM.out⟩
        · rw [decide_eq_false ho] at hodd
          have HG : Hid ((o.toNat + (md (x.toNat + x.toNat) n).toNat * (y / 2#64).toNat) % n.toNat = (a.toNat * b.toNat) % n.toNat ∧ o.toNat < n.toNat) := Lib.hid ⟨by
            have h2 := H.out.2
            rw [md_nat HN.out, (half_parts y).1, ← Nat.mod_eq_of_lt h2, mod_lift, mul_even _ _ _ (by omega)]; exact H.out.1, H.out.2⟩
          clear H ho
          go_wp2_with (first
            | (go_at_call 55; refine (radd_any _ _ _ _).mono ?_; rintro e w' ⟨rfl, rfl⟩))
          exact ⟨⟨_, _, _, rfl, rfl, rfl, HG⟩, HM.out⟩
end Go.Proofs.YtebcfbcfipmahaaGreat
