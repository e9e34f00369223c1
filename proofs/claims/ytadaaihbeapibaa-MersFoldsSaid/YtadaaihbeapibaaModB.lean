/- Contracts of the document's own Add and Mul modulo a word, of modn.Pow and Gcd: for all words. -/
import Derived.Test.YtadaaihbeapibaaModA
import Derived.WalkMore
import Derived.ScopeJumps
namespace Go.Bv
open Go Go.RowKit
set_option linter.unusedVariables false
theorem md_mod (N : Nat) (n : BitVec 64) : md (N % n.toNat) n = md N n := by
  unfold md; rw [Nat.mod_mod]
theorem md_congr {N M : Nat} {n : BitVec 64} (h : N % n.toNat = M % n.toNat) : md N n = md M n := by
  unfold md; rw [h]
end Go.Bv
namespace Go.Proofs.Ytadaaihbeapibaa
open Go.RowKit Go.Bv
set_option linter.unusedVariables false
set_option maxHeartbeats 1000000 in
theorem radd_any (a b n : BitVec 64) (w : World) :
    Calls Try.prog 15 #[.int .u64 (W64 a), .int .u64 (W64 b), .int .u64 (W64 n)] w fun e w' => e = .returned (.int .u64 (W64 (md (a.toNat + b.toNat) n))) ∧ w' = w := by
  by_cases h : n = 0#64
  · subst h
    have HZ := Lib.hid (md_zero (a.toNat + b.toNat))
    go_enter Try.func15, Try.ntmps15
    go_wp2
    go_ret
    rw [HZ.out, lo_zero]
    exact ⟨rfl, rfl⟩
  · have hb : (n == 0#64) = false := by rw [beq_eq_false_iff_ne]; exact h
    have hp := pos_of_ne h
    have hnz : ¬ W64 n = 0 := by unfold W64; omega
    have e1 : (a % n).toNat = a.toNat % n.toNat := BitVec.toNat_umod
    have e2 : (b % n).toNat = b.toNat % n.toNat := BitVec.toNat_umod
    have l1 := Nat.mod_lt a.toNat hp
    have l2 := Nat.mod_lt b.toNat hp
    have hn := n.isLt
    have e3 : (n - b % n).toNat = n.toNat - b.toNat % n.toNat := by rw [sub_nat (by omega), e2]
    have hm : (a.toNat + b.toNat) % n.toNat = (a.toNat % n.toNat + b.toNat % n.toNat) % n.toNat := Nat.add_mod _ _ _
    by_cases hc : n.toNat - b.toNat % n.toNat ≤ a.toNat % n.toNat
    · have hg : decide (W64 (n - b % n) ≤ W64 (a % n)) = true := decide_eq_true (by unfold W64; omega)
      have HR : Hid (a % n - (n - b % n) = md (a.toNat + b.toNat) n) := Lib.hid (md_eq h (by
        rw [sub_nat (by omega), e1, e3, hm]
        have : a.toNat % n.toNat + b.toNat % n.toNat = (a.toNat % n.toNat - (n.toNat - b.toNat % n.toNat)) + n.toNat := by omega
        rw [this, Nat.add_mod_right]
        have h5 : a.toNat % n.toNat - (n.toNat - b.toNat % n.toNat) < n.toNat := by omega
        exact (Nat.mod_eq_of_lt h5).symm))
      clear e1 e2 e3 l1 l2 hn hm hc hp h
      go_enter Try.func15, Try.ntmps15
      go_wp2
      go_ret
      rw [HR.out]
      exact ⟨rfl, rfl⟩
    · have hg : decide (W64 (n - b % n) ≤ W64 (a % n)) = false := decide_eq_false (by unfold W64; omega)
      have HR : Hid (a % n + b % n = md (a.toNat + b.toNat) n) := Lib.hid (md_eq h (by
        rw [add_nat (by omega), e1, e2, hm, Nat.mod_eq_of_lt (a := a.toNat % n.toNat + b.toNat % n.toNat) (by omega)]))
      clear e1 e2 e3 l1 l2 hn hm hc hp h
      go_enter Try.func15, Try.ntmps15
      go_wp2
      go_ret
      rw [HR.out]
      exact ⟨rfl, rfl⟩
set_option maxHeartbeats 1000000 in
theorem gcd_any (a b : BitVec 64) (w : World) :
    Calls Try.prog 21 #[.int .u64 (W64 a), .int .u64 (W64 b)] w fun e w' => e = .returned (.int .u64 (W64 (BitVec.ofNat 64 (Nat.gcd a.toNat b.toNat)))) ∧ New w w' := by
  obtain ⟨N, hN⟩ : ∃ N, Nat.gcd a.toNat b.toNat = N := ⟨_, rfl⟩
  rw [hN]
  have H := Lib.hid hN
  clear hN
  go_enter Try.func21, Try.ntmps21
  go_wp2
  refine wp_scope_jumps 0 (fun a' w' => New w w' ∧ ∃ (x y : BitVec 64) (u5 u6 u7 u8 u9 u10 u11 : Value), a' = { tmps := #[.int .u64 (W64 x), .int .u64 (W64 y), undef, undef, .int .u64 0, u5, u6, u7, u8, u9, u10, u11], defers := [] } ∧ Hid (Nat.gcd x.toNat y.toNat = N)) (fun a' _ => (intOf (a'.tmps.getD 1 undef)).toNat) rfl ?_ ?_
  · have hn : New w w := New.refl w
    go_wp2
    go_step3
    by_cases hy : b = 0#64
    · have hb : (b == 0#64) = true := by rw [beq_iff_eq]; exact hy
      have HE : Hid (a = BitVec.ofNat 64 N) := Lib.hid (by rw [← H.out, hy, show (0#64).toNat = 0 from rfl, Nat.gcd_zero_right, ofNat_self])
      clear hy
      go_wp2
      simp only [Exit.jump]
      go_ret
      exact ⟨ret64 HE.out, hn⟩
    · have hb : (b == 0#64) = false := by rw [beq_eq_false_iff_ne]; exact hy
      have hyz : ¬ W64 b = 0 := by have := pos_of_ne hy; unfold W64; omega
      have HG : Hid (Nat.gcd b.toNat (a % b).toNat = N) := Lib.hid (by
        rw [BitVec.toNat_umod, ← H.out, Nat.gcd_comm a.toNat, Nat.gcd_rec b.toNat a.toNat, Nat.gcd_comm])
      have HM : Hid ((W64 (a % b)).toNat < (W64 b).toNat) := Lib.hid (by
        rw [toNat_W64, toNat_W64]; show (a % b).toNat < b.toNat; rw [BitVec.toNat_umod]; exact Nat.mod_lt _ (pos_of_ne hy))
      clear hy
      go_wp2
      go_quiet (fail)
      go_wp2
      go_step3
      exact ⟨rfl, hn.drewN nq, _, _, _, _, _, _, _, _, _, rfl, HG⟩
  · rintro a' w' ⟨hn, x, y, u5, u6, u7, u8, u9, u10, u11, rfl, H⟩
    by_cases hy : y = 0#64
    · have hb : (y == 0#64) = true := by rw [beq_iff_eq]; exact hy
      have HE : Hid (x = BitVec.ofNat 64 N) := Lib.hid (by rw [← H.out, hy, show (0#64).toNat = 0 from rfl, Nat.gcd_zero_right, ofNat_self])
      clear hy
      go_wp2
      simp only [Exit.jump]
      go_ret
      exact ⟨ret64 HE.out, hn⟩
    · have hb : (y == 0#64) = false := by rw [beq_eq_false_iff_ne]; exact hy
      have hyz : ¬ W64 y = 0 := by have := pos_of_ne hy; unfold W64; omega
      have HG : Hid (Nat.gcd y.toNat (x % y).toNat = N) := Lib.hid (by
        rw [BitVec.toNat_umod, ← H.out, Nat.gcd_comm x.toNat, Nat.gcd_rec y.toNat x.toNat, Nat.gcd_comm])
      have HM : Hid ((W64 (x % y)).toNat < (W64 y).toNat) := Lib.hid (by
        rw [toNat_W64, toNat_W64]; show (x % y).toNat < y.toNat; rw [BitVec.toNat_umod]; exact Nat.mod_lt _ (pos_of_ne hy))
      clear hy
      go_wp2
      go_quiet (fail)
      go_wp2
      go_step3
      exact ⟨rfl, ⟨hn.drewN nq, _, _, _, _, _, _, _, _, _, rfl, HG⟩, HM.out⟩
end Go.Proofs.Ytadaaihbeapibaa
