/- Contracts of the document's own Add and Mul modulo a word, of modn.Pow and Gcd: for all words. -/
import Derived.Test.YtebcfbcfipmahaaGreatModA
import Derived.WalkMore
import Derived.ScopeJumps
namespace Go.Bv
open Go Go.RowKit
set_option linter.unusedVariables false
theorem md_mod (N : Nat) (n : BitVec 64) : md (N % n.toNat) n = md N n := by
  unfold md; rw [Nat.mod_mod]
theorem md_congr {N M : Nat} {n : BitVec 64} (h : N % n.toNat = M % n.toNat) : md N n = md M n := by
  unfold md; rw [h]
end Go.Bv
namespace Go.Proofs.YtebcfbcfipmahaaGreat
open Go.RowKit Go.Bv
set_option linter.unusedVariables false
set_option maxHeartbeats 1000000 in
theorem radd_any (a b n : BitVec 64) (w : World) :
    Calls Tryz.prog 55 #[.int .u64 (W64 a), .int .u64 (W64 b), .int .u64 (W64 n)] w fun e w' => e = .returned (.int .u64 (W64 (md (a.toNat + b.toNat) n))) ∧ w' = w := by
  by_cases h : n = 0#64
  · subst h
    have HZ := Lib.hid (md_zero (a.toNat + b.toNat))
    go_enter Tryz.func55, Tryz.ntmps55
    go_wp2
    go_ret
    rw [HZ.out, lo_zero]
    exact ⟨rfl, rfl⟩
  · have hb : (n == 0#64) = false := by rw [beq_eq_false_iff_ne]; exact h
    have hp := pos_of_ne h
    have hnz : ¬ W64 n = 0 := by unfold W64; omega
    have e1 : (a % n).toNat = a.toNat % n.toNat := BitVec.toNat_umod
    have e2 : (b % n).toNat = b.toNat % n.toNat := BitVec.toNat_umod
    have l1 := Nat.mod_lt a.toNat hp
    have l2 := Nat.mod_lt b.toNat hp
    have hn := n.isLt
    have e3 : (n - b % n).toNat = n.toNat - b.toNat % n.toNat := by rw [sub_nat (by omega), e2]
    have hm : (a.toNat + b.toNat) % n.toNat = (a.toNat % n.toNat + b.toNat % n.toNat) % n.toNat := Nat.add_mod _ _ _
    by_cases hc : n.toNat - b.toNat % n.toNat ≤ a.toNat % n.toNat
    · have hg : decide (W64 (n - b % n) ≤ W64 (a % n)) = true := decide_eq_true (by unfold W64; omega)
      have HR : Hid (a % n - (n - b % n) = md (a.toNat + b.toNat) n) := Lib.hid (md_eq h (by
        rw [sub_nat (by omega), e1, e3, hm]
        have : a.toNat % n.toNat + b.toNat % n.toNat = (a.toNat % n.toNat - (n.toNat - b.toNat % n.toNat)) + n.toNat := by omega
        rw [this, Nat.add_mod_right]
        have h5 : a.toNat % n.toNat - (n.toNat - b.toNat % n.toNat) < n.toNat := by omega
        exact (Nat.mod_eq_of_lt h5).symm))
      clear e1 e2 e3 l1 l2 hn hm hc hp h
      go_enter Tryz.func55, Tryz.ntmps55
      go_wp2
      go_ret
      rw [HR.out]
      exact ⟨rfl, rfl⟩
    · have hg : decide (W64 (n - b % n) ≤ W64 (a % n)) = false := decide_eq_false (by unfold W64; omega)
      have HR : Hid (a % n + b % n = md (a.toNat + b.toNat) n) := Lib.hid (md_eq h (by
        rw [add_nat (by omega), e1, e2, hm, Nat.mod_eq_of_lt (a := a.toNat % n.toNat + b.toNat % n.toNat) (by omega)]))
      clear e1 e2 e3 l1 l2 hn hm hc hp h
      go_enter Tryz.func55, Tryz.ntmps55
      go_wp2
      go_ret
      rw [HR.out]
      exact ⟨rfl, rfl⟩
end Go.Proofs.YtebcfbcfipmahaaGreat
