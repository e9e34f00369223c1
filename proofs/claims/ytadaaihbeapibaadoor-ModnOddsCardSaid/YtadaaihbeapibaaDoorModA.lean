/- Contracts of modn.Add, Sub, Mul: for all words. -/
import Derived.Test.YtadaaihbeapibaaDoorWidA
namespace Go.Proofs.YtadaaihbeapibaaDoor
open Go.RowKit Go.Bv
set_option linter.unusedVariables false
theorem wadd_lo (a b : BitVec 64) (w : World) :
    Calls Tryd.prog 48 #[.agg #[.int .u64 0, .int .u64 (W64 a)], .agg #[.int .u64 0, .int .u64 (W64 b)]] w fun e w' =>
      ∃ o : Bool, e = .returned (.tuple #[.agg #[.int .u64 (W64 (hiN (a.toNat + b.toNat))), .int .u64 (W64 (loN (a.toNat + b.toNat)))], .bool o]) ∧ New w w' := by
  have h := wadd_any 0#64 a 0#64 b w
  rw [lo_zero, show (0#64).toNat = 0 from rfl, Nat.zero_add, show loN (hiN (a.toNat + b.toNat)).toNat = hiN (a.toNat + b.toNat) by unfold loN; rw [ofNat_self]] at h
  exact h.mono fun e w' he => ⟨_, he⟩
set_option maxHeartbeats 1000000 in
theorem madd_any (a b n : BitVec 64) (w : World) :
    Calls Tryd.prog 53 #[.int .u64 (W64 a), .int .u64 (W64 b), .int .u64 (W64 n)] w fun e w' => e = .returned (.int .u64 (W64 (md (a.toNat + b.toNat) n))) ∧ New w w' := by
  have ha := a.isLt
  have hb := b.isLt
  have ht := two_parts (a.toNat + b.toNat) (by omega)
  by_cases h : n = 0#64
  · subst h
    have HZ := Lib.hid (md_zero (a.toNat + b.toNat))
    have HW := Lib.hid (wadd_lo a b)
    have HD := Lib.hid (wdiv_zero (hiN (a.toNat + b.toNat)) (loN (a.toNat + b.toNat)))
    clear ht ha hb
    generalize hiN (a.toNat + b.toNat) = s1 at *
    generalize loN (a.toNat + b.toNat) = s0 at *
    go_enter Tryd.func53, Tryd.ntmps53
    go_wp2_with fail
    refine (HW.out _).mono ?_
    rintro e w1 ⟨o, rfl, hn1⟩
    go_wp2_with fail
    refine (HD.out _).mono ?_
    rintro e w2 ⟨rfl, hn2⟩
    go_wp2
    go_ret
    rw [HZ.out, lo_zero]
    exact ⟨rfl, ((hn1.alloc _).trans hn2).alloc _⟩
  · have hd := fun w => wdiv_any (hiN (a.toNat + b.toNat)) (loN (a.toNat + b.toNat)) n h w
    rw [ht] at hd
    have HW := Lib.hid (wadd_lo a b)
    have HD := Lib.hid hd
    clear ht ha hb hd
    generalize divQ (divR 0#64 (hiN (a.toNat + b.toNat)) n) (loN (a.toNat + b.toNat)) n = q0 at *
    generalize divQ 0#64 (hiN (a.toNat + b.toNat)) n = q1 at *
    generalize hiN (a.toNat + b.toNat) = s1 at *
    generalize loN (a.toNat + b.toNat) = s0 at *
    generalize md (a.toNat + b.toNat) n = m at *
    go_enter Tryd.func53, Tryd.ntmps53
    go_wp2_with fail
    refine (HW.out _).mono ?_
    rintro e w1 ⟨o, rfl, hn1⟩
    go_wp2_with fail
    refine (HD.out _).mono ?_
    rintro e w2 ⟨rfl, hn2⟩
    go_wp2
    go_ret
    exact ⟨rfl, ((hn1.alloc _).trans hn2).alloc _⟩
theorem mul_lt (a b : BitVec 64) : a.toNat * b.toNat < 340282366920938463463374607431768211456 := Nat.mul_lt_mul_of_lt_of_lt a.isLt b.isLt
set_option maxHeartbeats 1000000 in
theorem mmul_any (a b n : BitVec 64) (w : World) :
    Calls Tryd.prog 43 #[.int .u64 (W64 a), .int .u64 (W64 b), .int .u64 (W64 n)] w fun e w' => e = .returned (.int .u64 (W64 (md (a.toNat * b.toNat) n))) ∧ New w w' := by
  have ht := two_parts (a.toNat * b.toNat) (mul_lt a b)
  by_cases h : n = 0#64
  · subst h
    have HZ := Lib.hid (md_zero (a.toNat * b.toNat))
    have HW := Lib.hid (wmul_any a b)
    have HD := Lib.hid (wdiv_zero (hiN (a.toNat * b.toNat)) (loN (a.toNat * b.toNat)))
    clear ht
    generalize hiN (a.toNat * b.toNat) = s1 at *
    generalize loN (a.toNat * b.toNat) = s0 at *
    go_enter Tryd.func43, Tryd.ntmps43
    go_wp2_with fail
    refine (HW.out _).mono ?_
    rintro e w1 ⟨rfl, hn1⟩
    go_wp2_with fail
    refine (HD.out _).mono ?_
    rintro e w2 ⟨rfl, hn2⟩
    go_wp2
    go_ret
    rw [HZ.out, lo_zero]
    exact ⟨rfl, (hn1.trans hn2).alloc _⟩
  · have hd := fun w => wdiv_any (hiN (a.toNat * b.toNat)) (loN (a.toNat * b.toNat)) n h w
    rw [ht] at hd
    have HW := Lib.hid (wmul_any a b)
    have HD := Lib.hid hd
    clear ht hd
    generalize divQ (divR 0#64 (hiN (a.toNat * b.toNat)) n) (loN (a.toNat * b.toNat)) n = q0 at *
    generalize divQ 0#64 (hiN (a.toNat * b.toNat)) n = q1 at *
    generalize hiN (a.toNat * b.toNat) = s1 at *
    generalize loN (a.toNat * b.toNat) = s0 at *
    generalize md (a.toNat * b.toNat) n = m at *
    go_enter Tryd.func43, Tryd.ntmps43
    go_wp2_with fail
    refine (HW.out _).mono ?_
    rintro e w1 ⟨rfl, hn1⟩
    go_wp2_with fail
    refine (HD.out _).mono ?_
    rintro e w2 ⟨rfl, hn2⟩
    go_wp2
    go_ret
    exact ⟨rfl, (hn1.trans hn2).alloc _⟩
set_option maxHeartbeats 1000000 in
theorem msub_any (a b n : BitVec 64) (w : World) :
    Calls Tryd.prog 42 #[.int .u64 (W64 a), .int .u64 (W64 b), .int .u64 (W64 n)] w fun e w' => e = .returned (.int .u64 (W64 (md (a.toNat + (n.toNat - b.toNat % n.toNat)) n))) ∧ New w w' := by
  by_cases h : n = 0#64
  · subst h
    have HZ := Lib.hid (md_zero (a.toNat + ((0#64).toNat - b.toNat % (0#64).toNat)))
    go_enter Tryd.func42, Tryd.ntmps42
    go_wp2
    go_ret
    rw [HZ.out, lo_zero]
    exact ⟨rfl, New.refl _⟩
  · have hb : (n == 0#64) = false := by rw [beq_eq_false_iff_ne]; exact h
    have hp := pos_of_ne h
    have hnz : ¬ W64 n = 0 := by unfold W64; omega
    have he : (n - b % n).toNat = n.toNat - b.toNat % n.toNat := by
      rw [sub_nat (by rw [BitVec.toNat_umod]; exact Nat.le_of_lt (Nat.mod_lt _ hp)), BitVec.toNat_umod]
    have ha := fun w => madd_any a (n - b % n) n w
    rw [he] at ha
    have HA := Lib.hid ha
    clear ha he hp h
    go_enter Tryd.func42, Tryd.ntmps42
    go_wp2_with fail
    refine (HA.out _).mono ?_
    rintro e w1 ⟨rfl, hn1⟩
    go_wp2
    go_ret
    exact ⟨rfl, hn1⟩
end Go.Proofs.YtadaaihbeapibaaDoor
