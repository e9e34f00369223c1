/- The law MaskHalf, walked. -/
import Derived.Test.YtipfkegpiimefaaMskD
namespace Go.Proofs.Ytipfkegpiimefaa
open Go.RowKit Go.Bv
set_option linter.unusedVariables false
set_option maxHeartbeats 1000000 in
theorem MaskHalf_walk (W : World) (a0 : Int) (w0 : (Lit.int .u64 a0).wf = true) :
    Calls Try.prog 13 #[.int .u64 a0] W fun e w' => e = .returned (.bool true) ∧ Below W.heap.size W w' := by
  obtain ⟨n, rfl⟩ := ex64 a0 (by simp [Lit.wf, IntKind.min, IntKind.max, IntKind.signed, IntKind.bits] at w0; omega)
  clear w0
  have HB := Lib.hid (bits_m n)
  by_cases h : n = 0#64
  · subst h
    rw [show bitsM 0#64 = 0 by decide +kernel] at HB
    go_enter Try.func13, Try.ntmps13
    go_wp2_with fail
    refine (awake_39 W).mono ?_
    rintro e w1 ⟨rfl, hn1⟩
    have HN1 := Lib.hid hn1
    clear hn1
    go_wp2_with fail
    refine (HB.out _).mono ?_
    rintro e w2 ⟨rfl, rfl⟩
    go_wp2
    go_ret
    exact ⟨rfl, HN1.out⟩
  by_cases h1 : n = 1#64
  · subst h1
    rw [show bitsM 1#64 = 0 by decide +kernel] at HB
    clear h
    go_enter Try.func13, Try.ntmps13
    go_wp2_with fail
    refine (awake_39 W).mono ?_
    rintro e w1 ⟨rfl, hn1⟩
    have HN1 := Lib.hid hn1
    clear hn1
    go_wp2_with fail
    refine (HB.out _).mono ?_
    rintro e w2 ⟨rfl, rfl⟩
    go_wp2
    go_ret
    exact ⟨rfl, HN1.out⟩
  · have h2 : 2 ≤ n.toNat := by
      have a := pos_of_ne h
      have b : n.toNat ≠ 1 := fun e => h1 (BitVec.eq_of_toNat_eq (by rw [e]; rfl))
      omega
    obtain ⟨t, ht, ht63, htl, htu⟩ := bits_above n h2
    rw [ht] at HB
    have z1 : (W64 n == 0) = false := by rw [beq_eq_false_iff_ne]; unfold W64; omega
    have z2 : (W64 n == 1) = false := by rw [beq_eq_false_iff_ne]; unfold W64; omega
    have z3 : decide (1 < W64 n) = true := by rw [decide_eq_true_eq]; unfold W64; omega
    have z4 : (n == 0#64) = false := beq_false_of_ne h
    have z5 : (n == 1#64) = false := beq_false_of_ne h1
    have z6 := shr_one n t htl
    by_cases h64 : t = 63
    · subst h64
      rw [show n >>> 63 = n >>> N64 63#64 from rfl] at z6
      clear ht ht63 htl htu h h1 h2
      go_enter Try.func13, Try.ntmps13
      go_wp2_with fail
      refine (awake_39 W).mono ?_
      rintro e w1 ⟨rfl, hn1⟩
      have HN1 := Lib.hid hn1
      clear hn1
      go_wp2_with fail
      refine (HB.out _).mono ?_
      rintro e w2 ⟨rfl, rfl⟩
      go_wp2
      go_ret
      exact ⟨rfl, HN1.out⟩
    · have z7 := shl_up n t (by omega) htu
      have z8 : t < 63 := by omega
      have z9 : (((t + 1 : Nat) : Int) == 64) = false := by rw [beq_eq_false_iff_ne]; omega
      have e1 : N64 (BitVec.ofNat 64 t) = t := by show (BitVec.ofNat 64 t).toNat = t; rw [BitVec.toNat_ofNat, Nat.mod_eq_of_lt (by omega)]
      have e2 : N64 (BitVec.ofNat 64 t + 1#64) = t + 1 := by show (BitVec.ofNat 64 t + BitVec.ofNat 64 1).toNat = t + 1; rw [← BitVec.ofNat_add, BitVec.toNat_ofNat, Nat.mod_eq_of_lt (by omega)]
      rw [show n >>> t = n >>> N64 (BitVec.ofNat 64 t) by rw [e1]] at z6
      rw [show 1#64 <<< (t + 1) = 1#64 <<< N64 (BitVec.ofNat 64 t + 1#64) by rw [e2]] at z7
      clear e1 e2
      clear ht htl htu h h1 h2 h64
      go_enter Try.func13, Try.ntmps13
      go_wp2_with fail
      refine (awake_39 W).mono ?_
      rintro e w1 ⟨rfl, hn1⟩
      have HN1 := Lib.hid hn1
      clear hn1
      go_wp2_with fail
      refine (HB.out _).mono ?_
      rintro e w2 ⟨rfl, rfl⟩
      go_wp2
      go_ret
      exact ⟨rfl, HN1.out⟩
end Go.Proofs.Ytipfkegpiimefaa
