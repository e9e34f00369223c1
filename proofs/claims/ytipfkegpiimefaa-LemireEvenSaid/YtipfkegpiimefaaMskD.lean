/- Layer 39: the law's own check that the program is there; the law MaskHalf. -/
import Derived.Test.YtipfkegpiimefaaMskB
namespace Go.Bv
open Go Go.RowKit
theorem takm_a : takM 7#64 5#64 = false := by decide +kernel
theorem takm_b : takM 12#64 5#64 = true := by decide +kernel
theorem telm_b : W64 (telM 12#64 5#64) = 4 := by decide +kernel
theorem bits_5 : bitsM 5#64 = 3 := by decide +kernel
theorem bits_above (n : BitVec 64) (h : 2 ≤ n.toNat) : ∃ t, bitsM n = t + 1 ∧ t ≤ 63 ∧ 2 ^ t < n.toNat ∧ n.toNat ≤ 2 ^ (t + 1) := by
  have h0 : ¬ n = 0#64 := fun e => by rw [e] at h; exact absurd h (by decide)
  have h1 : (n - 1#64).toNat = n.toNat - 1 := by
    rw [BitVec.toNat_sub_of_le (by rw [BitVec.le_def]; show 1 ≤ n.toNat; omega)]; rfl
  unfold bitsM
  rw [if_neg h0, h1]
  obtain ⟨a, b, _⟩ := bitLen_up (n.toNat - 1) (by have := n.isLt; omega)
  obtain ⟨c, d, e⟩ := b (by omega)
  refine ⟨Lib.bitLen (n.toNat - 1) - 1, by omega, by omega, by omega, ?_⟩
  rw [show Lib.bitLen (n.toNat - 1) - 1 + 1 = Lib.bitLen (n.toNat - 1) by omega]; omega
theorem shr_one (n : BitVec 64) (t : Nat) (h : 2 ^ t < n.toNat) : decide (1 ≤ W64 (n >>> t)) = true := by
  rw [decide_eq_true_eq]
  unfold W64
  rw [BitVec.toNat_ushiftRight, Nat.shiftRight_eq_div_pow]
  have := (Nat.one_le_div_iff (Nat.two_pow_pos t)).2 (Nat.le_of_lt h)
  omega
theorem shl_up (n : BitVec 64) (t : Nat) (ht : t + 1 < 64) (h : n.toNat ≤ 2 ^ (t + 1)) : decide (W64 n ≤ W64 (1#64 <<< (t + 1))) = true := by
  rw [decide_eq_true_eq]
  unfold W64
  rw [BitVec.toNat_shiftLeft, Nat.shiftLeft_eq]
  show (n.toNat : Int) ≤ ((1 * 2 ^ (t + 1) % 2 ^ 64 : Nat) : Int)
  rw [Nat.one_mul, Nat.mod_eq_of_lt ((Nat.pow_lt_pow_iff_right (by omega)).2 ht)]
  omega
end Go.Bv
namespace Go.Proofs.Ytipfkegpiimefaa
open Go.RowKit Go.Bv
set_option linter.unusedVariables false
set_option maxHeartbeats 1000000 in
theorem awake_39 (w : World) : Calls Try.prog 33 #[] w fun e w' => e = .returned (.bool true) ∧ New w w' := by
  have h7 := two_row w 7#64 12#64
  rw [show W64 7#64 = 7 by decide, show W64 12#64 = 12 by decide] at h7
  have H7 := Lib.hid h7
  have HL := Lib.hid (bits_m 5#64)
  rw [show W64 5#64 = 5 by decide, bits_5] at HL
  clear h7
  go_enter Try.func33, Try.ntmps33
  go_wp2_with fail
  refine (new_t _ _ _ _ _ H7.out).mono ?_
  rintro e w1 ⟨b, rfl, hb, ht, hn⟩
  have HN1 := Lib.hid (((New.refl w).alloc _).trans hn)
  have hb2 : w.heap.size ≤ b := by simp at hb; omega
  have HTK := Lib.hid (take_m b b [7#64, 12#64] 0 5#64 (by decide) w1 ht)
  rw [show W64 5#64 = 5 by decide] at HTK
  clear ht hn hb H7
  go_wp2_with fail
  refine HTK.out.mono ?_
  rintro e w2 (⟨j, _, hj, hno, htk, rfl, g, _, hbut, _⟩ | ⟨hno, _⟩)
  · obtain rfl : j = 1 := by
      match j, hj, htk with
      | 0, _, h => exact absurd h (by rw [show ([7#64, 12#64] : List (BitVec 64)).getD 0 0 = 7#64 from rfl, takm_a]; decide)
      | 1, _, _ => rfl
    have HN2 := Lib.hid (hbut.new w HN1.out hb2 hb2)
    rw [show ([7#64, 12#64] : List (BitVec 64)).getD 1 0 = 12#64 from rfl, telm_b]
    generalize W64 (rnkM 12#64 5#64) = rk
    clear hno htk hj hbut HTK HN1
    have hb := heap_alloc_new w2 (.cells #[.int .u64 4, .int .u64 rk, .int .i64 2] 44)
    have c0 := cell_of_row _ _ 0 _ _ _ hb
    have c2 := cell_of_row _ _ 2 _ _ _ hb
    have HN3 := Lib.hid (HN2.out.alloc (.cells #[.int .u64 4, .int .u64 rk, .int .i64 2] 44))
    clear hb
    go_wp2_with fail
    refine (HL.out _).mono ?_
    rintro e w4 ⟨rfl, rfl⟩
    clear c0 c2
    go_wp2
    go_ret
    exact ⟨rfl, HN3.out⟩
  · exfalso
    have := hno 1 (by omega) (by decide)
    rw [show ([7#64, 12#64] : List (BitVec 64)).getD 1 0 = 12#64 from rfl, takm_b] at this
    cases this
end Go.Proofs.Ytipfkegpiimefaa
