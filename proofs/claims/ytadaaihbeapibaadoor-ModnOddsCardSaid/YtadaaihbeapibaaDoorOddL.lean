/- The law ModnOdds: for all words. -/
import Derived.Test.YtadaaihbeapibaaDoorOddtt
import Derived.Test.YtadaaihbeapibaaDoorOddtf
import Derived.Test.YtadaaihbeapibaaDoorOddft
import Derived.Test.YtadaaihbeapibaaDoorOddff
namespace Go.Bv
open Go Go.RowKit
theorem mod_one2 (x : BitVec 64) : (x % 2#64 == 1#64) = decide (x.toNat % 2 = 1) := by
  rw [Bool.eq_iff_iff, beq_iff_eq, decide_eq_true_eq]
  constructor
  · intro e; have := congrArg BitVec.toNat e; rw [BitVec.toNat_umod] at this; exact this
  · intro e; apply BitVec.eq_of_toNat_eq; rw [BitVec.toNat_umod]; exact e
theorem inv_odd_too (a x : BitVec 64) (h : a * x = 1#64) : x.toNat % 2 = 1 := by
  have h1 := congrArg BitVec.toNat h
  rw [BitVec.toNat_mul] at h1
  rcases Nat.mod_two_eq_zero_or_one x.toNat with h2 | h2
  · exfalso
    obtain ⟨k, hk⟩ : ∃ k, x.toNat = 2 * k := ⟨x.toNat / 2, by omega⟩
    rw [hk, Nat.mul_left_comm] at h1
    have h3 : (1#64).toNat = 1 := rfl
    rw [h3] at h1
    generalize a.toNat * k = m at *
    omega
  · exact h2
theorem inv_back (a : BitVec 64) (h : a.toNat % 2 = 1) : invR (invR a 5) 5 = a := by
  have h1 := inv_odd a h
  have h2 := inv_odd (invR a 5) (inv_odd_too a _ h1)
  have e : a * (invR a 5 * invR (invR a 5) 5) = a := by rw [h2, BitVec.mul_one]
  rw [← BitVec.mul_assoc, h1, BitVec.one_mul] at e
  exact e
end Go.Bv
namespace Go.Proofs.YtadaaihbeapibaaDoor
open Go.RowKit Go.Bv
set_option linter.unusedVariables false
theorem of2_n (N : Nat) (hN : N < 2 ^ 128) (w : World) : Calls Tryd.prog 10 #[.agg #[.int .u64 (W64 (hiN (N))), .int .u64 (W64 (loN (N)))]] w fun e w' => ∃ v, e = .returned v ∧ w'.ownsRow w.heap.size 3 1 v 128 ((bitsOf (N) 128).map fun y => .int .i64 y) ∧ New w w' := by
  have h := of2_own (hiN N) (loN N) w
  rw [two_n hN] at h
  exact h
theorem to2_odd (N M : Nat) (hM : N % 2 ^ 128 = M) (w : World) (a : Option Addr) (c : Nat) (h : ZRow w a 128 c (bitsOf (N) 128)) : Calls Tryd.prog 8 #[.slice a 128 c] w fun e w' => e = .returned (.agg #[.int .u64 (W64 (BitVec.ofNat 64 (M / 2 ^ 64))), .int .u64 (W64 (BitVec.ofNat 64 M))]) ∧ New w w' := by
  subst hM
  exact to2_any (N % 2 ^ 128) 128 c a w (by rw [bitsOf_mod]; exact h) (Nat.mod_lt _ (Nat.two_pow_pos _))
theorem times_mod (A B M : Nat) (hA : A < 2 ^ 128) (hB : B < 2 ^ 128) (hM : A * B % 2 ^ 128 = M) (w : World) : Calls Tryd.prog 11 #[.agg #[.int .u64 (W64 (hiN (A))), .int .u64 (W64 (loN (A)))], .agg #[.int .u64 (W64 (hiN (B))), .int .u64 (W64 (loN (B)))]] w fun e w' => e = .returned (.agg #[.int .u64 (W64 (hiN M)), .int .u64 (W64 (loN M))]) ∧ New w w' := by
  subst hM
  rw [hi_mod, lo_mod]
  exact times_n A B hA hB w
theorem w0 : W64 0#64 = 0 := rfl
theorem h00 : W64 (hiN 0) = 0 := rfl
theorem l00 : W64 (loN 0) = 0 := rfl
theorem h01 : W64 (hiN 1) = 0 := rfl
theorem l01 : W64 (loN 1) = 1 := rfl
theorem odds_all (W : World) (a : BitVec 64) (C : Nat) (hC : C < 2 ^ 128) (hT : TabD W) :
    Calls Tryd.prog 3 #[.int .u64 (W64 a), .agg #[.int .u64 (W64 (hiN (C))), .int .u64 (W64 (loN (C)))]] W fun e w' => e = .returned (.bool true) ∧ Below W.heap.size W w' := by
  have HA := Lib.hid awake03
  have hz : ∃ (z : BitVec 64) (s : Nat), (Hid (∀ w : World, New W w → Calls Tryd.prog 12 #[.int .u64 (W64 a)] w fun e w' => e = .returned (.tuple #[.int .u64 (W64 z), .int .i64 (s : Int)]) ∧ w' = w)) ∧ (Hid (∀ w : World, Calls Tryd.prog 13 #[.int .u64 (W64 a)] w fun e w' => e = .returned (.int .i64 (s : Int)) ∧ w' = w)) ∧
      (Hid (((a == 0#64) = true ∧ (W64 a == 0) = true ∧ (z == 0#64) = true ∧ (W64 z == 0) = true) ∨ ((a == 0#64) = false ∧ (W64 a == 0) = false ∧ (z % 2#64 == 1#64) = true ∧ z <<< N64 (BitVec.ofNat 64 s) = a))) := by
    by_cases ha : a = 0#64
    · subst ha
      refine ⟨0#64, 64, Lib.hid fun w _ => ?_, Lib.hid fun w => ?_, Lib.hid (Or.inl ⟨rfl, rfl, rfl, rfl⟩)⟩
      · rw [w0]; exact left_none w
      · rw [w0]; exact twos_none w
    · have hs := tz_lt ha
      refine ⟨a >>> tzN a, tzN a, Lib.hid fun w hn => left_d a ha w (hT.stay hn), Lib.hid fun w => twos_m a ha w, Lib.hid (Or.inr ⟨beq_false_of_ne ha, ?_, ?_, ?_⟩)⟩
      · have := pos_of_ne ha
        rw [beq_eq_false_iff_ne]; unfold W64; omega
      · have h0 := tz_there ha
        rw [mod_two, decide_eq_false_iff_not] at h0
        rw [mod_one2, decide_eq_true_eq]
        omega
      · have e1 : N64 (BitVec.ofNat 64 (tzN a)) = tzN a := by show (BitVec.ofNat 64 (tzN a)).toNat = tzN a; rw [BitVec.toNat_ofNat, Nat.mod_eq_of_lt (by omega)]
        rw [e1]; exact tz_back ha
  obtain ⟨z, s, HL, HTW, HZZ⟩ := hz
  have h0C : C * 0 % 2 ^ 128 = 0 := by rw [Nat.mul_zero, Nat.zero_mod]
  have hY : inv2 C < 2 ^ 128 := Nat.mod_lt _ (Nat.two_pow_pos _)
  have h0Y : (0 : Nat) < 2 ^ 128 := Nat.two_pow_pos _
  rcases Nat.mod_two_eq_zero_or_one a.toNat with ho | ho <;> rcases Nat.mod_two_eq_zero_or_one (loN C).toNat with ht | ht
  · refine odds_ff W a a z C 0 s HA (Lib.hid (odd_even a (by rw [and_zero]; exact decide_eq_true ho))) (Lib.hid fun w => ?_) (Lib.hid fun w => ?_) (Lib.hid (of2_n C hC)) (Lib.hid (of2_n 0 h0Y)) (Lib.hid fun w a b ca cb h1 h2 => bmul_own C 0 128 128 ca cb a b 128 128 rfl (by decide) (by decide) w h1 hC h2 h0Y)
      (Lib.hid fun w a c h => to2_odd (C * 0) 0 h0C w a c h) (Lib.hid fun w => ?_) HL HTW (by rw [mod_one2]; exact decide_eq_false (by omega)) HZZ (by rw [mod_one2]; exact decide_eq_false (by omega)) (Lib.hid rfl)
    · have := odd_even 0#64 rfl w; rw [w0] at this; exact this
    · rw [h00, l00]; have h := odd2_no C ht w; exact h
    · have h := times_mod C 0 0 hC h0Y h0C w; rw [show W64 (hiN 0) = 0 from rfl, show W64 (loN 0) = 0 from rfl] at h ⊢; exact h
  · have hone := inv2_one C ht
    refine odds_ft W a a z C (inv2 C) s HA (Lib.hid (odd_even a (by rw [and_zero]; exact decide_eq_true ho))) (Lib.hid fun w => ?_) (Lib.hid (odd2_yes C hC ht)) (Lib.hid (of2_n C hC)) (Lib.hid (of2_n _ hY)) (Lib.hid fun w a b ca cb h1 h2 => bmul_own C (inv2 C) 128 128 ca cb a b 128 128 rfl (by decide) (by decide) w h1 hC h2 hY)
      (Lib.hid fun w a c h => to2_odd (C * inv2 C) 1 hone w a c h) (Lib.hid fun w => ?_) HL HTW (by rw [mod_one2]; exact decide_eq_false (by omega)) HZZ (by rw [mod_one2]; exact decide_eq_true ht)
    · have := odd_even 0#64 rfl w; rw [w0] at this; exact this
    · have h := times_mod C (inv2 C) 1 hC hY hone w; rw [h01, l01] at h; exact h
  · refine odds_tf W a (invR a 5) z C 0 s HA (Lib.hid (odd_m a (by rw [and_zero]; exact decide_eq_false (by omega)))) (Lib.hid fun w => ?_) (Lib.hid fun w => ?_) (Lib.hid (of2_n C hC)) (Lib.hid (of2_n 0 h0Y)) (Lib.hid fun w a b ca cb h1 h2 => bmul_own C 0 128 128 ca cb a b 128 128 rfl (by decide) (by decide) w h1 hC h2 h0Y)
      (Lib.hid fun w a c h => to2_odd (C * 0) 0 h0C w a c h) (Lib.hid fun w => ?_) HL HTW (by rw [mod_one2]; exact decide_eq_true ho) HZZ (inv_odd a ho) (by rw [mod_one2]; exact decide_eq_false (by omega)) (Lib.hid rfl)
    · have h := odd_m (invR a 5) (by rw [and_zero]; exact decide_eq_false (by have := inv_odd_too a _ (inv_odd a ho); omega)) w; rw [inv_back a ho] at h; exact h
    · rw [h00, l00]; have h := odd2_no C ht w; exact h
    · have h := times_mod C 0 0 hC h0Y h0C w; rw [show W64 (hiN 0) = 0 from rfl, show W64 (loN 0) = 0 from rfl] at h ⊢; exact h
  · have hone := inv2_one C ht
    refine odds_tt W a (invR a 5) z C (inv2 C) s HA (Lib.hid (odd_m a (by rw [and_zero]; exact decide_eq_false (by omega)))) (Lib.hid fun w => ?_) (Lib.hid (odd2_yes C hC ht)) (Lib.hid (of2_n C hC)) (Lib.hid (of2_n _ hY)) (Lib.hid fun w a b ca cb h1 h2 => bmul_own C (inv2 C) 128 128 ca cb a b 128 128 rfl (by decide) (by decide) w h1 hC h2 hY)
      (Lib.hid fun w a c h => to2_odd (C * inv2 C) 1 hone w a c h) (Lib.hid fun w => ?_) HL HTW (by rw [mod_one2]; exact decide_eq_true ho) HZZ (inv_odd a ho) (by rw [mod_one2]; exact decide_eq_true ht)
    · have h := odd_m (invR a 5) (by rw [and_zero]; exact decide_eq_false (by have := inv_odd_too a _ (inv_odd a ho); omega)) w; rw [inv_back a ho] at h; exact h
    · have h := times_mod C (inv2 C) 1 hC hY hone w; rw [h01, l01] at h; exact h
theorem ModnOdds_walk (W : World) (a0 : Int) (w0 : (Lit.int .u64 a0).wf = true) (x1_0 : BitVec 64) (x1_1 : BitVec 64) (hT : TabD W) :
    Calls Tryd.prog 3 #[.int .u64 a0, .agg #[.int .u64 (W64 x1_0), .int .u64 (W64 x1_1)]] W fun e w' => e = .returned (.bool true) ∧ Below W.heap.size W w' := by
  obtain ⟨a, rfl⟩ := wf64 w0
  have h := odds_all W a (two x1_0 x1_1) (two_lt128 x1_0 x1_1) hT
  rw [show hiN (two x1_0 x1_1) = x1_0 from two_hi x1_0 x1_1, show loN (two x1_0 x1_1) = x1_1 from two_lo x1_0 x1_1] at h
  exact h
end Go.Proofs.YtadaaihbeapibaaDoor
