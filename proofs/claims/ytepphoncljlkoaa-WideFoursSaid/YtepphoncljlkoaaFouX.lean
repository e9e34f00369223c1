/- The law WideFours. -/
import Derived.Test.YtepphoncljlkoaaFouW
namespace Go.Proofs.Ytepphoncljlkoaa
open Go.RowKit Go.Bv
set_option linter.unusedVariables false
theorem bit_bt (N i : Nat) : (bt N i == 1) = N.testBit i := by
  rw [Nat.testBit_eq_decide_div_mod_eq]
  unfold bt
  by_cases h : N / 2 ^ i % 2 = 1
  · rw [h, decide_eq_true rfl]; rfl
  · rw [decide_eq_false h, show N / 2 ^ i % 2 = 0 by omega]; rfl
theorem WideFours_words (W : World) (c0 c1 c2 c3 d0 d1 d2 d3 : BitVec 64) (n : Int) (hn : n ≤ 9223372036854775807) :
    Calls Try.prog 6 #[.agg #[.int .u64 (W64 c0), .int .u64 (W64 c1), .int .u64 (W64 c2), .int .u64 (W64 c3)], .agg #[.int .u64 (W64 d0), .int .u64 (W64 d1), .int .u64 (W64 d2), .int .u64 (W64 d3)], .int .i64 n] W fun e w' => e = .returned (.bool true) ∧ Below W.heap.size W w' := by
  obtain ⟨K, hK⟩ : ∃ K : Nat, max n 0 = (K : Int) := ⟨(max n 0).toNat, by omega⟩
  obtain ⟨mm, hmm⟩ : ∃ m : Nat, min K 256 = m := ⟨_, rfl⟩
  have lA := four_lt c0 c1 c2 c3
  have lB := four_lt d0 d1 d2 d3
  have hE : (four c0 c1 c2 c3) + 2 ^ 256 - (four d0 d1 d2 d3) + (four d0 d1 d2 d3) = (four c0 c1 c2 c3) + 2 ^ 256 := Nat.sub_add_cancel (Nat.le_trans (Nat.le_of_lt lB) (Nat.le_add_left _ _))
  refine fours_try W c0 c1 c2 c3 d0 d1 d2 d3 _ _ _ _ _ _ _ _ _ _ _ _ n (four c0 c1 c2 c3) (four d0 d1 d2 d3) ((four c0 c1 c2 c3) + (four d0 d1 d2 d3)) ((four c0 c1 c2 c3) + 2 ^ 256 - (four d0 d1 d2 d3)) ((four c0 c1 c2 c3) * 2 ^ mm) K mm _ _ (lenN (four c0 c1 c2 c3) 256) _ _ (decide (0 ≤ n ∧ n < 256) && ((four c0 c1 c2 c3)).testBit n.toNat) _
    (Lib.hid fun w => of4_own c0 c1 c2 c3 w)
    (Lib.hid fun w => of4_own d0 d1 d2 d3 w)
    (Lib.hid fun w => (wadd4 c0 c1 c2 c3 d0 d1 d2 d3 w).mono (by
      rintro e w9 ⟨s0, s1, s2, s3, rfl, ⟨rfl, rfl, rfl, rfl⟩, hn⟩
      exact ⟨rfl, hn⟩))
    (Lib.hid fun w => (wsub4 c0 c1 c2 c3 d0 d1 d2 d3 w).mono (by
      rintro e w9 ⟨x0, x1, x2, x3, k, rfl, ⟨hk, key⟩, hn⟩
      obtain ⟨q0, q1, q2, q3⟩ := four_ofNat ((four c0 c1 c2 c3) + 2 ^ 256 - (four d0 d1 d2 d3)) x0 x1 x2 x3 (1 - k) (by
        generalize (four c0 c1 c2 c3) = A at *
        generalize (four d0 d1 d2 d3) = B at *
        generalize four x0 x1 x2 x3 = X at *
        rcases (show k = 0 ∨ k = 1 by omega) with rfl | rfl
        · rw [Nat.zero_mul, Nat.add_zero] at key; rw [Nat.sub_zero, Nat.mul_one]; omega
        · rw [Nat.one_mul] at key; rw [Nat.sub_self, Nat.mul_zero, Nat.add_zero]; omega)
      rw [← q0, ← q1, ← q2, ← q3]
      exact ⟨rfl, hn⟩))
    (Lib.hid fun w => wcmp4 c0 c1 c2 c3 d0 d1 d2 d3 w)
    (Lib.hid fun ca cb a b w ha hb => badd_own _ _ 256 256 ca cb a b 256 256 rfl (by omega) w ha lA hb lB)
    (Lib.hid fun ca cb a b w ha hb => bsub_own _ _ 256 256 ca cb a b 256 256 rfl (by omega) w ha lA hb lB _ hE)
    (Lib.hid fun ca cb a b w ha hb => bcmp_any _ _ 256 256 ca cb a b w ha lA hb lB)
    (Lib.hid fun c a w h => to4_mod _ c a w h)
    (Lib.hid fun c a w h => to4_mod _ c a w h)
    (Lib.hid fun c a w h => to4_mod _ c a w h)
    (Lib.hid fun w => wbit4 c0 c1 c2 c3 n w)
    (Lib.hid fun w => by
      have h := wlen4_run c0 c1 c2 c3 _ _ _ (len4 c0 c1 c2 c3) rfl rfl rfl (by unfold len4; rfl) w
      rw [← len4_eq] at h
      exact h)
    (Lib.hid fun ca a w h => blen_any _ 256 ca a w h)
    (Lib.hid fun w => wshl4 c0 c1 c2 c3 n K mm hK hn hmm w)
    (Lib.hid fun ca p w h => bshl_own _ 256 ca mm p 256 256 rfl (by omega) (by omega) w h lA)
    (Lib.hid fun w => wof4 c0 w)
    (carry_add4 _ _ lA lB) (lack_sub4 _ _ lA lB) hK (by omega) ?_
  by_cases h : 0 ≤ n ∧ n < 256
  · rw [decide_eq_true h, bit_bt, show n.toNat = K by omega]
  · rw [decide_eq_false h, Bool.false_and, Bool.false_and]
theorem WideFours_walk (W : World) (x0_0 : BitVec 64) (x0_1 : BitVec 64) (x0_2 : BitVec 64) (x0_3 : BitVec 64) (x1_0 : BitVec 64) (x1_1 : BitVec 64) (x1_2 : BitVec 64) (x1_3 : BitVec 64) (a2 : Int) (w2 : (Lit.int .i64 a2).wf = true) :
    Calls Try.prog 6 #[.agg #[.int .u64 (W64 x0_0), .int .u64 (W64 x0_1), .int .u64 (W64 x0_2), .int .u64 (W64 x0_3)], .agg #[.int .u64 (W64 x1_0), .int .u64 (W64 x1_1), .int .u64 (W64 x1_2), .int .u64 (W64 x1_3)], .int .i64 a2] W fun e w' => e = .returned (.bool true) ∧ Below W.heap.size W w' :=
  WideFours_words W x0_0 x0_1 x0_2 x0_3 x1_0 x1_1 x1_2 x1_3 a2 (by simp [Lit.wf, IntKind.min, IntKind.max, IntKind.signed, IntKind.bits] at w2; omega)
end Go.Proofs.Ytepphoncljlkoaa
