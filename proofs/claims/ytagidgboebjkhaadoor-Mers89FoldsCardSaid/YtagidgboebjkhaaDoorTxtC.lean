/- Layer 1: decimal digits of a number of four words. -/
import Derived.Test.YtagidgboebjkhaaDoorTxtA
import Derived.Test.YtagidgboebjkhaaDoorTxtB
import Derived.Test.YtagidgboebjkhaaDoorEqF
namespace Go.Bv
open Go Go.RowKit
theorem ten19 : (10 : Nat) ^ 19 = 10000000000000000000 := by decide
theorem ten_small {i N A B : Nat} (hN : N = A * 10 ^ (19 * i) + B) (hA : 0 < A) (hN2 : N < 2 ^ 256) : i ≤ 4 := by
  rcases Nat.lt_or_ge 4 i with h | h
  · exfalso
    have h1 : (10 : Nat) ^ 95 ≤ 10 ^ (19 * i) := Nat.pow_le_pow_right (by omega) (by omega)
    have h2 : 10 ^ (19 * i) ≤ A * 10 ^ (19 * i) := Nat.le_mul_of_pos_left _ hA
    have h3 : (2 : Nat) ^ 256 < 10 ^ 95 := by decide
    omega
  · exact h
theorem big_step {i N A B : Nat} (hN : N = A * 10 ^ (19 * i) + B) (hB : B < 10 ^ (19 * i)) : N = (A / 10000000000000000000) * 10 ^ (19 * (i + 1)) + (A % 10000000000000000000 * 10 ^ (19 * i) + B) ∧ A % 10000000000000000000 * 10 ^ (19 * i) + B < 10 ^ (19 * (i + 1)) := by
  have e : 10 ^ (19 * (i + 1)) = 10000000000000000000 * 10 ^ (19 * i) := by rw [show 19 * (i + 1) = 19 * i + 19 by omega, Nat.pow_add, ten19, Nat.mul_comm]
  refine ⟨?_, ?_⟩
  · rw [hN, e, ← Nat.mul_assoc, ← Nat.add_assoc, ← Nat.add_mul, Nat.mul_comm (A / _), Nat.div_add_mod]
  · rw [e]
    have h1 : A % 10000000000000000000 + 1 ≤ 10000000000000000000 := Nat.mod_lt _ (by omega)
    have h2 := Nat.mul_le_mul_right (10 ^ (19 * i)) h1
    rw [Nat.add_mul, Nat.one_mul] at h2
    omega
theorem last_step {i N A B : Nat} (hN : N = A * 10 ^ (19 * i) + B) (hB : B < 10 ^ (19 * i)) (hi : i = 0 ∨ 0 < A) (hz : A / 10000000000000000000 = 0) : dS (A % 10000000000000000000) ++ pS (19 * i) B = dS N := by
  have hA : A % 10000000000000000000 = A := Nat.mod_eq_of_lt (by omega)
  rw [hA, hN]
  exact dS_split _ _ _ hB (by rcases hi with h | h <;> omega)
theorem mid_step (i r B : Nat) (hr : r < 10000000000000000000) (hB : B < 10 ^ (19 * i)) : (⟨(List.replicate (19 - Lib.nDigits r) (48 : UInt8)).toArray⟩ ++ dS r) ++ pS (19 * i) B = pS (19 * (i + 1)) (r * 10 ^ (19 * i) + B) := by
  have e : (⟨(List.replicate (19 - Lib.nDigits r) (48 : UInt8)).toArray⟩ : ByteArray) ++ dS r = pS 19 r := by
    unfold dS pS
    rw [two_arr, padD_19 r (by rw [ten19]; exact hr)]
  rw [e, pS_split _ _ _ _ hB, show 19 + 19 * i = 19 * (i + 1) by omega]
theorem nd_19 (r : Nat) (hr : r < 10000000000000000000) : 1 ≤ Lib.nDigits r ∧ Lib.nDigits r ≤ 19 := ⟨Lib.nDigits_pos r, nDig_le 19 r (by omega) (by rw [ten19]; exact hr)⟩
/-- how long a text is -/
def szS : Value → Nat
  | .string s => s.size
  | _ => 0
end Go.Bv
namespace Go.Proofs.YtagidgboebjkhaaDoor
open Go.RowKit Go.Bv
set_option linter.unusedVariables false
set_option maxRecDepth 100000
theorem four_pos (x0 x1 x2 x3 : BitVec 64) : (x0 == 0#64 && (x1 == 0#64 && (x2 == 0#64 && x3 == 0#64))) = decide (four x0 x1 x2 x3 = 0) := by
  have h0 : four 0#64 0#64 0#64 0#64 = 0 := rfl
  rw [eq4F, h0]
set_option maxHeartbeats 8000000 in
theorem text_4 (c0 c1 c2 c3 : BitVec 64) (w : World) (ht : Lib.TabIs Tryd.prog w "internal/strconv.uint64pow10" .u64 Lib.pow10Tab) : Calls Tryd.prog 25 #[.agg #[.int .u64 (W64 c0), .int .u64 (W64 c1), .int .u64 (W64 c2), .int .u64 (W64 c3)]] w fun e w' => e = .returned (.string (dS (four c0 c1 c2 c3))) ∧ New w w' := by
  have hlt := four_lt c0 c1 c2 c3
  generalize hN : four c0 c1 c2 c3 = N at *
  have HT := Lib.hid (fun (w' : World) (hn : New w w') (u : Nat) (hu : u < 18446744073709551616) => fmt_u u hu w' (tabIs_stay ht hn))
  have HB0 := Lib.hid (heap_alloc_new w (.cells #[.int .u64 (W64 c0), .int .u64 (W64 c1), .int .u64 (W64 c2), .int .u64 (W64 c3)] 24))
  have HN0 := Lib.hid ((New.refl w).alloc (.cells #[.int .u64 (W64 c0), .int .u64 (W64 c1), .int .u64 (W64 c2), .int .u64 (W64 c3)] 24))
  have HNN := Lib.hid hN
  have HLT := Lib.hid hlt
  clear ht hN hlt
  go_enter Tryd.func25, Tryd.ntmps25
  go_wp2_with fail
  go_loopw [3] (fun s wr => ∃ (i B : Nat) (a0 a1 a2 a3 : BitVec 64), s = .string (pS (19 * i) B) ∧ Hid (N = four a0 a1 a2 a3 * 10 ^ (19 * i) + B ∧ B < 10 ^ (19 * i) ∧ (i = 0 ∨ 0 < four a0 a1 a2 a3)) ∧ Hid (wr.heap[w.heap.size]? = some (.cells #[.int .u64 (W64 a0), .int .u64 (W64 a1), .int .u64 (W64 a2), .int .u64 (W64 a3)] 24 (0, 0))) ∧ Hid (New w wr)) (fun s _ => 200 - szS s)
  case atStart => exact ⟨0, 0, c0, c1, c2, c3, rfl, Lib.hid ⟨by rw [HNN.out]; omega, by decide, .inl rfl⟩, HB0, HN0⟩
  case round =>
    obtain ⟨i, B, a0, a1, a2, a3, rfl, HI, HB, HN⟩ := hrel
    obtain ⟨q0, q1, q2, q3, r3, r2, r1, r0, hD⟩ : ∃ q0 q1 q2 q3 r3 r2 r1 r0, Dv4 a0 a1 a2 a3 10000000000000000000#64 q0 q1 q2 q3 r3 r2 r1 r0 := ⟨_, _, _, _, _, _, _, _, ⟨rfl, rfl, rfl, rfl, rfl, rfl, rfl, rfl⟩⟩
    have hb : 0 < (10000000000000000000#64 : BitVec 64).toNat := by decide
    have hb2 : (10000000000000000000#64 : BitVec 64).toNat = 10000000000000000000 := by decide
    have HDV := Lib.hid (fun w => divide_4 a0 a1 a2 a3 10000000000000000000#64 q0 q1 q2 q3 r3 r2 r1 r0 hb hD w)
    rw [show W64 10000000000000000000#64 = 10000000000000000000 from by decide] at HDV
    obtain ⟨hq, hr, _⟩ := hD.is hb
    rw [hb2] at hq hr
    have HQ := Lib.hid hq
    have HRR := Lib.hid hr
    have hrlt : r0.toNat < 10000000000000000000 := by rw [hr]; exact Nat.mod_lt _ (by omega)
    have HRL := Lib.hid hrlt
    clear hD hb hb2 hq hr
    have c0 := cell_of_row _ _ 0 _ _ _ HB.out
    have c1 := cell_of_row _ _ 1 _ _ _ HB.out
    have c2 := cell_of_row _ _ 2 _ _ _ HB.out
    have c3 := cell_of_row _ _ 3 _ _ _ HB.out
    clear hrlt
    go_wp2_with fail
    refine (HDV.out _).mono ?_
    rintro e w2 ⟨rfl, hn⟩
    have hb9 := (hn.block _ (lt_of_block HB.out)).trans HB.out
    clear c0 c1 c2 c3
    have c0 := cell_of_row _ _ 0 _ _ _ hb9
    have c1 := cell_of_row _ _ 1 _ _ _ hb9
    have c2 := cell_of_row _ _ 2 _ _ _ hb9
    have c3 := cell_of_row _ _ 3 _ _ _ hb9
    have cf := fun j => frozen_of_row _ _ j _ _ hb9
    generalize hW2 : (((w2.setCell ⟨w.heap.size, 0, none⟩ (.int .u64 (W64 q0))).setCell ⟨w.heap.size, 1, none⟩ (.int .u64 (W64 q1))).setCell ⟨w.heap.size, 2, none⟩ (.int .u64 (W64 q2))).setCell ⟨w.heap.size, 3, none⟩ (.int .u64 (W64 q3)) = w3
    have HB3 : Hid (w3.heap[w.heap.size]? = some (.cells #[.int .u64 (W64 q0), .int .u64 (W64 q1), .int .u64 (W64 q2), .int .u64 (W64 q3)] 24 (0, 0))) := Lib.hid (by rw [← hW2]; exact heap_setCell_same _ _ 3 _ _ _ (heap_setCell_same _ _ 2 _ _ _ (heap_setCell_same _ _ 1 _ _ _ (heap_setCell_same _ _ 0 _ _ _ hb9))))
    have HN3 : Hid (New w w3) := Lib.hid (by rw [← hW2]; exact put4_factsT _ _ _ _ hb9 w (HN.out.trans hn) (Nat.le_refl _))
    have HF := Lib.hid (HT.out w3 HN3.out r0.toNat r0.isLt)
    clear hb9 hn HDV
    go_wp2_with fail
    refine HF.out.mono ?_
    rintro e w4 ⟨rfl, hn⟩
    replace HB3 := Lib.hid ((hn.block _ (lt_of_block HB3.out)).trans HB3.out)
    replace HN3 := Lib.hid (HN3.out.trans hn)
    clear c0 c1 c2 c3 cf hn HF hW2
    have c0 := cell_of_row _ _ 0 _ _ _ HB3.out
    have c1 := cell_of_row _ _ 1 _ _ _ HB3.out
    have c2 := cell_of_row _ _ 2 _ _ _ HB3.out
    have c3 := cell_of_row _ _ 3 _ _ _ HB3.out
    have heq := fun w => eq256 w q0 q1 q2 q3 0#64 0#64 0#64 0#64
    rw [four_pos, HQ.out, show W64 0#64 = 0 from by decide] at heq
    have hs20 : (dS r0.toNat).size ≤ 19 := by rw [dS_size]; exact (nd_19 _ HRL.out).2
    have hs1 := pS_size (19 * i) B
    have HNS := Lib.hid (dS_size r0.toNat)
    by_cases hz : four a0 a1 a2 a3 / 10000000000000000000 = 0
    · have HV := Lib.hid (last_step HI.out.1 HI.out.2.1 HI.out.2.2 hz)
      rw [← HRR.out] at HV
      rw [decide_eq_true hz] at heq
      have hi5 : i ≤ 5 := by
        rcases HI.out.2.2 with h | h
        · omega
        · have := ten_small HI.out.1 h HLT.out; omega
      have hsz : ¬ 9223372036854775807 < (dS r0.toNat).size + (pS (19 * i) B).size := by omega
      clear hz hs20 hs1 hi5
      go_wp2
      go_ret
      exact ⟨by rw [HV.out]; rfl, HN3.out⟩
    · rw [decide_eq_false hz] at heq
      have hA0 : 0 < four a0 a1 a2 a3 := by omega
      have hi4 := ten_small HI.out.1 hA0 HLT.out
      obtain ⟨g1, g2⟩ := big_step HI.out.1 HI.out.2.1
      have HM := Lib.hid (mid_step i r0.toNat B HRL.out HI.out.2.1)
      have HI2 : Hid (N = four q0 q1 q2 q3 * 10 ^ (19 * (i + 1)) + (r0.toNat * 10 ^ (19 * i) + B) ∧ r0.toNat * 10 ^ (19 * i) + B < 10 ^ (19 * (i + 1)) ∧ (i + 1 = 0 ∨ 0 < four q0 q1 q2 q3)) := Lib.hid (by
        rw [HQ.out, HRR.out]
        exact ⟨g1, g2, .inr (by omega)⟩)
      have HRP := Lib.hid (fun w => rep_any (19 - Lib.nDigits r0.toNat) (by omega) w)
      obtain ⟨n1, n2⟩ := nd_19 _ HRL.out
      rw [show ((19 - Lib.nDigits r0.toNat : Nat) : Int) = 19 - ((dS r0.toNat).size : Int) by rw [HNS.out]; omega] at HRP
      have hw : wrap64 (19 - ((dS r0.toNat).size : Int)) = 19 - ((dS r0.toNat).size : Int) := by unfold wrap64; omega
      have HS2 := Lib.hid (pS_size (19 * (i + 1)) (r0.toNat * 10 ^ (19 * i) + B))
      have hrs : (⟨(List.replicate (19 - Lib.nDigits r0.toNat) (48 : UInt8)).toArray⟩ : ByteArray).size ≤ 19 := by
        show (List.replicate (19 - Lib.nDigits r0.toNat) (48 : UInt8)).toArray.size ≤ 19
        rw [List.size_toArray, List.length_replicate]; omega
      generalize (⟨(List.replicate (19 - Lib.nDigits r0.toNat) (48 : UInt8)).toArray⟩ : ByteArray) = rep at *
      have hz1 : ¬ 9223372036854775807 < rep.size + (dS r0.toNat).size := by omega
      have hz2 : ¬ 9223372036854775807 < (rep ++ dS r0.toNat).size + (pS (19 * i) B).size := by rw [ByteArray.size_append]; omega
      have HI4 := Lib.hid hi4
      clear hz hA0 hi4 g1 g2 n1 n2 hrs hs20 hs1
      go_wp2_with fail
      refine (HRP.out _).mono ?_
      rintro e w5 ⟨rfl, hn⟩
      replace HB3 := Lib.hid ((hn.block _ (lt_of_block HB3.out)).trans HB3.out)
      replace HN3 := Lib.hid (HN3.out.trans hn)
      clear hn hw c0 c1 c2 c3 heq
      go_wp2
      refine ⟨⟨i + 1, _, q0, q1, q2, q3, by rw [HM.out], HI2, HB3, HN3⟩, ?_⟩
      rw [HM.out]
      show 200 - (pS _ _).size < 200 - (pS _ _).size
      rw [HS2.out, pS_size]
      have := HI4.out
      omega
end Go.Proofs.YtagidgboebjkhaaDoor
