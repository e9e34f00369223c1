/- Layer 1: ten times a number of four words and a digit more; texts of digits. -/
import Derived.Test.YtgekdcedijbmaaaDoorTxtB
import Derived.Test.YtgekdcedijbmaaaDoorTxtM
import Derived.Test.YtgekdcedijbmaaaDoorWidA
namespace Go.Bv
open Go Go.RowKit
theorem loN_nat (N : Nat) : (loN N).toNat = N % 18446744073709551616 := by unfold loN; rw [BitVec.toNat_ofNat]
theorem hiN_nat (N : Nat) (h : N < 340282366920938463463374607431768211456) : (hiN N).toNat = N / 18446744073709551616 := by
  unfold hiN
  rw [BitVec.toNat_ofNat]
  omega
/-- a word, ten times, and more: its low word; what goes beyond -/
def apM (a c : BitVec 64) : BitVec 64 := loN ((loN (a.toNat * 10)).toNat + c.toNat)
def apC (a c : BitVec 64) : BitVec 64 := hiN (a.toNat * 10) + hiN ((loN (a.toNat * 10)).toNat + c.toNat)
set_option maxRecDepth 100000 in
theorem ap_word (a c : BitVec 64) : (apC a c).toNat * 18446744073709551616 + (apM a c).toNat = a.toNat * 10 + c.toNat := by
  have ha := a.isLt
  have hc := c.isLt
  unfold apM apC
  have h1 : (loN (a.toNat * 10)).toNat = a.toNat * 10 % 18446744073709551616 := loN_nat _
  have h2 : (hiN (a.toNat * 10)).toNat = a.toNat * 10 / 18446744073709551616 := hiN_nat _ (by omega)
  have h3 : (hiN ((loN (a.toNat * 10)).toNat + c.toNat)).toNat = ((loN (a.toNat * 10)).toNat + c.toNat) / 18446744073709551616 := hiN_nat _ (by omega)
  have h4 : (loN ((loN (a.toNat * 10)).toNat + c.toNat)).toNat = ((loN (a.toNat * 10)).toNat + c.toNat) % 18446744073709551616 := loN_nat _
  rw [BitVec.toNat_add, h3, h4, h2, h1]
  omega
theorem ap_four (K a0 a1 a2 a3 m0 m1 m2 m3 c0 c1 c2 c3 c4 : Nat) (e0 : c1 * K + m0 = a0 * 10 + c0) (e1 : c2 * K + m1 = a1 * 10 + c1) (e2 : c3 * K + m2 = a2 * 10 + c2) (e3 : c4 * K + m3 = a3 * 10 + c3) :
    (a0 + K * (a1 + K * (a2 + K * a3))) * 10 + c0 = (m0 + K * (m1 + K * (m2 + K * m3))) + K * (K * (K * (K * c4))) := by
  have f2 : (a2 + K * a3) * 10 + c2 = (m2 + K * m3) + K * (K * c4) := by
    rw [Nat.add_mul, Nat.mul_assoc, show a3 * 10 = c4 * K + m3 - c3 by omega]
    have : K * (c4 * K + m3 - c3) = K * (c4 * K + m3) - K * c3 := Nat.mul_sub _ _ _
    rw [this, Nat.mul_add, Nat.mul_comm c4 K]
    have h3 : K * c3 ≤ K * (K * c4) + K * m3 := by rw [← Nat.mul_add]; exact Nat.mul_le_mul_left _ (by rw [Nat.mul_comm K c4]; omega)
    have : c3 * K = K * c3 := Nat.mul_comm _ _
    omega
  have f1 : (a1 + K * (a2 + K * a3)) * 10 + c1 = (m1 + K * (m2 + K * m3)) + K * (K * (K * c4)) := by
    rw [Nat.add_mul, Nat.mul_assoc, show (a2 + K * a3) * 10 = (m2 + K * m3) + K * (K * c4) - c2 by omega]
    have : K * ((m2 + K * m3) + K * (K * c4) - c2) = K * ((m2 + K * m3) + K * (K * c4)) - K * c2 := Nat.mul_sub _ _ _
    rw [this, Nat.mul_add]
    have h3 : K * c2 ≤ K * (m2 + K * m3) + K * (K * (K * c4)) := by rw [← Nat.mul_add]; exact Nat.mul_le_mul_left _ (by omega)
    have : c2 * K = K * c2 := Nat.mul_comm _ _
    omega
  rw [Nat.add_mul, Nat.mul_assoc, show (a1 + K * (a2 + K * a3)) * 10 = (m1 + K * (m2 + K * m3)) + K * (K * (K * c4)) - c1 by omega]
  have : K * ((m1 + K * (m2 + K * m3)) + K * (K * (K * c4)) - c1) = K * ((m1 + K * (m2 + K * m3)) + K * (K * (K * c4))) - K * c1 := Nat.mul_sub _ _ _
  rw [this, Nat.mul_add]
  have h3 : K * c1 ≤ K * (m1 + K * (m2 + K * m3)) + K * (K * (K * (K * c4))) := by rw [← Nat.mul_add]; exact Nat.mul_le_mul_left _ (by omega)
  have : c1 * K = K * c1 := Nat.mul_comm _ _
  omega
/-- the words of ten times a number and a digit -/
structure Ap4 (a0 a1 a2 a3 c0 m0 m1 m2 m3 c1 c2 c3 c4 : BitVec 64) : Prop where
  f0 : m0 = apM a0 c0
  f1 : c1 = apC a0 c0
  f2 : m1 = apM a1 c1
  f3 : c2 = apC a1 c1
  f4 : m2 = apM a2 c2
  f5 : c3 = apC a2 c2
  f6 : m3 = apM a3 c3
  f7 : c4 = apC a3 c3
theorem Ap4.is {a0 a1 a2 a3 c0 m0 m1 m2 m3 c1 c2 c3 c4 : BitVec 64} (h : Ap4 a0 a1 a2 a3 c0 m0 m1 m2 m3 c1 c2 c3 c4) : four a0 a1 a2 a3 * 10 + c0.toNat = four m0 m1 m2 m3 + 2 ^ 256 * c4.toNat := by
  have e0 := ap_word a0 c0
  have e1 := ap_word a1 c1
  have e2 := ap_word a2 c2
  have e3 := ap_word a3 c3
  rw [← h.f0, ← h.f1] at e0
  rw [← h.f2, ← h.f3] at e1
  rw [← h.f4, ← h.f5] at e2
  rw [← h.f6, ← h.f7] at e3
  have := ap_four 18446744073709551616 _ _ _ _ _ _ _ _ _ _ _ _ _ e0 e1 e2 e3
  have hk : 18446744073709551616 * (18446744073709551616 * (18446744073709551616 * (18446744073709551616 * c4.toNat))) = 2 ^ 256 * c4.toNat := by rw [p256, Nat.mul_assoc, Nat.mul_assoc, Nat.mul_assoc]
  unfold four
  rw [← hk]
  exact this
/-- a text's bytes -/
theorem byte_at (s : ByteArray) (k : Nat) (h : k < s.size) : s.data.toList[k]? = some s[k] := by
  rw [List.getElem?_eq_getElem (show k < s.data.toList.length by rw [Array.length_toList]; exact h)]; rfl
theorem all_no {s : ByteArray} {k : Nat} (h : k < s.size) (hd : isD s[k] = false) : plD s.data.toList = false := by
  unfold plD
  have : s.data.toList.all isD = false := by
    rw [List.all_eq_false]
    exact ⟨s[k], List.mem_of_getElem? (byte_at s k h), by rw [hd]; decide⟩
  rw [this, Bool.false_and]
theorem all_yes {s : ByteArray} (hd : ∀ k (h : k < s.size), isD s[k] = true) : s.data.toList.all isD = true := by
  rw [List.all_eq_true]
  intro c hc
  obtain ⟨k, hk⟩ := List.getElem?_of_mem hc
  have hl : k < s.size := by
    rcases Nat.lt_or_ge k s.size with h | h
    · exact h
    · rw [List.getElem?_eq_none (by rw [Array.length_toList]; exact h)] at hk; cases hk
  rw [byte_at s k hl] at hk
  rw [← Option.some.inj hk]
  exact hd k hl
theorem pl_end {s : ByteArray} (h0 : 0 < s.size) (hd : ∀ k (h : k < s.size), isD s[k] = true) : plD s.data.toList = (decide (s.size = 1) || !(decide (s[0].toNat = 48))) := by
  unfold plD
  rw [all_yes hd, Bool.true_and]
  have e1 : (s.data.toList.length == 1) = decide (s.size = 1) := by
    rw [Array.length_toList]
    by_cases h : s.size = 1
    · rw [decide_eq_true h]; exact beq_iff_eq.2 h
    · rw [decide_eq_false h]; exact beq_eq_false_iff_ne.2 h
  have e2 : (s.data.toList.head? != some 48) = !(decide (s[0].toNat = 48)) := by
    rw [List.head?_eq_getElem?, byte_at s 0 h0]
    by_cases h : s[0].toNat = 48
    · rw [decide_eq_true h, show s[0] = 48 from UInt8.toNat_inj.1 h]; rfl
    · rw [decide_eq_false h]
      exact bne_iff_ne.2 (fun e => h (by rw [Option.some.inj e]; rfl))
  rw [e1, e2]
theorem isD_low {c : UInt8} (h : c.toNat < 48) : isD c = false := by unfold isD; rw [decide_eq_true h]; rfl
theorem isD_high {c : UInt8} (h : 57 < c.toNat) : isD c = false := by unfold isD; rw [decide_eq_true h, Bool.not_true, Bool.and_false]
theorem isD_mid {c : UInt8} (h : ¬ c.toNat < 48) (h2 : ¬ 57 < c.toNat) : isD c = true := by unfold isD; rw [decide_eq_false h, decide_eq_false h2]; rfl
end Go.Bv
namespace Go.Proofs.YtgekdcedijbmaaaDoor
open Go.RowKit Go.Bv
set_option linter.unusedVariables false
set_option maxRecDepth 100000
theorem mul64_runT (x y : BitVec 64) (w : World) : Calls Tryd.prog 25 #[.int .u64 (W64 x), .int .u64 (W64 y)] w fun e w' => e = .returned (.tuple #[.int .u64 (W64 (hiN (x.toNat * y.toNat))), .int .u64 (W64 (loN (x.toNat * y.toNat)))]) ∧ w' = w := by
  have hx := x.isLt
  have hy := y.isLt
  have h := Tryd.bits_Mul64 x.toNat y.toNat hx hy w
  have hl : x.toNat * y.toNat / 18446744073709551616 < 18446744073709551616 := by
    rw [Nat.div_lt_iff_lt_mul (by omega)]
    exact Nat.mul_lt_mul_of_lt_of_lt hx hy
  have e1 : ((x.toNat * y.toNat / 18446744073709551616 : Nat) : Int) = W64 (hiN (x.toNat * y.toNat)) := by
    unfold W64 hiN; rw [BitVec.toNat_ofNat, Nat.mod_eq_of_lt hl]
  have e2 : ((x.toNat * y.toNat % 18446744073709551616 : Nat) : Int) = W64 (loN (x.toNat * y.toNat)) := by
    unfold W64 loN; rw [BitVec.toNat_ofNat]
  rw [e1, e2] at h
  exact h
set_option maxHeartbeats 8000000 in
theorem append_10 (a0 a1 a2 a3 c0 m0 m1 m2 m3 c1 c2 c3 c4 : BitVec 64) (h : Ap4 a0 a1 a2 a3 c0 m0 m1 m2 m3 c1 c2 c3 c4) (w : World) : Calls Tryd.prog 17 #[.agg #[.int .u64 (W64 a0), .int .u64 (W64 a1), .int .u64 (W64 a2), .int .u64 (W64 a3)], .int .u64 (W64 c0)] w fun e w' => e = .returned (.tuple #[.agg #[.int .u64 (W64 m0), .int .u64 (W64 m1), .int .u64 (W64 m2), .int .u64 (W64 m3)], .bool (c4 != 0#64)]) ∧ New w w' := by
  have hmul : ∀ (a : BitVec 64) (w : World), Calls Tryd.prog 25 #[.int .u64 (W64 a), .int .u64 10] w fun e w' => e = .returned (.tuple #[.int .u64 (W64 (hiN (a.toNat * 10))), .int .u64 (W64 (loN (a.toNat * 10)))]) ∧ w' = w := by
    intro a w
    have := mul64_runT a 10#64 w
    rw [show W64 10#64 = 10 from by decide, show (10#64 : BitVec 64).toNat = 10 from rfl] at this
    exact this
  have M := Lib.hid hmul
  have hadd : ∀ (x y : BitVec 64) (w : World), (callFunc 35 #[.int .u64 (W64 x), .int .u64 (W64 y), .int .u64 0]).run Tryd.prog w = .ok (.value (.tuple #[.int .u64 (W64 (loN (x.toNat + y.toNat))), .int .u64 (W64 (hiN (x.toNat + y.toNat)))])) w := fun x y w => add64_run0 x y w
  obtain ⟨f0, f1, f2, f3, f4, f5, f6, f7⟩ := h
  have K0 := Lib.hid (show loN ((loN (a0.toNat * 10)).toNat + c0.toNat) = m0 ∧ hiN (a0.toNat * 10) + hiN ((loN (a0.toNat * 10)).toNat + c0.toNat) = c1 from ⟨f0.symm, f1.symm⟩)
  have K1 := Lib.hid (show loN ((loN (a1.toNat * 10)).toNat + c1.toNat) = m1 ∧ hiN (a1.toNat * 10) + hiN ((loN (a1.toNat * 10)).toNat + c1.toNat) = c2 from ⟨f2.symm, f3.symm⟩)
  have K2 := Lib.hid (show loN ((loN (a2.toNat * 10)).toNat + c2.toNat) = m2 ∧ hiN (a2.toNat * 10) + hiN ((loN (a2.toNat * 10)).toNat + c2.toNat) = c3 from ⟨f4.symm, f5.symm⟩)
  have K3 := Lib.hid (show loN ((loN (a3.toNat * 10)).toNat + c3.toNat) = m3 ∧ hiN (a3.toNat * 10) + hiN ((loN (a3.toNat * 10)).toNat + c3.toNat) = c4 from ⟨f6.symm, f7.symm⟩)
  clear f0 f1 f2 f3 f4 f5 f6 f7 hmul
  generalize hW : (w.alloc (.cells #[.int .u64 (W64 a0), .int .u64 (W64 a1), .int .u64 (W64 a2), .int .u64 (W64 a3)] 24)).alloc (.cells #[.int .u64 0, .int .u64 0, .int .u64 0, .int .u64 0] 24) = w0
  have HP : Hid (w0.heap[w.heap.size]? = some (.cells #[.int .u64 (W64 a0), .int .u64 (W64 a1), .int .u64 (W64 a2), .int .u64 (W64 a3)] 24 (0, 0)) ∧ w0.heap[w.heap.size + 1]? = some (.cells #[.int .u64 0, .int .u64 0, .int .u64 0, .int .u64 0] 24 (0, 0)) ∧ New w w0) := Lib.hid (by rw [← hW]; exact blocks2T w _ _)
  go_enter Tryd.func17, Tryd.ntmps17
  go_wp2_with fail
  go_loopw [6, 12] (fun r c wr => ∃ i : Nat, i ≤ 4 ∧ c = .int .i64 (i : Int) ∧ ((i = 0 ∧ r = .int .u64 (W64 c0) ∧ Hid (wr.heap[w.heap.size]? = some (.cells #[.int .u64 (W64 a0), .int .u64 (W64 a1), .int .u64 (W64 a2), .int .u64 (W64 a3)] 24 (0, 0)))) ∨ (i = 1 ∧ r = .int .u64 (W64 c1) ∧ Hid (wr.heap[w.heap.size]? = some (.cells #[.int .u64 (W64 m0), .int .u64 (W64 a1), .int .u64 (W64 a2), .int .u64 (W64 a3)] 24 (0, 0)))) ∨ (i = 2 ∧ r = .int .u64 (W64 c2) ∧ Hid (wr.heap[w.heap.size]? = some (.cells #[.int .u64 (W64 m0), .int .u64 (W64 m1), .int .u64 (W64 a2), .int .u64 (W64 a3)] 24 (0, 0)))) ∨ (i = 3 ∧ r = .int .u64 (W64 c3) ∧ Hid (wr.heap[w.heap.size]? = some (.cells #[.int .u64 (W64 m0), .int .u64 (W64 m1), .int .u64 (W64 m2), .int .u64 (W64 a3)] 24 (0, 0)))) ∨ (i = 4 ∧ r = .int .u64 (W64 c4) ∧ Hid (wr.heap[w.heap.size]? = some (.cells #[.int .u64 (W64 m0), .int .u64 (W64 m1), .int .u64 (W64 m2), .int .u64 (W64 m3)] 24 (0, 0))))) ∧ Hid (wr.heap[w.heap.size + 1]? = some (.cells #[.int .u64 0, .int .u64 0, .int .u64 0, .int .u64 0] 24 (0, 0))) ∧ Hid (New w wr)) (fun _ c _ => 4 - (intOf c).toNat)
  case atStart => exact ⟨0, by omega, rfl, .inl ⟨rfl, rfl, Lib.hid HP.out.1⟩, Lib.hid HP.out.2.1, Lib.hid HP.out.2.2⟩
  case round =>
    obtain ⟨i, hi, rfl, hst, HZ, HN⟩ := hrel
    clear HP
    rcases hst with ⟨rfl, rfl, HB⟩ | ⟨rfl, rfl, HB⟩ | ⟨rfl, rfl, HB⟩ | ⟨rfl, rfl, HB⟩ | ⟨rfl, rfl, HB⟩
    · have d0 := cell_of_row _ _ 0 _ _ _ HB.out
      have df := fun j => frozen_of_row _ _ j _ _ HB.out
      have ha := fun w => hadd (loN (a0.toNat * 10)) c0 w
      have k1 := K0.out.1
      have k2 := K0.out.2
      have HB2 : Hid ((wr.setCell ⟨w.heap.size, 0, none⟩ (.int .u64 (W64 m0))).heap[w.heap.size]? = some (.cells #[.int .u64 (W64 m0), .int .u64 (W64 a1), .int .u64 (W64 a2), .int .u64 (W64 a3)] 24 (0, 0))) := Lib.hid (heap_setCell_same _ _ 0 _ _ _ HB.out)
      have HZ2 : Hid ((wr.setCell ⟨w.heap.size, 0, none⟩ (.int .u64 (W64 m0))).heap[w.heap.size + 1]? = some (.cells #[.int .u64 0, .int .u64 0, .int .u64 0, .int .u64 0] 24 (0, 0))) := Lib.hid (by rw [heap_setCell_other _ _ _ _ (Nat.succ_ne_self _)]; exact HZ.out)
      have HN2 : Hid (New w (wr.setCell ⟨w.heap.size, 0, none⟩ (.int .u64 (W64 m0)))) := Lib.hid (HN.out.setCell (p := ⟨w.heap.size, 0, none⟩) (Nat.le_refl _) _)
      clear hadd
      go_wp2_with fail
      refine (M.out _ _).mono ?_
      rintro e w9 ⟨rfl, rfl⟩
      go_wp2
      exact ⟨⟨1, by omega, rfl, .inr (.inl ⟨rfl, rfl, HB2⟩), HZ2, HN2⟩, by simp [intOf]⟩
    · have d0 := cell_of_row _ _ 1 _ _ _ HB.out
      have df := fun j => frozen_of_row _ _ j _ _ HB.out
      have ha := fun w => hadd (loN (a1.toNat * 10)) c1 w
      have k1 := K1.out.1
      have k2 := K1.out.2
      have HB2 : Hid ((wr.setCell ⟨w.heap.size, 1, none⟩ (.int .u64 (W64 m1))).heap[w.heap.size]? = some (.cells #[.int .u64 (W64 m0), .int .u64 (W64 m1), .int .u64 (W64 a2), .int .u64 (W64 a3)] 24 (0, 0))) := Lib.hid (heap_setCell_same _ _ 1 _ _ _ HB.out)
      have HZ2 : Hid ((wr.setCell ⟨w.heap.size, 1, none⟩ (.int .u64 (W64 m1))).heap[w.heap.size + 1]? = some (.cells #[.int .u64 0, .int .u64 0, .int .u64 0, .int .u64 0] 24 (0, 0))) := Lib.hid (by rw [heap_setCell_other _ _ _ _ (Nat.succ_ne_self _)]; exact HZ.out)
      have HN2 : Hid (New w (wr.setCell ⟨w.heap.size, 1, none⟩ (.int .u64 (W64 m1)))) := Lib.hid (HN.out.setCell (p := ⟨w.heap.size, 1, none⟩) (Nat.le_refl _) _)
      clear hadd
      go_wp2_with fail
      refine (M.out _ _).mono ?_
      rintro e w9 ⟨rfl, rfl⟩
      go_wp2
      exact ⟨⟨2, by omega, rfl, .inr (.inr (.inl ⟨rfl, rfl, HB2⟩)), HZ2, HN2⟩, by simp [intOf]⟩
    · have d0 := cell_of_row _ _ 2 _ _ _ HB.out
      have df := fun j => frozen_of_row _ _ j _ _ HB.out
      have ha := fun w => hadd (loN (a2.toNat * 10)) c2 w
      have k1 := K2.out.1
      have k2 := K2.out.2
      have HB2 : Hid ((wr.setCell ⟨w.heap.size, 2, none⟩ (.int .u64 (W64 m2))).heap[w.heap.size]? = some (.cells #[.int .u64 (W64 m0), .int .u64 (W64 m1), .int .u64 (W64 m2), .int .u64 (W64 a3)] 24 (0, 0))) := Lib.hid (heap_setCell_same _ _ 2 _ _ _ HB.out)
      have HZ2 : Hid ((wr.setCell ⟨w.heap.size, 2, none⟩ (.int .u64 (W64 m2))).heap[w.heap.size + 1]? = some (.cells #[.int .u64 0, .int .u64 0, .int .u64 0, .int .u64 0] 24 (0, 0))) := Lib.hid (by rw [heap_setCell_other _ _ _ _ (Nat.succ_ne_self _)]; exact HZ.out)
      have HN2 : Hid (New w (wr.setCell ⟨w.heap.size, 2, none⟩ (.int .u64 (W64 m2)))) := Lib.hid (HN.out.setCell (p := ⟨w.heap.size, 2, none⟩) (Nat.le_refl _) _)
      clear hadd
      go_wp2_with fail
      refine (M.out _ _).mono ?_
      rintro e w9 ⟨rfl, rfl⟩
      go_wp2
      exact ⟨⟨3, by omega, rfl, .inr (.inr (.inr (.inl ⟨rfl, rfl, HB2⟩))), HZ2, HN2⟩, by simp [intOf]⟩
    · have d0 := cell_of_row _ _ 3 _ _ _ HB.out
      have df := fun j => frozen_of_row _ _ j _ _ HB.out
      have ha := fun w => hadd (loN (a3.toNat * 10)) c3 w
      have k1 := K3.out.1
      have k2 := K3.out.2
      have HB2 : Hid ((wr.setCell ⟨w.heap.size, 3, none⟩ (.int .u64 (W64 m3))).heap[w.heap.size]? = some (.cells #[.int .u64 (W64 m0), .int .u64 (W64 m1), .int .u64 (W64 m2), .int .u64 (W64 m3)] 24 (0, 0))) := Lib.hid (heap_setCell_same _ _ 3 _ _ _ HB.out)
      have HZ2 : Hid ((wr.setCell ⟨w.heap.size, 3, none⟩ (.int .u64 (W64 m3))).heap[w.heap.size + 1]? = some (.cells #[.int .u64 0, .int .u64 0, .int .u64 0, .int .u64 0] 24 (0, 0))) := Lib.hid (by rw [heap_setCell_other _ _ _ _ (Nat.succ_ne_self _)]; exact HZ.out)
      have HN2 : Hid (New w (wr.setCell ⟨w.heap.size, 3, none⟩ (.int .u64 (W64 m3)))) := Lib.hid (HN.out.setCell (p := ⟨w.heap.size, 3, none⟩) (Nat.le_refl _) _)
      clear hadd
      go_wp2_with fail
      refine (M.out _ _).mono ?_
      rintro e w9 ⟨rfl, rfl⟩
      go_wp2
      exact ⟨⟨4, by omega, rfl, .inr (.inr (.inr (.inr (⟨rfl, rfl, HB2⟩)))), HZ2, HN2⟩, by simp [intOf]⟩
    · have k0 := cell_of_row _ _ 0 _ _ _ HB.out
      have k1 := cell_of_row _ _ 1 _ _ _ HB.out
      have k2 := cell_of_row _ _ 2 _ _ _ HB.out
      have k3 := cell_of_row _ _ 3 _ _ _ HB.out
      have z0 := cell_of_row _ _ 0 _ _ _ HZ.out
      have z1 := cell_of_row _ _ 1 _ _ _ HZ.out
      have z2 := cell_of_row _ _ 2 _ _ _ HZ.out
      have z3 := cell_of_row _ _ 3 _ _ _ HZ.out
      have zf := fun j => frozen_of_row _ _ j _ _ HZ.out
      have HF4 := Lib.hid (put4_factsT (.int .u64 (W64 m0)) (.int .u64 (W64 m1)) (.int .u64 (W64 m2)) (.int .u64 (W64 m3)) HZ.out)
      clear hadd
      go_wp2_with fail
      refine bodyPost_ret (by simp [results, Tryd.results17, go_sem, z0, z1, z2, z3]; try rfl) rfl ?_
      exact ⟨rfl, HF4.out w HN.out (Nat.le_succ _)⟩
set_option maxHeartbeats 2000000 in
theorem plain_q (s : ByteArray) (h0 : 0 < s.size) (hs : s.size ≤ 9223372036854775807) (w : World) : Calls Tryd.prog 16 #[.string s] w fun e w' => e = .returned (.bool (plD s.data.toList)) ∧ w' = w := by
  have H0 := Lib.hid h0
  go_enter Tryd.func16, Tryd.ntmps16
  go_wp2_with fail
  go_loopw [6] (fun c wr => ∃ k : Nat, k ≤ s.size ∧ c = .int .i64 (k : Int) ∧ Hid (∀ j (h : j < s.size), j < k → isD s[j] = true) ∧ Hid (wr = w)) (fun c _ => s.size - (intOf c).toNat)
  case atStart => exact ⟨0, Nat.zero_le _, rfl, Lib.hid (fun j h hj => absurd hj (Nat.not_lt_zero _)), Lib.hid rfl⟩
  case round =>
    obtain ⟨k, hk, rfl, HJ, HW⟩ := hrel
    obtain rfl := HW.out
    by_cases hlt : (k : Int) < (s.size : Int)
    · have hin : k < s.size := by omega
      by_cases h48 : s[k].toNat < 48
      · have HV := Lib.hid (all_no hin (isD_low h48))
        have g1 : (s[k].toNat : Int) < 48 := by omega
        clear h48
        go_wp2
        go_ret
        exact ⟨by rw [HV.out]; rfl, rfl⟩
      by_cases h57 : 57 < s[k].toNat
      · have HV := Lib.hid (all_no hin (isD_high h57))
        have g1 : ¬ (s[k].toNat : Int) < 48 := by omega
        have g2 : 57 < (s[k].toNat : Int) := by omega
        clear h48 h57
        go_wp2
        go_ret
        exact ⟨by rw [HV.out]; rfl, rfl⟩
      · have HJ2 : Hid (∀ j (h : j < s.size), j < k + 1 → isD s[j] = true) := Lib.hid (fun j h hj => by
          rcases Nat.lt_or_ge j k with hl | hl
          · exact HJ.out j h hl
          · obtain rfl : j = k := by omega
            exact isD_mid h48 h57)
        have g1 : ¬ (s[k].toNat : Int) < 48 := by omega
        have g2 : ¬ 57 < (s[k].toNat : Int) := by omega
        have hkw : wrap64 ((k : Int) + 1) = (k : Int) + 1 := by unfold wrap64; omega
        clear h48 h57
        go_wp2
        exact ⟨⟨k + 1, by omega, by rw [Int.natCast_add]; rfl, HJ2, by first | exact Lib.hid rfl | exact Lib.hid trivial⟩, by simp [intOf]; omega⟩
    · obtain rfl : k = s.size := by omega
      have HV := Lib.hid (pl_end H0.out (fun j h => HJ.out j h h))
      have hpos : (0 : Int) < (s.size : Int) := by omega
      by_cases h1 : s.size = 1
      · have e1 : ((s.size : Int) == 1) = true := by rw [beq_iff_eq]; omega
        have HV2 : Hid (plD s.data.toList = true) := Lib.hid (by rw [HV.out]; simp [h1])
        clear h1 hlt hk
        go_wp2
        go_ret
        exact ⟨by rw [HV2.out]; rfl, rfl⟩
      · have e1 : ((s.size : Int) == 1) = false := by rw [beq_eq_false_iff_ne]; omega
        by_cases h4 : s[0].toNat = 48
        · have e2 : ((s[0].toNat : Int) != 48) = false := by rw [h4]; rfl
          have HV2 : Hid (plD s.data.toList = false) := Lib.hid (by rw [HV.out]; simp [h1]; exact h4)
          clear h1 hlt hk h4
          go_wp2
          go_ret
          exact ⟨by rw [HV2.out, ← e2]; rfl, rfl⟩
        · have e2 : ((s[0].toNat : Int) != 48) = true := by rw [bne_iff_ne]; omega
          have HV2 : Hid (plD s.data.toList = true) := Lib.hid (by rw [HV.out]; simp [h1]; exact h4)
          clear h1 hlt hk h4
          go_wp2
          go_ret
          exact ⟨by rw [HV2.out, ← e2]; rfl, rfl⟩
set_option maxHeartbeats 2000000 in
theorem digits_q (s : ByteArray) (h0 : 0 < s.size) (hs : s.size ≤ 9223372036854775807) (w : World) : Calls Tryd.prog 9 #[.string s] w fun e w' => e = .returned (.bool (plD s.data.toList)) ∧ w' = w := by
  have H0 := Lib.hid h0
  go_enter Tryd.func9, Tryd.ntmps9
  go_wp2_with fail
  go_loopw [3] (fun c wr => ∃ k : Nat, k ≤ s.size ∧ c = .int .i64 (k : Int) ∧ Hid (∀ j (h : j < s.size), j < k → isD s[j] = true) ∧ Hid (wr = w)) (fun c _ => s.size - (intOf c).toNat)
  case atStart => exact ⟨0, Nat.zero_le _, rfl, Lib.hid (fun j h hj => absurd hj (Nat.not_lt_zero _)), Lib.hid rfl⟩
  case round =>
    obtain ⟨k, hk, rfl, HJ, HW⟩ := hrel
    obtain rfl := HW.out
    by_cases hlt : (k : Int) < (s.size : Int)
    · have hin : k < s.size := by omega
      by_cases h48 : s[k].toNat < 48
      · have HV := Lib.hid (all_no hin (isD_low h48))
        have g1 : (s[k].toNat : Int) < 48 := by omega
        clear h48
        go_wp2
        go_ret
        exact ⟨by rw [HV.out]; rfl, rfl⟩
      by_cases h57 : 57 < s[k].toNat
      · have HV := Lib.hid (all_no hin (isD_high h57))
        have g1 : ¬ (s[k].toNat : Int) < 48 := by omega
        have g2 : 57 < (s[k].toNat : Int) := by omega
        clear h48 h57
        go_wp2
        go_ret
        exact ⟨by rw [HV.out]; rfl, rfl⟩
      · have HJ2 : Hid (∀ j (h : j < s.size), j < k + 1 → isD s[j] = true) := Lib.hid (fun j h hj => by
          rcases Nat.lt_or_ge j k with hl | hl
          · exact HJ.out j h hl
          · obtain rfl : j = k := by omega
            exact isD_mid h48 h57)
        have g1 : ¬ (s[k].toNat : Int) < 48 := by omega
        have g2 : ¬ 57 < (s[k].toNat : Int) := by omega
        have hkw : wrap64 ((k : Int) + 1) = (k : Int) + 1 := by unfold wrap64; omega
        clear h48 h57
        go_wp2
        exact ⟨⟨k + 1, by omega, by rw [Int.natCast_add]; rfl, HJ2, by first | exact Lib.hid rfl | exact Lib.hid trivial⟩, by simp [intOf]; omega⟩
    · obtain rfl : k = s.size := by omega
      have HV := Lib.hid (pl_end H0.out (fun j h => HJ.out j h h))
      have hpos : (0 : Int) < (s.size : Int) := by omega
      by_cases h1 : s.size = 1
      · have e1 : ((s.size : Int) == 1) = true := by rw [beq_iff_eq]; omega
        have HV2 : Hid (plD s.data.toList = true) := Lib.hid (by rw [HV.out]; simp [h1])
        clear h1 hlt hk
        go_wp2
        go_ret
        exact ⟨by rw [HV2.out]; rfl, rfl⟩
      · have e1 : ((s.size : Int) == 1) = false := by rw [beq_eq_false_iff_ne]; omega
        by_cases h4 : s[0].toNat = 48
        · have e2 : ((s[0].toNat : Int) != 48) = false := by rw [h4]; rfl
          have HV2 : Hid (plD s.data.toList = false) := Lib.hid (by rw [HV.out]; simp [h1]; exact h4)
          clear h1 hlt hk h4
          go_wp2
          go_ret
          exact ⟨by rw [HV2.out, ← e2]; rfl, rfl⟩
        · have e2 : ((s[0].toNat : Int) != 48) = true := by rw [bne_iff_ne]; omega
          have HV2 : Hid (plD s.data.toList = true) := Lib.hid (by rw [HV.out]; simp [h1]; exact h4)
          clear h1 hlt hk h4
          go_wp2
          go_ret
          exact ⟨by rw [HV2.out, ← e2]; rfl, rfl⟩
end Go.Proofs.YtgekdcedijbmaaaDoor
