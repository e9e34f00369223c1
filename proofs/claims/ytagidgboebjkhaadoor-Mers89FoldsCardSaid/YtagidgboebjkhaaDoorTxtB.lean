/- Layer 1: wide.divide: a number of four words divided by one. -/
import Derived.Test.YtagidgboebjkhaaDoorFouB
import Derived.Test.YtagidgboebjkhaaDoorDiv
import Derived.Test.YtagidgboebjkhaaDoorFouM
namespace Go.Bv
open Go Go.RowKit
theorem divR_lt {hi lo y : BitVec 64} (h : hi.toNat < y.toNat) : (divR hi lo y).toNat < y.toNat := by
  rw [divR_nat (by omega)]; exact Nat.mod_lt _ (by omega)
theorem div_sum {hi lo y : BitVec 64} (h : hi.toNat < y.toNat) : hi.toNat * 18446744073709551616 + lo.toNat = (divQ hi lo y).toNat * y.toNat + (divR hi lo y).toNat := by
  rw [divQ_nat h, divR_nat (by omega)]
  have e : two hi lo = hi.toNat * 18446744073709551616 + lo.toNat := rfl
  rw [← e, Nat.mul_comm]
  exact (Nat.div_add_mod _ _).symm
/-- the quotient's words and the rest -/
structure Dv4 (a0 a1 a2 a3 b q0 q1 q2 q3 r3 r2 r1 r0 : BitVec 64) : Prop where
  e3 : q3 = divQ 0#64 a3 b
  s3 : r3 = divR 0#64 a3 b
  e2 : q2 = divQ r3 a2 b
  s2 : r2 = divR r3 a2 b
  e1 : q1 = divQ r2 a1 b
  s1 : r1 = divR r2 a1 b
  e0 : q0 = divQ r1 a0 b
  s0 : r0 = divR r1 a0 b
theorem four_sum (K a0 a1 a2 a3 P0 P1 P2 P3 r0 r1 r2 r3 : Nat) (d0 : r1 * K + a0 = P0 + r0) (d1 : r2 * K + a1 = P1 + r1) (d2 : r3 * K + a2 = P2 + r2) (d3 : a3 = P3 + r3) :
    a0 + K * (a1 + K * (a2 + K * a3)) = P0 + K * (P1 + K * (P2 + K * P3)) + r0 := by
  have h2 : a2 + K * a3 = (P2 + K * P3) + r2 := by rw [d3, Nat.mul_add, Nat.mul_comm K r3]; omega
  have h1 : a1 + K * (a2 + K * a3) = (P1 + K * (P2 + K * P3)) + r1 := by rw [h2, Nat.mul_add K (P2 + K * P3), Nat.mul_comm K r2]; omega
  rw [h1, Nat.mul_add K (P1 + K * (P2 + K * P3)), Nat.mul_comm K r1]
  omega
theorem mul_four (K B Q0 Q1 Q2 Q3 : Nat) : B * (Q0 + K * (Q1 + K * (Q2 + K * Q3))) = Q0 * B + K * (Q1 * B + K * (Q2 * B + K * (Q3 * B))) := by
  rw [Nat.mul_comm B, Nat.add_mul, Nat.mul_assoc, Nat.add_mul, Nat.mul_assoc, Nat.add_mul, Nat.mul_assoc]
theorem Dv4.is {a0 a1 a2 a3 b q0 q1 q2 q3 r3 r2 r1 r0 : BitVec 64} (h : Dv4 a0 a1 a2 a3 b q0 q1 q2 q3 r3 r2 r1 r0) (hb : 0 < b.toNat) :
    four q0 q1 q2 q3 = four a0 a1 a2 a3 / b.toNat ∧ r0.toNat = four a0 a1 a2 a3 % b.toNat ∧ r3.toNat < b.toNat ∧ r2.toNat < b.toNat ∧ r1.toNat < b.toNat := by
  obtain ⟨rfl, rfl, rfl, rfl, rfl, rfl, rfl, rfl⟩ := h
  have z : (0#64 : BitVec 64).toNat < b.toNat := hb
  have l3 := divR_lt (lo := a3) z
  have l2 := divR_lt (lo := a2) l3
  have l1 := divR_lt (lo := a1) l2
  have l0 := divR_lt (lo := a0) l1
  have d3 := div_sum (lo := a3) z
  have d2 := div_sum (lo := a2) l3
  have d1 := div_sum (lo := a1) l2
  have d0 := div_sum (lo := a0) l1
  have z0 : (0#64 : BitVec 64).toNat = 0 := rfl
  rw [z0] at d3
  generalize divR (divR (divR (divR 0#64 a3 b) a2 b) a1 b) a0 b = r0 at *
  generalize divQ (divR (divR (divR 0#64 a3 b) a2 b) a1 b) a0 b = q0 at *
  generalize divR (divR (divR 0#64 a3 b) a2 b) a1 b = r1 at *
  generalize divQ (divR (divR 0#64 a3 b) a2 b) a1 b = q1 at *
  generalize divR (divR 0#64 a3 b) a2 b = r2 at *
  generalize divQ (divR 0#64 a3 b) a2 b = q2 at *
  generalize divR 0#64 a3 b = r3 at *
  generalize divQ 0#64 a3 b = q3 at *
  have key : four a0 a1 a2 a3 = b.toNat * four q0 q1 q2 q3 + r0.toNat := by
    unfold four
    rw [Nat.zero_mul, Nat.zero_add] at d3
    exact (four_sum _ _ _ _ _ _ _ _ _ _ _ _ _ d0 d1 d2 d3).trans (congrArg (· + r0.toNat) (mul_four 18446744073709551616 b.toNat q0.toNat q1.toNat q2.toNat q3.toNat).symm)
  refine ⟨?_, ?_, l3, l2, l1⟩
  · rw [key, Nat.mul_add_div hb, Nat.div_eq_of_lt l0, Nat.add_zero]
  · rw [key, Nat.mul_add_mod, Nat.mod_eq_of_lt l0]
end Go.Bv
namespace Go.Proofs.YtagidgboebjkhaaDoor
open Go.RowKit Go.Bv
set_option linter.unusedVariables false
theorem put4_factsT {w : World} {q : Nat} {T : TypeId} {u0 u1 u2 u3 : Value} (v0 v1 v2 v3 : Value) (h : w.heap[q]? = some (.cells #[u0, u1, u2, u3] T (0, 0))) :
    ∀ W : World, New W w → W.heap.size ≤ q → New W ((((w.setCell ⟨q, 0, none⟩ v0).setCell ⟨q, 1, none⟩ v1).setCell ⟨q, 2, none⟩ v2).setCell ⟨q, 3, none⟩ v3) :=
  fun W hn hq => (((hn.setCell (by exact hq) _).setCell (by exact hq) _).setCell (by exact hq) _).setCell (by exact hq) _
theorem blocks2T (w : World) (A B : Obj) : ((w.alloc A).alloc B).heap[w.heap.size]? = some A ∧ ((w.alloc A).alloc B).heap[w.heap.size + 1]? = some B ∧ New w ((w.alloc A).alloc B) := by
  have e1 : (w.alloc A).heap.size = w.heap.size + 1 := by simp
  refine ⟨?_, ?_, ((New.refl w).alloc _).alloc _⟩
  · rw [((New.refl (w.alloc A)).alloc B).block _ (by rw [e1]; omega)]; exact heap_alloc_new _ _
  · rw [← e1]; exact heap_alloc_new _ _
set_option maxRecDepth 100000 in
set_option maxHeartbeats 4000000 in
theorem divide_4 (a0 a1 a2 a3 b q0 q1 q2 q3 r3 r2 r1 r0 : BitVec 64) (hb : 0 < b.toNat) (h : Dv4 a0 a1 a2 a3 b q0 q1 q2 q3 r3 r2 r1 r0) (w : World) : Calls Tryd.prog 34 #[.agg #[.int .u64 (W64 a0), .int .u64 (W64 a1), .int .u64 (W64 a2), .int .u64 (W64 a3)], .int .u64 (W64 b)] w fun e w' => e = .returned (.tuple #[.agg #[.int .u64 (W64 q0), .int .u64 (W64 q1), .int .u64 (W64 q2), .int .u64 (W64 q3)], .int .u64 (W64 r0)]) ∧ New w w' := by
  obtain ⟨_, _, l3, l2, l1⟩ := h.is hb
  obtain ⟨e3, s3, e2, s2, e1, s1, e0, s0⟩ := h
  have H0 := Lib.hid (fun w => div64_any 0#64 a3 b hb w)
  have H1 := Lib.hid (fun w => div64_any r3 a2 b l3 w)
  have H2 := Lib.hid (fun w => div64_any r2 a1 b l2 w)
  have H3 := Lib.hid (fun w => div64_any r1 a0 b l1 w)
  rw [← e3, ← s3] at H0
  rw [← e2, ← s2] at H1
  rw [← e1, ← s1] at H2
  rw [← e0, ← s0] at H3
  clear e3 s3 e2 s2 e1 s1 e0 s0 l3 l2 l1 hb
  generalize hW : (w.alloc (.cells #[.int .u64 (W64 a0), .int .u64 (W64 a1), .int .u64 (W64 a2), .int .u64 (W64 a3)] 24)).alloc (.cells #[.int .u64 0, .int .u64 0, .int .u64 0, .int .u64 0] 24) = w0
  have HP : Hid (w0.heap[w.heap.size]? = some (.cells #[.int .u64 (W64 a0), .int .u64 (W64 a1), .int .u64 (W64 a2), .int .u64 (W64 a3)] 24 (0, 0)) ∧ w0.heap[w.heap.size + 1]? = some (.cells #[.int .u64 0, .int .u64 0, .int .u64 0, .int .u64 0] 24 (0, 0)) ∧ New w w0) := Lib.hid (by rw [← hW]; exact blocks2T w _ _)
  go_enter Tryd.func34, Tryd.ntmps34
  go_wp2_with fail
  go_loopw [6, 9] (fun r c wr => ∃ i : Nat, i ≤ 4 ∧ c = .int .i64 (i : Int) ∧ ((i = 0 ∧ r = .int .u64 (W64 0#64) ∧ Hid (wr.heap[w.heap.size]? = some (.cells #[.int .u64 (W64 a0), .int .u64 (W64 a1), .int .u64 (W64 a2), .int .u64 (W64 a3)] 24 (0, 0)))) ∨ (i = 1 ∧ r = .int .u64 (W64 r3) ∧ Hid (wr.heap[w.heap.size]? = some (.cells #[.int .u64 (W64 a0), .int .u64 (W64 a1), .int .u64 (W64 a2), .int .u64 (W64 q3)] 24 (0, 0)))) ∨ (i = 2 ∧ r = .int .u64 (W64 r2) ∧ Hid (wr.heap[w.heap.size]? = some (.cells #[.int .u64 (W64 a0), .int .u64 (W64 a1), .int .u64 (W64 q2), .int .u64 (W64 q3)] 24 (0, 0)))) ∨ (i = 3 ∧ r = .int .u64 (W64 r1) ∧ Hid (wr.heap[w.heap.size]? = some (.cells #[.int .u64 (W64 a0), .int .u64 (W64 q1), .int .u64 (W64 q2), .int .u64 (W64 q3)] 24 (0, 0)))) ∨ (i = 4 ∧ r = .int .u64 (W64 r0) ∧ Hid (wr.heap[w.heap.size]? = some (.cells #[.int .u64 (W64 q0), .int .u64 (W64 q1), .int .u64 (W64 q2), .int .u64 (W64 q3)] 24 (0, 0))))) ∧ Hid (wr.heap[w.heap.size + 1]? = some (.cells #[.int .u64 0, .int .u64 0, .int .u64 0, .int .u64 0] 24 (0, 0))) ∧ Hid (New w wr)) (fun _ c _ => 4 - (intOf c).toNat)
  case atStart => exact ⟨0, by omega, rfl, .inl ⟨rfl, rfl, Lib.hid HP.out.1⟩, Lib.hid HP.out.2.1, Lib.hid HP.out.2.2⟩
  case round =>
    obtain ⟨i, hi, rfl, hst, HZ, HN⟩ := hrel
    clear HP
    rcases hst with ⟨rfl, rfl, HB⟩ | ⟨rfl, rfl, HB⟩ | ⟨rfl, rfl, HB⟩ | ⟨rfl, rfl, HB⟩ | ⟨rfl, rfl, HB⟩
    · have c0 := cell_of_row _ _ 3 _ _ _ HB.out
      go_wp2_with fail
      refine (H0.out _).mono ?_
      rintro e w9 ⟨rfl, hn⟩
      have hb9 := (hn.block _ (lt_of_block HB.out)).trans HB.out
      have hz9 := (hn.block _ (lt_of_block HZ.out)).trans HZ.out
      have d0 := cell_of_row _ _ 3 _ _ _ hb9
      have df := fun j => frozen_of_row _ _ j _ _ hb9
      have HB2 : Hid ((w9.setCell ⟨w.heap.size, 3, none⟩ (.int .u64 (W64 q3))).heap[w.heap.size]? = some (.cells #[.int .u64 (W64 a0), .int .u64 (W64 a1), .int .u64 (W64 a2), .int .u64 (W64 q3)] 24 (0, 0))) := Lib.hid (heap_setCell_same _ _ 3 _ _ _ hb9)
      have HZ2 : Hid ((w9.setCell ⟨w.heap.size, 3, none⟩ (.int .u64 (W64 q3))).heap[w.heap.size + 1]? = some (.cells #[.int .u64 0, .int .u64 0, .int .u64 0, .int .u64 0] 24 (0, 0))) := Lib.hid (by rw [heap_setCell_other _ _ _ _ (Nat.succ_ne_self _)]; exact hz9)
      have HN2 : Hid (New w (w9.setCell ⟨w.heap.size, 3, none⟩ (.int .u64 (W64 q3)))) := Lib.hid ((HN.out.trans hn).setCell (p := ⟨w.heap.size, 3, none⟩) (Nat.le_refl _) _)
      clear c0 hn hb9 hz9
      go_wp2
      exact ⟨⟨1, by omega, rfl, .inr (.inl ⟨rfl, rfl, HB2⟩), HZ2, HN2⟩, by simp [intOf]⟩
    · have c0 := cell_of_row _ _ 2 _ _ _ HB.out
      go_wp2_with fail
      refine (H1.out _).mono ?_
      rintro e w9 ⟨rfl, hn⟩
      have hb9 := (hn.block _ (lt_of_block HB.out)).trans HB.out
      have hz9 := (hn.block _ (lt_of_block HZ.out)).trans HZ.out
      have d0 := cell_of_row _ _ 2 _ _ _ hb9
      have df := fun j => frozen_of_row _ _ j _ _ hb9
      have HB2 : Hid ((w9.setCell ⟨w.heap.size, 2, none⟩ (.int .u64 (W64 q2))).heap[w.heap.size]? = some (.cells #[.int .u64 (W64 a0), .int .u64 (W64 a1), .int .u64 (W64 q2), .int .u64 (W64 q3)] 24 (0, 0))) := Lib.hid (heap_setCell_same _ _ 2 _ _ _ hb9)
      have HZ2 : Hid ((w9.setCell ⟨w.heap.size, 2, none⟩ (.int .u64 (W64 q2))).heap[w.heap.size + 1]? = some (.cells #[.int .u64 0, .int .u64 0, .int .u64 0, .int .u64 0] 24 (0, 0))) := Lib.hid (by rw [heap_setCell_other _ _ _ _ (Nat.succ_ne_self _)]; exact hz9)
      have HN2 : Hid (New w (w9.setCell ⟨w.heap.size, 2, none⟩ (.int .u64 (W64 q2)))) := Lib.hid ((HN.out.trans hn).setCell (p := ⟨w.heap.size, 2, none⟩) (Nat.le_refl _) _)
      clear c0 hn hb9 hz9
      go_wp2
      exact ⟨⟨2, by omega, rfl, .inr (.inr (.inl ⟨rfl, rfl, HB2⟩)), HZ2, HN2⟩, by simp [intOf]⟩
    · have c0 := cell_of_row _ _ 1 _ _ _ HB.out
      go_wp2_with fail
      refine (H2.out _).mono ?_
      rintro e w9 ⟨rfl, hn⟩
      have hb9 := (hn.block _ (lt_of_block HB.out)).trans HB.out
      have hz9 := (hn.block _ (lt_of_block HZ.out)).trans HZ.out
      have d0 := cell_of_row _ _ 1 _ _ _ hb9
      have df := fun j => frozen_of_row _ _ j _ _ hb9
      have HB2 : Hid ((w9.setCell ⟨w.heap.size, 1, none⟩ (.int .u64 (W64 q1))).heap[w.heap.size]? = some (.cells #[.int .u64 (W64 a0), .int .u64 (W64 q1), .int .u64 (W64 q2), .int .u64 (W64 q3)] 24 (0, 0))) := Lib.hid (heap_setCell_same _ _ 1 _ _ _ hb9)
      have HZ2 : Hid ((w9.setCell ⟨w.heap.size, 1, none⟩ (.int .u64 (W64 q1))).heap[w.heap.size + 1]? = some (.cells #[.int .u64 0, .int .u64 0, .int .u64 0, .int .u64 0] 24 (0, 0))) := Lib.hid (by rw [heap_setCell_other _ _ _ _ (Nat.succ_ne_self _)]; exact hz9)
      have HN2 : Hid (New w (w9.setCell ⟨w.heap.size, 1, none⟩ (.int .u64 (W64 q1)))) := Lib.hid ((HN.out.trans hn).setCell (p := ⟨w.heap.size, 1, none⟩) (Nat.le_refl _) _)
      clear c0 hn hb9 hz9
      go_wp2
      exact ⟨⟨3, by omega, rfl, .inr (.inr (.inr (.inl ⟨rfl, rfl, HB2⟩))), HZ2, HN2⟩, by simp [intOf]⟩
    · have c0 := cell_of_row _ _ 0 _ _ _ HB.out
      go_wp2_with fail
      refine (H3.out _).mono ?_
      rintro e w9 ⟨rfl, hn⟩
      have hb9 := (hn.block _ (lt_of_block HB.out)).trans HB.out
      have hz9 := (hn.block _ (lt_of_block HZ.out)).trans HZ.out
      have d0 := cell_of_row _ _ 0 _ _ _ hb9
      have df := fun j => frozen_of_row _ _ j _ _ hb9
      have HB2 : Hid ((w9.setCell ⟨w.heap.size, 0, none⟩ (.int .u64 (W64 q0))).heap[w.heap.size]? = some (.cells #[.int .u64 (W64 q0), .int .u64 (W64 q1), .int .u64 (W64 q2), .int .u64 (W64 q3)] 24 (0, 0))) := Lib.hid (heap_setCell_same _ _ 0 _ _ _ hb9)
      have HZ2 : Hid ((w9.setCell ⟨w.heap.size, 0, none⟩ (.int .u64 (W64 q0))).heap[w.heap.size + 1]? = some (.cells #[.int .u64 0, .int .u64 0, .int .u64 0, .int .u64 0] 24 (0, 0))) := Lib.hid (by rw [heap_setCell_other _ _ _ _ (Nat.succ_ne_self _)]; exact hz9)
      have HN2 : Hid (New w (w9.setCell ⟨w.heap.size, 0, none⟩ (.int .u64 (W64 q0)))) := Lib.hid ((HN.out.trans hn).setCell (p := ⟨w.heap.size, 0, none⟩) (Nat.le_refl _) _)
      clear c0 hn hb9 hz9
      go_wp2
      exact ⟨⟨4, by omega, rfl, .inr (.inr (.inr (.inr (⟨rfl, rfl, HB2⟩)))), HZ2, HN2⟩, by simp [intOf]⟩
    · have k0 := cell_of_row _ _ 0 _ _ _ HB.out
      have k1 := cell_of_row _ _ 1 _ _ _ HB.out
      have k2 := cell_of_row _ _ 2 _ _ _ HB.out
      have k3 := cell_of_row _ _ 3 _ _ _ HB.out
      have z0 := cell_of_row _ _ 0 _ _ _ HZ.out
      have z1 := cell_of_row _ _ 1 _ _ _ HZ.out
      have z2 := cell_of_row _ _ 2 _ _ _ HZ.out
      have z3 := cell_of_row _ _ 3 _ _ _ HZ.out
      have zf := fun j => frozen_of_row _ _ j _ _ HZ.out
      have HF4 := Lib.hid (put4_factsT (.int .u64 (W64 q0)) (.int .u64 (W64 q1)) (.int .u64 (W64 q2)) (.int .u64 (W64 q3)) HZ.out)
      go_wp2_with fail
      refine bodyPost_ret (by simp [results, Tryd.results34, go_sem, z0, z1, z2, z3]; try rfl) rfl ?_
      exact ⟨rfl, HF4.out w HN.out (Nat.le_succ _)⟩
end Go.Proofs.YtagidgboebjkhaaDoor
