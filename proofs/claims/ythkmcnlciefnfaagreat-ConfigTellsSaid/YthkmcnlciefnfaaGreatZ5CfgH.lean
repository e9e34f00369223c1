import Derived.Test.YthkmcnlciefnfaaGreatZ5CfgG
/- Layer 47: the document's state of a source, and its Check. -/
namespace Go.Proofs.YthkmcnlciefnfaaGreat
open Go Go.RowKit Go.Bv Go.Ali
set_option linter.unusedVariables false
set_option maxRecDepth 100000
set_option maxHeartbeats 4000000 in
theorem rst_47 (t k b : Int) (h l : BitVec 64) (a : Option Addr) (n c : Nat) (x : List (BitVec 64)) (w : World) (hr : QRow w a n c x) (h0 : 0 < n) (hn4 : n ≤ 4) : Calls Tryz.prog 24 #[.agg (cfc t k b h l a n c)] w fun e w' => e = .returned (.agg (stc k (w4 x))) ∧ New w w' := by
  obtain ⟨p, o, rfl, _⟩ := hr.addr h0
  have HXL := Lib.hid hr.len_eq
  obtain ⟨hb1, hb2, hN⟩ := two_blocksK w (.cells (cfc t k b h l (some ⟨p, o, none⟩) n c) 34) (.cells #[.int .i64 0, .int .u64 0, .int .u64 0, .int .u64 0, .int .u64 0] 38)
  generalize hW : (w.alloc (.cells (cfc t k b h l (some ⟨p, o, none⟩) n c) 34)).alloc (.cells #[.int .i64 0, .int .u64 0, .int .u64 0, .int .u64 0, .int .u64 0] 38) = w0 at *
  have HB1 := Lib.hid hb1
  have HB2 := Lib.hid hb2
  have HN := Lib.hid hN
  clear hb1 hb2 hN
  have HROW := Lib.hid (hr.stay HN.out)
  have HPO : Hid (p < w.heap.size) := Lib.hid (hr.old _ rfl h0)
  clear hr
  have c0 := cell_of_row _ _ 0 _ _ _ HB1.out
  have c1 := cell_of_row _ _ 1 _ _ _ HB1.out
  have c2 := cell_of_row _ _ 2 _ _ _ HB1.out
  have c3 := cell_of_row _ _ 3 _ _ _ HB1.out
  have c4 := cell_of_row _ _ 4 _ _ _ HB1.out
  have c5 := cell_of_row _ _ 5 _ _ _ HB1.out
  go_enter Tryz.func24, Tryz.ntmps24
  go_wp2_with fail
  obtain ⟨w3, hw3⟩ : ∃ z, w0.alloc (.cells #[.int .i64 k, .int .u64 0, .int .u64 0, .int .u64 0, .int .u64 0] 38) = z := ⟨_, rfl⟩
  have HC3 : Hid (w3.heap[w0.heap.size]? = some (.cells #[.int .i64 k, .int .u64 0, .int .u64 0, .int .u64 0, .int .u64 0] 38 (0, 0))) := Lib.hid (by rw [← hw3]; exact heap_alloc_new w0 _)
  have HN3 : Hid (New w0 w3) := Lib.hid (by rw [← hw3]; exact (New.refl w0).alloc _)
  have HS0 : Hid (w0.heap.size = w.heap.size + 2) := Lib.hid (by rw [← hW]; simp)
  have HB13 := Lib.hid ((HN3.out.block _ (lt_of_block HB1.out)).trans HB1.out)
  have HB23 := Lib.hid ((HN3.out.block _ (lt_of_block HB2.out)).trans HB2.out)
  rw [hw3]
  obtain ⟨qs, hqs⟩ : ∃ z, w0.heap.size = z := ⟨_, rfl⟩
  rw [hqs] at HC3 HS0 ⊢
  clear hw3 hqs c0 c1 c2 c3 c4 c5
  go_loopw [4] (fun iv wr => ∃ (j : Nat), j ≤ n ∧ iv = .int .i64 (j : Int) ∧ wr.heap[qs]? = some (.cells (stc k (w4 (x.take j))) 38 (0, 0)) ∧ wr.heap[w.heap.size]? = some (.cells (cfc t k b h l (some ⟨p, o, none⟩) n c) 34 (0, 0)) ∧ wr.heap[w.heap.size + 1]? = some (.cells #[.int .i64 0, .int .u64 0, .int .u64 0, .int .u64 0, .int .u64 0] 38 (0, 0)) ∧ wr.heap[p]? = w0.heap[p]? ∧ New w wr) (fun iv _ => n - (intOf iv).toNat)
  case atStart => exact ⟨0, Nat.zero_le _, rfl, HC3.out, HB13.out, HB23.out, HN3.out.block _ (HROW.out.old _ rfl h0), HN.out.trans HN3.out⟩
  case round =>
    obtain ⟨j, hj, rfl, hs, hc, hres, hpb, hnew⟩ := hrel
    have HPB := Lib.hid hpb
    clear hpb
    have HS := Lib.hid hs
    have HC := Lib.hid hc
    have HRS := Lib.hid hres
    have HNJ := Lib.hid hnew
    clear hs hc hres hnew
    have hj0 : ¬ (j : Int) < 0 := by omega
    have hwk : wrap64 ((j : Int) + 1) = (j : Int) + 1 := by unfold wrap64; omega
    by_cases hlt : (j : Int) < (n : Int)
    · have hj4 : (j : Int) < 4 := by omega
      have hjn : j < n := by omega
      have hj4' : j < 4 := by omega
      have c5 := cell_of_row _ _ 5 _ _ _ HC.out
      have hblt := HROW.out.old _ rfl h0
      have d1 := HROW.out.cell p o rfl j hjn
      have hwp : wr.heap[p]? = w0.heap[p]? := HPB.out
      rw [← World.cell?_of_block (w := w0) (w' := wr) (a := ⟨p, o + j, none⟩) hwp] at d1
      have sc : ∃ v, wr.cell? ⟨qs, 1 + j, none⟩ = some v := by
        have e : j = 0 ∨ j = 1 ∨ j = 2 ∨ j = 3 := by omega
        rcases e with rfl | rfl | rfl | rfl
        · exact ⟨_, cell_of_row _ _ 1 _ _ _ HS.out⟩
        · exact ⟨_, cell_of_row _ _ 2 _ _ _ HS.out⟩
        · exact ⟨_, cell_of_row _ _ 3 _ _ _ HS.out⟩
        · exact ⟨_, cell_of_row _ _ 4 _ _ _ HS.out⟩
      obtain ⟨v0, sc⟩ := sc
      have sf := fun i => frozen_of_row _ _ i _ _ HS.out
      go_wp2
      refine ⟨⟨j + 1, by omega, by go_num, ?_, ?_, ?_, ?_, ?_⟩, by simp [intOf]; omega⟩
      · rw [w4_take x j hj4']
        have e : j = 0 ∨ j = 1 ∨ j = 2 ∨ j = 3 := by omega
        rcases e with rfl | rfl | rfl | rfl
        · exact heap_setCell_same _ _ 1 _ _ _ HS.out
        · exact heap_setCell_same _ _ 2 _ _ _ HS.out
        · exact heap_setCell_same _ _ 3 _ _ _ HS.out
        · exact heap_setCell_same _ _ 4 _ _ _ HS.out
      · rw [heap_setCell_other _ _ _ _ (by have := HS0.out; show w.heap.size ≠ qs; omega)]; exact HC.out
      · rw [heap_setCell_other _ _ _ _ (by have := HS0.out; show w.heap.size + 1 ≠ qs; omega)]; exact HRS.out
      · rw [heap_setCell_other _ _ _ _ (by have := HS0.out; have := HPO.out; show p ≠ qs; omega)]; exact HPB.out
      · exact HNJ.out.setCell (by have := HS0.out; show w.heap.size ≤ qs; omega) _
    · obtain rfl : j = n := by omega
      have hnl : ¬ (j : Int) < (j : Int) := by omega
      have hst : stc k (w4 (x.take j)) = stc k (w4 x) := by rw [List.take_of_length_le (by rw [HXL.out]; exact Nat.le_refl _)]
      have HSX := Lib.hid HS.out
      rw [hst] at HSX
      clear hst
      have y0 := cell_of_row _ _ 0 _ _ _ HSX.out
      have y1 := cell_of_row _ _ 1 _ _ _ HSX.out
      have y2 := cell_of_row _ _ 2 _ _ _ HSX.out
      have y3 := cell_of_row _ _ 3 _ _ _ HSX.out
      have y4 := cell_of_row _ _ 4 _ _ _ HSX.out
      have c5 := cell_of_row _ _ 5 _ _ _ HC.out
      have r0 := cell_of_row _ _ 0 _ _ _ HRS.out
      have r1 := cell_of_row _ _ 1 _ _ _ HRS.out
      have r2 := cell_of_row _ _ 2 _ _ _ HRS.out
      have r3 := cell_of_row _ _ 3 _ _ _ HRS.out
      have r4 := cell_of_row _ _ 4 _ _ _ HRS.out
      have rf := fun i => frozen_of_row _ _ i _ _ HRS.out
      have hp := put5_factsC (.int .i64 k) (.int .u64 (W64 (w4 x).a)) (.int .u64 (W64 (w4 x).b)) (.int .u64 (W64 (w4 x).c)) (.int .u64 (W64 (w4 x).d)) HRS.out
      go_wp2_with fail
      refine bodyPost_ret (by simp [results, Tryz.results24, go_sem, r0, r1, r2, r3, r4]; try rfl) rfl ?_
      exact ⟨rfl, hp.2.2 _ HNJ.out (Nat.le_succ _)⟩
end Go.Proofs.YthkmcnlciefnfaaGreat
