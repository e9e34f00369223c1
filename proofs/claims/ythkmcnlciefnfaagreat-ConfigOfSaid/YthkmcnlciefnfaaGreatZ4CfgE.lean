import Derived.Test.YthkmcnlciefnfaaGreatZ4CfgD
import Derived.Deep.AppendLies
/- Layer 47: the document's config of a state; the law ConfigOf. -/
namespace Go.Proofs.YthkmcnlciefnfaaGreat
open Go Go.RowKit Go.Bv
set_option linter.unusedVariables false
set_option maxRecDepth 100000
theorem info8_cf : (Tryz.prog.info? 22).map (fun i => (i.zero, i.size, i.bytes)) = some (some (.int .u64 0), 1, 8) := by kernel_rfl
set_option maxHeartbeats 8000000 in
theorem rof_47 (k : Int) (q : W4) (w : World) : Calls Tryz.prog 16 #[.agg (stc k q)] w fun e w' => (∃ a c, e = .returned (.agg (cfc 3 k 0 0#64 0#64 a (szK k).toNat c)) ∧ QRow w' a (szK k).toNat c (q4l k q)) ∧ New w w' := by
  obtain ⟨i0, hi, hz0, hz1, hz2⟩ := info_parts info8_cf
  obtain ⟨hb1, hb2, hN⟩ := two_blocksK w (.cells (stc k q) 38) (.cells #[.int .i64 0, .int .i64 0, .int .i64 0, .int .u64 0, .int .u64 0, .slice none 0 0] 34)
  generalize hW : (w.alloc (.cells (stc k q) 38)).alloc (.cells #[.int .i64 0, .int .i64 0, .int .i64 0, .int .u64 0, .int .u64 0, .slice none 0 0] 34) = w0 at *
  have HB1 := Lib.hid hb1
  have HB2 := Lib.hid hb2
  have HN := Lib.hid hN
  clear hb1 hb2 hN
  have HSZ := Lib.hid (fun w => rsize_any k w)
  have hsz := szK_le k
  have HQL := Lib.hid (q4l_len k q)
  have HXA : Hid (∀ j, j < (szK k).toNat → (q4l k q).getD j 0 = [q.a, q.b, q.c, q.d].getD j 0) := Lib.hid (fun j hj => by
    unfold q4l
    rw [List.getD_eq_getElem?_getD, List.getElem?_take, if_pos hj, ← List.getD_eq_getElem?_getD])
  have HCX := Lib.hid (fun (w' : World) (hb : w'.heap[w.heap.size]? = some (.cells (stc k q) 38 (0, 0))) => (q4_row k q _ w' _ hb).cell w.heap.size 1 rfl)
  obtain ⟨X, hX⟩ : ∃ z, q4l k q = z := ⟨_, rfl⟩
  rw [hX] at HXA HCX HQL ⊢
  obtain ⟨Z, hZ⟩ : ∃ z, (szK k).toNat = z := ⟨_, rfl⟩
  rw [show szK k = ((szK k).toNat : Int) by omega] at HSZ
  rw [hZ] at HSZ HXA HCX HQL ⊢
  have hz4 : Z ≤ 4 := by omega
  clear hX hZ hsz HXA
  have c0 := cell_of_row _ _ 0 _ _ _ HB1.out
  have c1 := cell_of_row _ _ 1 _ _ _ HB1.out
  have c2 := cell_of_row _ _ 2 _ _ _ HB1.out
  have c3 := cell_of_row _ _ 3 _ _ _ HB1.out
  have c4 := cell_of_row _ _ 4 _ _ _ HB1.out
  go_enter Tryz.func16, Tryz.ntmps16
  go_wp2_with fail
  obtain ⟨w3, hw3⟩ : ∃ z, w0.alloc (.cells #[.int .i64 3, .int .i64 k, .int .i64 0, .int .u64 0, .int .u64 0, .slice none 0 0] 34) = z := ⟨_, rfl⟩
  have HC3 : Hid (w3.heap[w0.heap.size]? = some (.cells #[.int .i64 3, .int .i64 k, .int .i64 0, .int .u64 0, .int .u64 0, .slice none 0 0] 34 (0, 0))) := Lib.hid (by rw [← hw3]; exact heap_alloc_new w0 _)
  have HN3 : Hid (New w0 w3) := Lib.hid (by rw [← hw3]; exact (New.refl w0).alloc _)
  have HSZ3 : Hid (w3.heap.size = w0.heap.size + 1) := Lib.hid (by rw [← hw3]; simp)
  have HS0 : Hid (w0.heap.size = w.heap.size + 2) := Lib.hid (by rw [← hW]; simp)
  have HW3 := Lib.hid hw3
  clear hw3 c0 c1 c2 c3 c4
  have HBS : Hid (w3.heap[w.heap.size]? = some (.cells (stc k q) 38 (0, 0))) := Lib.hid ((HN3.out.block _ (lt_of_block HB1.out)).trans HB1.out)
  have HBR : Hid (w3.heap[w.heap.size + 1]? = some (.cells #[.int .i64 0, .int .i64 0, .int .i64 0, .int .u64 0, .int .u64 0, .slice none 0 0] 34 (0, 0))) := Lib.hid ((HN3.out.block _ (lt_of_block HB2.out)).trans HB2.out)
  have HNW3 := Lib.hid (HN.out.trans HN3.out)
  rw [HW3.out]
  obtain ⟨qc, hqc⟩ : ∃ z, w0.heap.size = z := ⟨_, rfl⟩
  rw [hqc] at HC3 HSZ3 HS0 ⊢
  go_loopw [4] (fun iv wr => ∃ (j : Nat) (v : Value), j ≤ Z ∧ iv = .int .i64 (j : Int) ∧ wr.heap[qc]? = some (.cells #[.int .i64 3, .int .i64 k, .int .i64 0, .int .u64 0, .int .u64 0, v] 34 (0, 0)) ∧ wr.heap[w.heap.size]? = some (.cells (stc k q) 38 (0, 0)) ∧ wr.heap[w.heap.size + 1]? = some (.cells #[.int .i64 0, .int .i64 0, .int .i64 0, .int .u64 0, .int .u64 0, .slice none 0 0] 34 (0, 0)) ∧ wr.ownsRow w3.heap.size 22 1 v j ((X.take j).map fun y => .int .u64 (W64 y)) ∧ New w wr) (fun iv _ => Z - (intOf iv).toNat)
  case atStart => exact ⟨0, .slice none 0 0, Nat.zero_le _, rfl, HC3.out, HBS.out, HBR.out, World.ownsRow_nil w3 _ _ 1, HNW3.out⟩
  case round =>
    obtain ⟨j, v, hj, rfl, hc, hs, hres, hown, hnew⟩ := hrel
    have HC := Lib.hid hc
    have HS := Lib.hid hs
    have HRS := Lib.hid hres
    have HOWN := Lib.hid hown
    have HNJ := Lib.hid hnew
    clear hc hs hres hown hnew
    have d0 := cell_of_row _ _ 0 _ _ _ HS.out
    go_wp2_with fail
    refine (HSZ.out _).mono ?_
    rintro e w4 ⟨rfl, hn4⟩
    have HN4 := Lib.hid (HNJ.out.trans hn4)
    have HC4 := Lib.hid ((hn4.block _ (lt_of_block HC.out)).trans HC.out)
    have HS4 := Lib.hid ((hn4.block _ (lt_of_block HS.out)).trans HS.out)
    have HR4 := Lib.hid ((hn4.block _ (lt_of_block HRS.out)).trans HRS.out)
    have HO4 := Lib.hid (ow_blkB HOWN.out (fun g' e => hn4.block g' (ow_ltB HOWN.out g' e).2))
    have HW34 : Hid (w3.heap.size ≤ w4.heap.size) := Lib.hid (by have h1 := hn4.le; have h2 := lt_of_block HC4.out; have := HSZ3.out; omega)
    clear hn4 d0
    by_cases hlt : (j : Int) < (Z : Int)
    · have hjZ : j < Z := by omega
      have hlt' : j < Z := hjZ
      have hj0 : ¬ (j : Int) < 0 := by omega
      have hj4 : (j : Int) < 4 := by omega
      have d1 := HCX.out w4 HS4.out j hjZ
      have m5 := cell_of_row _ _ 5 _ _ _ HC4.out
      have mf := fun i => frozen_of_row _ _ i _ _ HC4.out
      obtain ⟨xv, hxv⟩ : ∃ xv, X.getD j 0 = xv := ⟨_, rfl⟩
      rw [hxv] at d1
      have HTK : Hid ((X.take (j + 1)).map (fun y => Value.int .u64 (W64 y)) = (X.take j).map (fun y => Value.int .u64 (W64 y)) ++ [.int .u64 (W64 xv)]) := Lib.hid (by
        have hjl : j < X.length := by rw [HQL.out]; exact hjZ
        rw [List.take_add_one, List.map_append, List.getElem?_eq_getElem hjl]
        have : X[j] = xv := by rw [← hxv, List.getD_eq_getElem?_getD, List.getElem?_eq_getElem hjl]; rfl
        rw [this]; rfl)
      have a5 := cell_of_row _ _ 5 _ _ _ ((((New.refl w4).alloc (.cells #[.int .u64 (W64 xv)] 22)).block _ (lt_of_block HC4.out)).trans HC4.out)
      clear hxv
      go_wp2_with fail
      go_region_law (refine step_append_lies _ rfl (.tmp 16) (.tmp 21) 25 rfl w3.heap.size 22 i0 (.int .u64 0) 1 8 Tryz.underlying25 hi hz0 hz1 hz2 rfl (by omega) v j ((X.take j).map fun y => .int .u64 (W64 y)) rfl (ow_blkB HO4.out (fun g' e => Below.block (show New w4 _ from by (repeat (first | with_reducible assumption | with_reducible exact New.refl _ | with_reducible refine New.drew ?_ | with_reducible refine New.alloc ?_ _))) g' (ow_ltB HO4.out g' e).2)) _ 1 1 [.int .u64 (W64 xv)] rfl rfl (World.news_of_block (cs := #[.int .u64 (W64 xv)]) (t := 22) (fr := (0, 0)) (heap_alloc_new _ _)) (by simp [Value.oneCell']) (by omega) (by unfold maxLen; omega) (by omega) (by have := HW34.out; simp; omega) _ rfl ?_; intro g cp w5 hown5 hgr5 hat5 hlt5; have hne5 : (some qc : Option Nat) ≠ v.ownBlock := (fun e => by have := (ow_ltB HO4.out qc e.symm).1; have := HSZ3.out; omega); have hq5 := (hgr5.block qc (by have := lt_of_block HC4.out; simp; omega) hne5).trans ((Below.block (show New w4 _ from by (repeat (first | with_reducible assumption | with_reducible exact New.refl _ | with_reducible refine New.drew ?_ | with_reducible refine New.alloc ?_ _))) qc (lt_of_block HC4.out)).trans HC4.out); have n5 := cell_of_row _ _ 5 _ _ _ hq5; have nf := fun i => frozen_of_row _ _ i _ _ hq5)
      all_goals
        have hS5 := (hgr5.block w.heap.size (by have := lt_of_block HS4.out; simp; omega) (fun e => by have := (ow_ltB HO4.out w.heap.size e.symm).1; have := HSZ3.out; have := HS0.out; omega)).trans ((Below.block (show New w4 _ from by (repeat (first | with_reducible assumption | with_reducible exact New.refl _ | with_reducible refine New.drew ?_ | with_reducible refine New.alloc ?_ _))) w.heap.size (lt_of_block HS4.out)).trans HS4.out)
        have hR5 := (hgr5.block (w.heap.size + 1) (by have := lt_of_block HR4.out; simp; omega) (fun e => by have := (ow_ltB HO4.out (w.heap.size + 1) e.symm).1; have := HSZ3.out; have := HS0.out; omega)).trans ((Below.block (show New w4 _ from by (repeat (first | with_reducible assumption | with_reducible exact New.refl _ | with_reducible refine New.drew ?_ | with_reducible refine New.alloc ?_ _))) (w.heap.size + 1) (lt_of_block HR4.out)).trans HR4.out)
        have hn5 : New w w5 := New.grown' (HN4.out.trans (show New w4 _ from by (repeat (first | with_reducible assumption | with_reducible exact New.refl _ | with_reducible refine New.drew ?_ | with_reducible refine New.alloc ?_ _)))) hgr5 (fun k' e' => by have := (ow_ltB HO4.out k' e').1; have := HSZ3.out; have := HS0.out; omega)
        have hlo : w3.heap.size ≤ g := (ow_ltB hown5 g rfl).1
        rw [← HTK.out] at hown5
        have HQ5 := Lib.hid hq5
        have HS5 := Lib.hid hS5
        have HR5 := Lib.hid hR5
        have HN5 := Lib.hid hn5
        have HO5 := Lib.hid hown5
        have HLO := Lib.hid hlo
        clear hq5 hS5 hR5 hn5 hown5 hgr5 hat5 hlt5 hne5 n5 nf hlo m5 mf d1 a5
        go_wp2
        refine ⟨⟨j + 1, .slice (some ⟨g, 0, none⟩) (j + 1) cp, by omega, by go_num, heap_setCell_same _ _ 5 _ _ _ HQ5.out, ?_, ?_, ?_, ?_⟩, by simp [intOf]; omega⟩
        · rw [heap_setCell_other _ _ _ _ (by have := HS0.out; show w.heap.size ≠ qc; omega)]; exact HS5.out
        · rw [heap_setCell_other _ _ _ _ (by have := HS0.out; show w.heap.size + 1 ≠ qc; omega)]; exact HR5.out
        · exact ow_blkB HO5.out (fun g' e => by
            have hg : g = g' := by cases e; rfl
            rw [heap_setCell_other _ _ _ _ (by have := HSZ3.out; have := HLO.out; show g' ≠ qc; omega)])
        · exact HN5.out.setCell (by have := HS0.out; show w.heap.size ≤ qc; omega) _
    · obtain rfl : j = Z := by omega
      have hfar : QFar (w.heap.size + 1) w4 v j X := QFar.of_owns (by have h := HO4.out; rw [List.take_of_length_le (by rw [HQL.out]; exact Nat.le_refl _)] at h; exact h) (by omega) (by have := HSZ3.out; have := HS0.out; omega)
      obtain ⟨a6, c6, rfl, hr6, hf6⟩ := hfar
      have HF6 : Hid (QFar (w.heap.size + 1) w4 (.slice a6 j c6) j X) := Lib.hid ⟨a6, c6, rfl, hr6, hf6⟩
      have y0 := cell_of_row _ _ 0 _ _ _ HC4.out
      have y1 := cell_of_row _ _ 1 _ _ _ HC4.out
      have y2 := cell_of_row _ _ 2 _ _ _ HC4.out
      have y3 := cell_of_row _ _ 3 _ _ _ HC4.out
      have y4 := cell_of_row _ _ 4 _ _ _ HC4.out
      have y5 := cell_of_row _ _ 5 _ _ _ HC4.out
      have r0 := cell_of_row _ _ 0 _ _ _ HR4.out
      have r1 := cell_of_row _ _ 1 _ _ _ HR4.out
      have r2 := cell_of_row _ _ 2 _ _ _ HR4.out
      have r3 := cell_of_row _ _ 3 _ _ _ HR4.out
      have r4 := cell_of_row _ _ 4 _ _ _ HR4.out
      have r5 := cell_of_row _ _ 5 _ _ _ HR4.out
      have rf := fun i => frozen_of_row _ _ i _ _ HR4.out
      have hp := put6_factsC (.int .i64 3) (.int .i64 k) (.int .i64 0) (.int .u64 0) (.int .u64 0) (.slice a6 j c6) HR4.out
      have hnl : ¬ (j : Int) < (j : Int) := by omega
      clear hr6 hf6
      go_wp2_with fail
      refine bodyPost_ret (by simp [results, Tryz.results16, go_sem, r0, r1, r2, r3, r4, r5]; try rfl) rfl ?_
      exact ⟨⟨a6, c6, rfl, far_row HF6.out hp.2.1⟩, hp.2.2 _ HN4.out (Nat.le_succ _)⟩
end Go.Proofs.YthkmcnlciefnfaaGreat
