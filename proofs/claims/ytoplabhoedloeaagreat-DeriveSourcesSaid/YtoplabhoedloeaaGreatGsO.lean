/- All generators: the document's New. · All generators: the document's New of kind 7. · All generators: the document's New of kind 8. -/
import Derived.Test.YtoplabhoedloeaaGreatGsL
import Derived.StillTailTactics
import Derived.Deep.RegionHeld3
namespace Go.Proofs.YtoplabhoedloeaaGreat
open Go.RowKit Go.Bv
set_option linter.unusedVariables false
set_option maxRecDepth 100000
theorem put4_keep {w : World} {g j : Nat} (hj : j ≠ g) (v1 v2 v3 v4 : Value) : ((((w.setCell ⟨g, 1, none⟩ v1).setCell ⟨g, 2, none⟩ v2).setCell ⟨g, 3, none⟩ v3).setCell ⟨g, 4, none⟩ v4).heap[j]? = w.heap[j]? := by
  rw [heap_setCell_other _ _ _ _ hj, heap_setCell_other _ _ _ _ hj, heap_setCell_other _ _ _ _ hj, heap_setCell_other _ _ _ _ hj]
theorem put4_newk {W w : World} {g : Nat} (hn : New W w) (hg : W.heap.size ≤ g) (v1 v2 v3 v4 : Value) : New W ((((w.setCell ⟨g, 1, none⟩ v1).setCell ⟨g, 2, none⟩ v2).setCell ⟨g, 3, none⟩ v3).setCell ⟨g, 4, none⟩ v4) :=
  (((hn.setCell (by exact hg) _).setCell (by exact hg) _).setCell (by exact hg) _).setCell (by exact hg) _
abbrev kst (k : Int) : Array Value := #[.int .i64 k, .int .u64 0, .int .u64 0, .int .u64 0, .int .u64 0]
set_option maxHeartbeats 4000000 in
theorem rnew1 (n : BitVec 64) (w : World) : Calls Tryz.prog 11 #[.int .i64 1, .int .u64 (W64 n)] w fun e w' => e = .returned (.agg (stc 1 (sdW 1 n))) ∧ New w w' := by
  have hr := heap_alloc_new w (.cells zst 28)
  have HR := Lib.hid hr
  clear hr
  go_enter Tryz.func11, Tryz.ntmps11
  go_wp2_with fail
  refine (words8_ref _ _ 4 (by omega) (Or.inr rfl) (b64 _) _ _ (New.refl _)).mono ?_
  rintro e w1 ⟨a, cap, rfl, hrow, hn, _⟩
  rw [ofInt_W64] at hrow
  obtain ⟨b, off, rfl, hc⟩ := hrow.addr (by omega)
  have hcap := hrow.le
  have hlt : b < w1.heap.size := hrow.old _ rfl (by omega)
  have hlt0 : w.heap.size < w1.heap.size := Nat.lt_of_lt_of_le (by simp) hn.le
  have hnw := ((New.refl w).alloc (.cells zst 28)).trans hn
  have N2 := (New.refl w1).alloc (.cells #[.int .i64 1, .int .u64 (W64 n), .int .u64 0, .int .u64 0, .int .u64 0] 28)
  have hr := ((hn.trans N2).block _ (lt_of_block HR.out)).trans HR.out
  have y0 := cell_of_row _ _ 0 _ _ _ hr
  have y1 := cell_of_row _ _ 1 _ _ _ hr
  have y2 := cell_of_row _ _ 2 _ _ _ hr
  have y3 := cell_of_row _ _ 3 _ _ _ hr
  have y4 := cell_of_row _ _ 4 _ _ _ hr
  have yf := fun i => frozen_of_row _ _ i _ _ hr
  have HX := Lib.hid hr
  have HN := Lib.hid (hnw.trans N2)
  clear hr N2 hn hnw hrow hc HR hlt hlt0
  go_wp2_with fail
  have hp := put5_facts (.int .i64 1) (.int .u64 (W64 n)) (.int .u64 0) (.int .u64 0) (.int .u64 0) HX.out
  refine bodyPost_ret (by simp [results, Tryz.results11, go_sem, y0, y1, y2, y3, y4]; try rfl) rfl ?_
  exact ⟨rfl, hp.2.2.1 _ HN.out (by omega)⟩
set_option maxHeartbeats 4000000 in
theorem rnewX (k : Int) (hk : 2 ≤ k ∧ k ≤ 4) (n : BitVec 64) (w : World) : Calls Tryz.prog 11 #[.int .i64 k, .int .u64 (W64 n)] w fun e w' => e = .returned (.agg (stc k (w9 (sd9 n)))) ∧ New w w' := by
  have k1 : (k == 1) = false := by rw [beq_eq_false_iff_ne]; omega
  have k2 : 2 ≤ k := by omega
  have k3 : k ≤ 4 := by omega
  have k5 : (k == 5) = false := by rw [beq_eq_false_iff_ne]; omega
  have k6 : (k == 6) = false := by rw [beq_eq_false_iff_ne]; omega
  have k7 : (k == 7) = false := by rw [beq_eq_false_iff_ne]; omega
  have k8 : (k == 8) = false := by rw [beq_eq_false_iff_ne]; omega
  have hr := heap_alloc_new w (.cells zst 28)
  have HR := Lib.hid hr
  clear hr
  go_enter Tryz.func11, Tryz.ntmps11
  go_wp2_with fail
  refine (words8_ref _ _ 4 (by omega) (Or.inr rfl) (b64 _) _ _ (New.refl _)).mono ?_
  rintro e w1 ⟨a, cap, rfl, hrow, hn, _⟩
  rw [ofInt_W64] at hrow
  obtain ⟨b, off, rfl, hc⟩ := hrow.addr (by omega)
  have hcap := hrow.le
  have hlt : b < w1.heap.size := hrow.old _ rfl (by omega)
  have hlt0 : w.heap.size < w1.heap.size := Nat.lt_of_lt_of_le (by simp) hn.le
  have hnw := ((New.refl w).alloc (.cells zst 28)).trans hn
  have N2 := (New.refl w1).alloc (.cells (kst k) 28)
  have hr := ((hn.trans N2).block _ (lt_of_block HR.out)).trans HR.out
  have hg := heap_alloc_new w1 (.cells (kst k) 28)
  have HG := Lib.hid hg
  have HX0 := Lib.hid hr
  have HN0 := Lib.hid (hnw.trans N2)
  clear hr hg N2 hn hnw hrow hc HR
  go_wp2_with fail
  refine (seed_ref9 n _).mono ?_
  rintro e w3 ⟨rfl, n3⟩
  have hr := (n3.block _ (lt_of_block HX0.out)).trans HX0.out
  have hg := (n3.block _ (lt_of_block HG.out)).trans HG.out
  have y0 := cell_of_row _ _ 0 _ _ _ hr
  have y1 := cell_of_row _ _ 1 _ _ _ hr
  have y2 := cell_of_row _ _ 2 _ _ _ hr
  have y3 := cell_of_row _ _ 3 _ _ _ hr
  have y4 := cell_of_row _ _ 4 _ _ _ hr
  have yf := fun i => frozen_of_row _ _ i _ _ hr
  have g0 := cell_of_row _ _ 0 _ _ _ hg
  have g1 := cell_of_row _ _ 1 _ _ _ hg
  have g2 := cell_of_row _ _ 2 _ _ _ hg
  have g3 := cell_of_row _ _ 3 _ _ _ hg
  have g4 := cell_of_row _ _ 4 _ _ _ hg
  have gf := fun i => frozen_of_row _ _ i _ _ hg
  have hne : ¬ w.heap.size = w1.heap.size := by omega
  have hne2 : ¬ w1.heap.size = w.heap.size := by omega
  have HN := Lib.hid (HN0.out.trans n3)
  have HX := Lib.hid hr
  clear hr hg n3 HG HX0 HN0
  go_wp2_with fail
  have hp := put5_facts (.int .i64 k) (.int .u64 (W64 (sd9 n).a)) (.int .u64 (W64 (sd9 n).b)) (.int .u64 (W64 (sd9 n).c)) (.int .u64 (W64 (sd9 n).d)) ((put4_keep hne (.int .u64 (W64 (sd9 n).a)) (.int .u64 (W64 (sd9 n).b)) (.int .u64 (W64 (sd9 n).c)) (.int .u64 (W64 (sd9 n).d))).trans HX.out)
  refine bodyPost_ret (by simp [results, Tryz.results11, go_sem, y0, y1, y2, y3, y4]; try rfl) rfl ?_
  exact ⟨rfl, hp.2.2.1 _ (put4_newk HN.out (by omega) _ _ _ _) (by omega)⟩
set_option maxHeartbeats 4000000 in
theorem rnew5 (n : BitVec 64) (w : World) : Calls Tryz.prog 11 #[.int .i64 5, .int .u64 (W64 n)] w fun e w' => e = .returned (.agg (stc 5 (sdW 5 n))) ∧ New w w' := by
  have hr := heap_alloc_new w (.cells zst 28)
  have HR := Lib.hid hr
  clear hr
  go_enter Tryz.func11, Tryz.ntmps11
  go_wp2_with fail
  refine (words8_ref _ _ 4 (by omega) (Or.inr rfl) (b64 _) _ _ (New.refl _)).mono ?_
  rintro e w1 ⟨a, cap, rfl, hrow, hn, _⟩
  rw [ofInt_W64] at hrow
  obtain ⟨b, off, rfl, hc⟩ := hrow.addr (by omega)
  have hcap := hrow.le
  have hlt : b < w1.heap.size := hrow.old _ rfl (by omega)
  have hlt0 : w.heap.size < w1.heap.size := Nat.lt_of_lt_of_le (by simp) hn.le
  have hnw := ((New.refl w).alloc (.cells zst 28)).trans hn
  have c0 : (w1.alloc (.cells #[.int .i64 5, .int .u64 0, .int .u64 0, .int .u64 0, .int .u64 0] 28)).cell? ⟨b, off, none⟩ = some (.int .u64 (W64 (l15 n 1))) := (((New.refl w1).alloc _).cell (a := ⟨b, off, none⟩) hlt).trans (hc 0 (by omega))
  have c1 : (w1.alloc (.cells #[.int .i64 5, .int .u64 (W64 (l15 n 1)), .int .u64 0, .int .u64 0, .int .u64 0] 28)).cell? ⟨b, off + 1, none⟩ = some (.int .u64 (W64 (l15 n 2))) := (((New.refl w1).alloc _).cell (a := ⟨b, off + 1, none⟩) hlt).trans (hc 1 (by omega))
  have N2 := (New.refl w1).alloc (.cells #[.int .i64 5, .int .u64 (W64 (l15 n 1)), .int .u64 (W64 (l15 n 2)), .int .u64 0, .int .u64 0] 28)
  have hr := ((hn.trans N2).block _ (lt_of_block HR.out)).trans HR.out
  have y0 := cell_of_row _ _ 0 _ _ _ hr
  have y1 := cell_of_row _ _ 1 _ _ _ hr
  have y2 := cell_of_row _ _ 2 _ _ _ hr
  have y3 := cell_of_row _ _ 3 _ _ _ hr
  have y4 := cell_of_row _ _ 4 _ _ _ hr
  have yf := fun i => frozen_of_row _ _ i _ _ hr
  have HX := Lib.hid hr
  have HN := Lib.hid (hnw.trans N2)
  clear hr N2 hn hnw hrow hc HR hlt hlt0
  go_wp2_with fail
  have hp := put5_facts (.int .i64 5) (.int .u64 (W64 (l15 n 1))) (.int .u64 (W64 (l15 n 2))) (.int .u64 0) (.int .u64 0) HX.out
  refine bodyPost_ret (by simp [results, Tryz.results11, go_sem, y0, y1, y2, y3, y4]; try rfl) rfl ?_
  rw [show stc 5 (sdW 5 n) = #[.int .i64 5, .int .u64 (W64 (l15 n 1)), .int .u64 (W64 (l15 n 2)), .int .u64 0, .int .u64 0] from by rw [← W64z]; rfl]
  exact ⟨rfl, hp.2.2.1 _ HN.out (by omega)⟩
set_option maxHeartbeats 4000000 in
theorem rnew6 (n : BitVec 64) (w : World) : Calls Tryz.prog 11 #[.int .i64 6, .int .u64 (W64 n)] w fun e w' => e = .returned (.agg (stc 6 (sdW 6 n))) ∧ New w w' := by
  have hr := heap_alloc_new w (.cells zst 28)
  have HR := Lib.hid hr
  clear hr
  go_enter Tryz.func11, Tryz.ntmps11
  go_wp2_with fail
  refine (words8_ref _ _ 4 (by omega) (Or.inr rfl) (b64 _) _ _ (New.refl _)).mono ?_
  rintro e w1 ⟨a, cap, rfl, hrow, hn, _⟩
  rw [ofInt_W64] at hrow
  obtain ⟨b, off, rfl, hc⟩ := hrow.addr (by omega)
  have hcap := hrow.le
  have hlt : b < w1.heap.size := hrow.old _ rfl (by omega)
  have hlt0 : w.heap.size < w1.heap.size := Nat.lt_of_lt_of_le (by simp) hn.le
  have hnw := ((New.refl w).alloc (.cells zst 28)).trans hn
  have c0 : (w1.alloc (.cells #[.int .i64 6, .int .u64 0, .int .u64 0, .int .u64 0, .int .u64 0] 28)).cell? ⟨b, off, none⟩ = some (.int .u64 (W64 (l15 n 1))) := (((New.refl w1).alloc _).cell (a := ⟨b, off, none⟩) hlt).trans (hc 0 (by omega))
  have c1 : (w1.alloc (.cells #[.int .i64 6, .int .u64 (W64 (l15 n 1)), .int .u64 0, .int .u64 0, .int .u64 0] 28)).cell? ⟨b, off + 1, none⟩ = some (.int .u64 (W64 (l15 n 2))) := (((New.refl w1).alloc _).cell (a := ⟨b, off + 1, none⟩) hlt).trans (hc 1 (by omega))
  have N2 := (New.refl w1).alloc (.cells #[.int .i64 6, .int .u64 (W64 (l15 n 1)), .int .u64 (W64 (l15 n 2)), .int .u64 0, .int .u64 0] 28)
  have hr := ((hn.trans N2).block _ (lt_of_block HR.out)).trans HR.out
  have y0 := cell_of_row _ _ 0 _ _ _ hr
  have y1 := cell_of_row _ _ 1 _ _ _ hr
  have y2 := cell_of_row _ _ 2 _ _ _ hr
  have y3 := cell_of_row _ _ 3 _ _ _ hr
  have y4 := cell_of_row _ _ 4 _ _ _ hr
  have yf := fun i => frozen_of_row _ _ i _ _ hr
  have HX := Lib.hid hr
  have HN := Lib.hid (hnw.trans N2)
  clear hr N2 hn hnw hrow hc HR hlt hlt0
  go_wp2_with fail
  have hp := put5_facts (.int .i64 6) (.int .u64 (W64 (l15 n 1))) (.int .u64 (W64 (l15 n 2))) (.int .u64 0) (.int .u64 0) HX.out
  refine bodyPost_ret (by simp [results, Tryz.results11, go_sem, y0, y1, y2, y3, y4]; try rfl) rfl ?_
  rw [show stc 6 (sdW 6 n) = #[.int .i64 6, .int .u64 (W64 (l15 n 1)), .int .u64 (W64 (l15 n 2)), .int .u64 0, .int .u64 0] from by rw [← W64z]; rfl]
  exact ⟨rfl, hp.2.2.1 _ HN.out (by omega)⟩
end Go.Proofs.YtoplabhoedloeaaGreat
namespace Go.Proofs.YtoplabhoedloeaaGreat
open Go.RowKit Go.Bv
set_option linter.unusedVariables false
set_option maxRecDepth 100000
theorem inc_step (t : BitVec 64) : step13 0#64 (2#64 * t + 1#64) = 2#64 * t + 1#64 := by
  unfold step13
  have : (2#64 * t + 1#64) ||| 1#64 = 2#64 * t + 1#64 := by
    rw [← odd13, if_neg]
    intro h
    have h3 := congrArg (fun x : BitVec 64 => x.toNat) h
    simp [BitVec.toNat_umod, BitVec.toNat_add, BitVec.toNat_mul] at h3
  rw [this, BitVec.zero_mul, BitVec.zero_add]
theorem w7_a (n : BitVec 64) : (w7 n).a = step13 (2#64 * l15 n 2 + 1#64 + l15 n 1) (2#64 * l15 n 2 + 1#64) := by
  show step13 (step13 0#64 (2#64 * l15 n 2 + 1#64) + l15 n 1) (2#64 * l15 n 2 + 1#64) = _
  rw [inc_step]
set_option maxHeartbeats 4000000 in
theorem rnew7 (n : BitVec 64) (w : World) : Calls Tryz.prog 11 #[.int .i64 7, .int .u64 (W64 n)] w fun e w' => e = .returned (.agg (stc 7 (sdW 7 n))) ∧ New w w' := by
  have hr := heap_alloc_new w (.cells zst 28)
  have HR := Lib.hid hr
  clear hr
  go_enter Tryz.func11, Tryz.ntmps11
  go_wp2_with fail
  refine (words8_ref _ _ 4 (by omega) (Or.inr rfl) (b64 _) _ _ (New.refl _)).mono ?_
  rintro e w1 ⟨a, cap, rfl, hrow, hn, _⟩
  rw [ofInt_W64] at hrow
  obtain ⟨b, off, rfl, hc⟩ := hrow.addr (by omega)
  have hcap := hrow.le
  have hlt : b < w1.heap.size := hrow.old _ rfl (by omega)
  have hlt0 : w.heap.size < w1.heap.size := Nat.lt_of_lt_of_le (by simp) hn.le
  have hnw := ((New.refl w).alloc (.cells zst 28)).trans hn
  have e1 : (w1.alloc (.cells #[.int .i64 7, .int .u64 0, .int .u64 0, .int .u64 0, .int .u64 0] 28)).cell? ⟨b, off + 1, none⟩ = some (.int .u64 (W64 (l15 n 2))) := (((New.refl w1).alloc _).cell (a := ⟨b, off + 1, none⟩) hlt).trans (hc 1 (by omega))
  have c0 : (w1.alloc (.cells #[.int .i64 7, .int .u64 0, .int .u64 (W64 (2#64 * l15 n 2 + 1#64)), .int .u64 0, .int .u64 0] 28)).cell? ⟨b, off, none⟩ = some (.int .u64 (W64 (l15 n 1))) := (((New.refl w1).alloc _).cell (a := ⟨b, off, none⟩) hlt).trans (hc 0 (by omega))
  have N2 : New w1 (w1.alloc (.cells #[.int .i64 7, .int .u64 0, .int .u64 (W64 (2#64 * l15 n 2 + 1#64)), .int .u64 0, .int .u64 0] 28)) := (New.refl w1).alloc _
  have hr := ((hn.trans N2).block _ (lt_of_block HR.out)).trans HR.out
  have hg := heap_alloc_new w1 (.cells #[.int .i64 7, .int .u64 0, .int .u64 (W64 (2#64 * l15 n 2 + 1#64)), .int .u64 0, .int .u64 0] 28)
  have hne : ¬ w.heap.size = w1.heap.size := by omega
  have hne2 : ¬ w1.heap.size = w.heap.size := by omega
  have hle : w.heap.size ≤ w1.heap.size := by omega
  have HN := Lib.hid (hnw.trans N2)
  clear N2 hn hnw hrow hc HR hlt hlt0
  go_wp2_with fail
  clear e1
  generalize (w1.alloc (.cells #[.int .i64 7, .int .u64 0, .int .u64 (W64 (2#64 * l15 n 2 + 1#64)), .int .u64 0, .int .u64 0] 28)) = w2 at *
  generalize w1.heap.size = g at *
  have HX := Lib.hid hr
  have y0 : w2.drew.cell? _ = _ := cell_of_row _ _ 0 _ _ _ hr
  have y1 : w2.drew.cell? _ = _ := cell_of_row _ _ 1 _ _ _ hr
  have y2 : w2.drew.cell? _ = _ := cell_of_row _ _ 2 _ _ _ hr
  have y3 : w2.drew.cell? _ = _ := cell_of_row _ _ 3 _ _ _ hr
  have y4 : w2.drew.cell? _ = _ := cell_of_row _ _ 4 _ _ _ hr
  have yf : ∀ i, w2.drew.frozen? _ = _ := fun i => frozen_of_row _ _ i _ _ hr
  have g0 : w2.drew.cell? _ = _ := cell_of_row _ _ 0 _ _ _ hg
  have g1 : w2.drew.cell? _ = _ := cell_of_row _ _ 1 _ _ _ hg
  have g2 : w2.drew.cell? _ = _ := cell_of_row _ _ 2 _ _ _ hg
  have g3 : w2.drew.cell? _ = _ := cell_of_row _ _ 3 _ _ _ hg
  have g4 : w2.drew.cell? _ = _ := cell_of_row _ _ 4 _ _ _ hg
  have gf : ∀ i, w2.drew.frozen? _ = _ := fun i => frozen_of_row _ _ i _ _ hg
  clear hr hg
  replace HN := Lib.hid HN.out.drew
  refine wp_region_still_tail 13 (by kernel_rfl) (by kernel_rfl) ?_
  change wpStill _ _ w2.drew (fun a' => wpList _ _ _ _ a' w2.drew) _ _
  change w2.drew.cell? _ = _ at c0
  replace HX : Hid (w2.drew.heap[w.heap.size]? = some (.cells zst 28 (0, 0))) := HX
  generalize w2.drew = w3 at *
  simp only [List.take_succ_cons, List.take_zero, List.drop_succ_cons, List.drop_zero]
  repeat (first | still_step | still_call (step_ref _ _ (b64 _) (b64 _) _))
  refine wpStill_nil ?_
  go_wp2
  have hp := put5_facts (.int .i64 7) (.int .u64 (W64 (step13 (2#64 * l15 n 2 + 1#64 + l15 n 1) (2#64 * l15 n 2 + 1#64)))) (.int .u64 (W64 (2#64 * l15 n 2 + 1#64))) (.int .u64 0) (.int .u64 0) ((heap_setCell_other w3 ⟨g, 1, none⟩ w.heap.size (.int .u64 (W64 (step13 (2#64 * l15 n 2 + 1#64 + l15 n 1) (2#64 * l15 n 2 + 1#64)))) hne).trans HX.out)
  refine bodyPost_ret (by simp [results, Tryz.results11, go_sem, y0, y1, y2, y3, y4]; try rfl) rfl ?_
  have e : stc 7 (sdW 7 n) = #[.int .i64 7, (.int .u64 (W64 (step13 (2#64 * l15 n 2 + 1#64 + l15 n 1) (2#64 * l15 n 2 + 1#64)))), .int .u64 (W64 (2#64 * l15 n 2 + 1#64)), .int .u64 0, .int .u64 0] := by rw [← w7_a, ← W64z]; rfl
  rw [e]
  exact ⟨rfl, hp.2.2.1 _ (HN.out.setCell (by exact hle) _) (by omega)⟩
end Go.Proofs.YtoplabhoedloeaaGreat
namespace Go.Proofs.YtoplabhoedloeaaGreat
open Go.RowKit Go.Bv
set_option linter.unusedVariables false
set_option maxRecDepth 100000
theorem zu_new (w : World) : (w.alloc (.cells #[.int .u64 0, .int .u64 0] 24)).heap[w.heap.size]? = some (.cells #[.int .u64 0, .int .u64 0] 24 (0, 0)) := heap_alloc_new w _
theorem zu_stay {w w' : World} {b : Nat} {o : Obj} (h : w.heap[b]? = some o) (hn : New w w') : w'.heap[b]? = some o := (hn.block _ (lt_of_block h)).trans h
theorem zu_put {P : World} {b : Nat} (x y : Value) (h : P.heap[b]? = some (.cells #[.int .u64 0, .int .u64 0] 24 (0, 0))) : ((P.setCell ⟨b, 0, none⟩ x).setCell ⟨b, 1, none⟩ y).heap[b]? = some (.cells #[x, y] 24 (0, 0)) := by
  have h0 := heap_setCell_same P b 0 _ _ x h
  exact heap_setCell_same _ b 1 _ _ y h0
theorem zz_set {P : World} {b c : Nat} (h : P.heap[c]? = some (.cells #[.int .u64 0, .int .u64 0] 24 (0, 0))) (hne : b ≠ c) (x y : Value) : ((P.setCell ⟨b, 0, none⟩ x).setCell ⟨b, 1, none⟩ y).heap[c]? = some (.cells #[.int .u64 0, .int .u64 0] 24 (0, 0)) := (heap_setCell_other _ _ _ _ (by simp; try omega)).trans ((heap_setCell_other _ _ _ _ (by simp; try omega)).trans h)
theorem zz_b (P : World) : ((P.alloc (.cells #[.int .u64 0, .int .u64 0] 24)).alloc (.cells #[.int .u64 0, .int .u64 0] 24)).heap[P.heap.size + 1]? = some (.cells #[.int .u64 0, .int .u64 0] 24 (0, 0)) := by
  have h := heap_alloc_new (P.alloc (.cells #[.int .u64 0, .int .u64 0] 24)) (.cells #[.int .u64 0, .int .u64 0] 24)
  rw [show (P.alloc (.cells #[.int .u64 0, .int .u64 0] 24)).heap.size = P.heap.size + 1 by simp] at h
  exact h
theorem zz_a (P : World) : ((P.alloc (.cells #[.int .u64 0, .int .u64 0] 24)).alloc (.cells #[.int .u64 0, .int .u64 0] 24)).heap[P.heap.size]? = some (.cells #[.int .u64 0, .int .u64 0] 24 (0, 0)) := zu_stay (zu_new P) ((New.refl _).alloc _)
theorem zw_other {P : World} {b c : Nat} {o : Obj} (h : P.heap[c]? = some o) (hne : b ≠ c) (x y : Value) : ((P.setCell ⟨b, 0, none⟩ x).setCell ⟨b, 1, none⟩ y).heap[c]? = some o := (heap_setCell_other _ _ _ _ (by simp; try omega)).trans ((heap_setCell_other _ _ _ _ (by simp; try omega)).trans h)
theorem zf1a {P : World} {b c : Nat} {x0 x1 y0 y1 : Value} (h : P.heap[b]? = some (.cells #[.int .u64 0, .int .u64 0] 24 (0, 0))) (hne : b ≠ c) : ((((P.setCell ⟨b, 0, none⟩ x0).setCell ⟨b, 1, none⟩ x1).setCell ⟨c, 0, none⟩ y0).setCell ⟨c, 1, none⟩ y1).heap[b]? = some (.cells #[x0, x1] 24 (0, 0)) := zw_other (zu_put x0 x1 h) hne.symm y0 y1
theorem zf1b {P : World} {b c : Nat} {x0 x1 y0 y1 : Value} (h : P.heap[c]? = some (.cells #[.int .u64 0, .int .u64 0] 24 (0, 0))) (hne : b ≠ c) : ((((P.setCell ⟨b, 0, none⟩ x0).setCell ⟨b, 1, none⟩ x1).setCell ⟨c, 0, none⟩ y0).setCell ⟨c, 1, none⟩ y1).heap[c]? = some (.cells #[y0, y1] 24 (0, 0)) := zu_put y0 y1 (zz_set h hne x0 x1)
theorem zf2a {P : World} {b : Nat} {x0 x1 y0 y1 : Value} (h : P.heap[b]? = some (.cells #[.int .u64 0, .int .u64 0] 24 (0, 0))) : (((((P.alloc (.cells #[.int .u64 0, .int .u64 0] 24)).setCell ⟨b, 0, none⟩ x0).setCell ⟨b, 1, none⟩ x1).setCell ⟨P.heap.size, 0, none⟩ y0).setCell ⟨P.heap.size, 1, none⟩ y1).heap[b]? = some (.cells #[x0, x1] 24 (0, 0)) := zf1a (zu_stay h ((New.refl _).alloc _)) (Nat.ne_of_lt (lt_of_block h))
theorem zf2b {P : World} {b : Nat} {x0 x1 y0 y1 : Value} (h : P.heap[b]? = some (.cells #[.int .u64 0, .int .u64 0] 24 (0, 0))) : (((((P.alloc (.cells #[.int .u64 0, .int .u64 0] 24)).setCell ⟨b, 0, none⟩ x0).setCell ⟨b, 1, none⟩ x1).setCell ⟨P.heap.size, 0, none⟩ y0).setCell ⟨P.heap.size, 1, none⟩ y1).heap[P.heap.size]? = some (.cells #[y0, y1] 24 (0, 0)) := zf1b (zu_new P) (Nat.ne_of_lt (lt_of_block h))
theorem zf3a {P : World} {b : Nat} {x0 x1 y0 y1 : Value} (h : P.heap[b]? = some (.cells #[.int .u64 0, .int .u64 0] 24 (0, 0))) : (((P.setCell ⟨b, 0, none⟩ x0).setCell ⟨b, 1, none⟩ x1).alloc (.cells #[y0, y1] 24)).heap[b]? = some (.cells #[x0, x1] 24 (0, 0)) := zu_stay (zu_put x0 x1 h) ((New.refl _).alloc _)
theorem zf3b {P : World} {b : Nat} {x0 x1 y0 y1 : Value} : (((P.setCell ⟨b, 0, none⟩ x0).setCell ⟨b, 1, none⟩ x1).alloc (.cells #[y0, y1] 24)).heap[P.heap.size]? = some (.cells #[y0, y1] 24 (0, 0)) := by
  have h := heap_alloc_new ((P.setCell ⟨b, 0, none⟩ x0).setCell ⟨b, 1, none⟩ x1) (.cells #[y0, y1] 24)
  rw [show ((P.setCell ⟨b, 0, none⟩ x0).setCell ⟨b, 1, none⟩ x1).heap.size = P.heap.size by simp] at h
  exact h
theorem zf4a {P : World} {x0 x1 y0 y1 : Value} : ((P.alloc (.cells #[x0, x1] 24)).alloc (.cells #[y0, y1] 24)).heap[P.heap.size]? = some (.cells #[x0, x1] 24 (0, 0)) := zu_stay (heap_alloc_new P _) ((New.refl _).alloc _)
theorem zf4b {P : World} {x0 x1 y0 y1 : Value} : ((P.alloc (.cells #[x0, x1] 24)).alloc (.cells #[y0, y1] 24)).heap[P.heap.size + 1]? = some (.cells #[y0, y1] 24 (0, 0)) := by
  have h := heap_alloc_new (P.alloc (.cells #[x0, x1] 24)) (.cells #[y0, y1] 24)
  rw [show (P.alloc (.cells #[x0, x1] 24)).heap.size = P.heap.size + 1 by simp] at h
  exact h
theorem zf5a {P : World} {b : Nat} {x0 x1 y0 y1 : Value} (h : P.heap[b]? = some (.cells #[.int .u64 0, .int .u64 0] 24 (0, 0))) : (((P.alloc (.cells #[x0, x1] 24)).setCell ⟨b, 0, none⟩ y0).setCell ⟨b, 1, none⟩ y1).heap[P.heap.size]? = some (.cells #[x0, x1] 24 (0, 0)) := zw_other (heap_alloc_new P _) (Nat.ne_of_lt (lt_of_block h)) y0 y1
theorem zf5b {P : World} {b : Nat} {x0 x1 y0 y1 : Value} (h : P.heap[b]? = some (.cells #[.int .u64 0, .int .u64 0] 24 (0, 0))) : (((P.alloc (.cells #[x0, x1] 24)).setCell ⟨b, 0, none⟩ y0).setCell ⟨b, 1, none⟩ y1).heap[b]? = some (.cells #[y0, y1] 24 (0, 0)) := zu_put y0 y1 (zu_stay h ((New.refl _).alloc _))
theorem rseed8 (n : BitVec 64) (w : World) : Calls Tryz.prog 18 #[.agg #[.int .u64 (W64 (l15 n 2)), .int .u64 (W64 (l15 n 1))], .agg #[.int .u64 (W64 (l15 n 4)), .int .u64 (W64 (l15 n 3))]] w fun e w' =>
    e = .returned (.tuple #[.agg #[.int .u64 (W64 (hi128 (s8 n))), .int .u64 (W64 (lo128 (s8 n)))], .agg #[.int .u64 (W64 (hi128 (i8 n))), .int .u64 (W64 (lo128 (i8 n)))]]) ∧ New w w' := by
  have h := seedr14 (join128 (l15 n 2) (l15 n 1)) (join128 (l15 n 4) (l15 n 3)) w
  rw [hi_join, lo_join, hi_join, lo_join] at h
  exact h
set_option maxHeartbeats 8000000 in
theorem rnew8 (n : BitVec 64) (w : World) : Calls Tryz.prog 11 #[.int .i64 8, .int .u64 (W64 n)] w fun e w' => e = .returned (.agg (stc 8 (sdW 8 n))) ∧ New w w' := by
  have HSB := Lib.hid (fun w => rseed8 n w)
  have hr := heap_alloc_new w (.cells zst 28)
  have HR := Lib.hid hr
  clear hr
  go_enter Tryz.func11, Tryz.ntmps11
  go_wp2_with fail
  refine (words8_ref _ _ 4 (by omega) (Or.inr rfl) (b64 _) _ _ (New.refl _)).mono ?_
  rintro e w1 ⟨a, cap, rfl, hrow, hn, _⟩
  rw [ofInt_W64] at hrow
  obtain ⟨b, off, rfl, hc⟩ := hrow.addr (by omega)
  have hcap := hrow.le
  have hlt : b < w1.heap.size := hrow.old _ rfl (by omega)
  have hlt0 : w.heap.size < w1.heap.size := Nat.lt_of_lt_of_le (by simp) hn.le
  have hnw := ((New.refl w).alloc (.cells zst 28)).trans hn
  have N2 : New w1 (w1.alloc (.cells #[.int .i64 8, .int .u64 0, .int .u64 0, .int .u64 0, .int .u64 0] 28)) := (New.refl w1).alloc _
  have hr := ((hn.trans N2).block _ (lt_of_block HR.out)).trans HR.out
  have hg := heap_alloc_new w1 (.cells #[.int .i64 8, .int .u64 0, .int .u64 0, .int .u64 0, .int .u64 0] 28)
  have hcs : ∀ i, i < 4 → (w1.alloc (.cells #[.int .i64 8, .int .u64 0, .int .u64 0, .int .u64 0, .int .u64 0] 28)).cell? ⟨b, off + i, none⟩ = some (.int .u64 (W64 ((told8 n 4).getD i 0))) := fun i hi => (N2.cell (a := ⟨b, off + i, none⟩) hlt).trans (hc i hi)
  have hbl : b < (w1.alloc (.cells #[.int .i64 8, .int .u64 0, .int .u64 0, .int .u64 0, .int .u64 0] 28)).heap.size := Nat.lt_of_lt_of_le hlt N2.le
  have hne : ¬ w.heap.size = w1.heap.size := by omega
  have hne2 : ¬ w1.heap.size = w.heap.size := by omega
  have hle : w.heap.size ≤ w1.heap.size := by omega
  have HN := Lib.hid (hnw.trans N2)
  clear N2 hn hnw hrow hc HR hlt hlt0
  go_wp2_with fail
  generalize (w1.alloc (.cells #[.int .i64 8, .int .u64 0, .int .u64 0, .int .u64 0, .int .u64 0] 28)) = wz at *
  generalize w1.heap.size = g at *
  have HX := Lib.hid hr
  have HG := Lib.hid hg
  have SK : Hid (∀ w', New wz w' → New wz w' ∧ w'.cell? ⟨b, off, none⟩ = some (.int .u64 (W64 (l15 n 1))) ∧ w'.cell? ⟨b, off + 1, none⟩ = some (.int .u64 (W64 (l15 n 2))) ∧ w'.cell? ⟨b, off + 2, none⟩ = some (.int .u64 (W64 (l15 n 3))) ∧ w'.cell? ⟨b, off + 3, none⟩ = some (.int .u64 (W64 (l15 n 4)))) := Lib.hid (fun w' hn => ⟨hn, (hn.cell (a := ⟨b, off, none⟩) hbl).trans (hcs 0 (by omega)), (hn.cell (a := ⟨b, off + 1, none⟩) hbl).trans (hcs 1 (by omega)), (hn.cell (a := ⟨b, off + 2, none⟩) hbl).trans (hcs 2 (by omega)), (hn.cell (a := ⟨b, off + 3, none⟩) hbl).trans (hcs 3 (by omega))⟩)
  obtain ⟨_, ce0, ce1, ce2, ce3⟩ := SK.out wz (New.refl _)
  clear hr hg hcs hbl
  go_cut [7, 8] (fun p1 p2 wx => ∃ b1 b2, p1 = .pointer (some ⟨b1, 0, none⟩) ∧ p2 = .pointer (some ⟨b2, 0, none⟩) ∧ wx.heap[b1]? = some (.cells #[.int .u64 (W64 (hi128 (s8 n))), .int .u64 (W64 (lo128 (s8 n)))] 24 (0, 0)) ∧ wx.heap[b2]? = some (.cells #[.int .u64 (W64 (hi128 (i8 n))), .int .u64 (W64 (lo128 (i8 n)))] 24 (0, 0)) ∧ New wz wx)
  case first =>
    go_region_held3 (fun w' => New wz w' ∧ w'.cell? ⟨b, off, none⟩ = some (.int .u64 (W64 (l15 n 1))) ∧ w'.cell? ⟨b, off + 1, none⟩ = some (.int .u64 (W64 (l15 n 2))) ∧ w'.cell? ⟨b, off + 2, none⟩ = some (.int .u64 (W64 (l15 n 3))) ∧ w'.cell? ⟨b, off + 3, none⟩ = some (.int .u64 (W64 (l15 n 4))))
      ((first | (refine SK.out _ ?_; repeat (first | with_reducible assumption | with_reducible exact New.refl _ | with_reducible refine New.drew ?_ | with_reducible refine New.alloc ?_ _ | (with_reducible refine New.setCell ?_ ?_ _; rotate_left; · (first | (simp; done) | (simp; omega) | omega))))))
      (first
      | (go_at_call 18
         refine (HSB.out _).mono ?_
         rintro e q0 ⟨rfl, hc0⟩
         have hp0 : New wz q0 := by
           refine New.trans ?_ hc0
           repeat (first | with_reducible assumption | with_reducible exact New.refl _ | with_reducible refine New.drew ?_ | with_reducible refine New.alloc ?_ _ | (with_reducible refine New.setCell ?_ ?_ _; rotate_left; · (first | (simp; done) | (simp; omega) | omega)))
         have hg0 : New wz q0 := hp0
         have hs0 := hg0.le
         first
         | (have n0b : q0.heap[wz.heap.size + 1]? = some (.cells #[.int .u64 0, .int .u64 0] 24 (0, 0)) := zu_stay (by exact zz_b wz) hc0
            have n0a : q0.heap[wz.heap.size]? = some (.cells #[.int .u64 0, .int .u64 0] 24 (0, 0)) := zu_stay (by exact zz_a wz) hc0
            have r0a := lt_of_block n0a
            have r0b := lt_of_block n0b)
         | (have n0a : q0.heap[wz.heap.size]? = some (.cells #[.int .u64 0, .int .u64 0] 24 (0, 0)) := zu_stay (by exact zu_new wz) hc0
            have r0a := lt_of_block n0a)
         | skip
         try (have m0a0 := cell_of_row _ _ 0 _ _ _ (n0a))
         try (have m0a1 := cell_of_row _ _ 1 _ _ _ (n0a))
         try (have m0af := fun (i : Nat) => frozen_of_row _ _ i _ _ (n0a))
         try (have e0a0 := fun (o : Obj) => cell_of_row _ _ 0 _ _ _ (zu_stay n0a ((New.refl q0).alloc o)))
         try (have e0a1 := fun (o : Obj) => cell_of_row _ _ 1 _ _ _ (zu_stay n0a ((New.refl q0).alloc o)))
         try (have e0af := fun (o : Obj) (i : Nat) => frozen_of_row _ _ i _ _ (zu_stay n0a ((New.refl q0).alloc o)))
         try (have h0a0 := fun (x y : Value) => cell_of_row _ _ 0 _ _ _ (zz_set (b := wz.heap.size) (zu_new q0) (Nat.ne_of_lt (lt_of_block n0a)) x y))
         try (have h0a1 := fun (x y : Value) => cell_of_row _ _ 1 _ _ _ (zz_set (b := wz.heap.size) (zu_new q0) (Nat.ne_of_lt (lt_of_block n0a)) x y))
         try (have h0af := fun (x y : Value) (i : Nat) => frozen_of_row _ _ i _ _ (zz_set (b := wz.heap.size) (zu_new q0) (Nat.ne_of_lt (lt_of_block n0a)) x y))
         try (have v0a := Nat.ne_of_lt (lt_of_block n0a))
         try (have w0a := (Nat.ne_of_lt (lt_of_block n0a)).symm)
         try (have u0a0b : (wz.heap.size) ≠ (wz.heap.size + 1) := (by have := lt_of_block n0a; have := lt_of_block n0b; omega))
         try (have d0a0b0 := fun (x y : Value) => cell_of_row _ _ 0 _ _ _ (zz_set (b := wz.heap.size) n0b u0a0b x y))
         try (have d0a0b1 := fun (x y : Value) => cell_of_row _ _ 1 _ _ _ (zz_set (b := wz.heap.size) n0b u0a0b x y))
         try (have d0a0bf := fun (x y : Value) (i : Nat) => frozen_of_row _ _ i _ _ (zz_set (b := wz.heap.size) n0b u0a0b x y))
         try (have m0b0 := cell_of_row _ _ 0 _ _ _ (n0b))
         try (have m0b1 := cell_of_row _ _ 1 _ _ _ (n0b))
         try (have m0bf := fun (i : Nat) => frozen_of_row _ _ i _ _ (n0b))
         try (have e0b0 := fun (o : Obj) => cell_of_row _ _ 0 _ _ _ (zu_stay n0b ((New.refl q0).alloc o)))
         try (have e0b1 := fun (o : Obj) => cell_of_row _ _ 1 _ _ _ (zu_stay n0b ((New.refl q0).alloc o)))
         try (have e0bf := fun (o : Obj) (i : Nat) => frozen_of_row _ _ i _ _ (zu_stay n0b ((New.refl q0).alloc o)))
         try (have h0b0 := fun (x y : Value) => cell_of_row _ _ 0 _ _ _ (zz_set (b := wz.heap.size + 1) (zu_new q0) (Nat.ne_of_lt (lt_of_block n0b)) x y))
         try (have h0b1 := fun (x y : Value) => cell_of_row _ _ 1 _ _ _ (zz_set (b := wz.heap.size + 1) (zu_new q0) (Nat.ne_of_lt (lt_of_block n0b)) x y))
         try (have h0bf := fun (x y : Value) (i : Nat) => frozen_of_row _ _ i _ _ (zz_set (b := wz.heap.size + 1) (zu_new q0) (Nat.ne_of_lt (lt_of_block n0b)) x y))
         try (have v0b := Nat.ne_of_lt (lt_of_block n0b))
         try (have w0b := (Nat.ne_of_lt (lt_of_block n0b)).symm)
         try (have u0b0a : (wz.heap.size + 1) ≠ (wz.heap.size) := (by have := lt_of_block n0b; have := lt_of_block n0a; omega))
         try (have d0b0a0 := fun (x y : Value) => cell_of_row _ _ 0 _ _ _ (zz_set (b := wz.heap.size + 1) n0a u0b0a x y))
         try (have d0b0a1 := fun (x y : Value) => cell_of_row _ _ 1 _ _ _ (zz_set (b := wz.heap.size + 1) n0a u0b0a x y))
         try (have d0b0af := fun (x y : Value) (i : Nat) => frozen_of_row _ _ i _ _ (zz_set (b := wz.heap.size + 1) n0a u0b0a x y))
         try (have gg0 := fun (o : Obj) => cell_of_row _ _ 0 _ _ _ (zu_stay (zu_new q0) ((New.refl (q0.alloc (.cells #[.int .u64 0, .int .u64 0] 24))).alloc o)))
         try (have gg1 := fun (o : Obj) => cell_of_row _ _ 1 _ _ _ (zu_stay (zu_new q0) ((New.refl (q0.alloc (.cells #[.int .u64 0, .int .u64 0] 24))).alloc o)))
         try (have ggf := fun (o : Obj) (i : Nat) => frozen_of_row _ _ i _ _ (zu_stay (zu_new q0) ((New.refl (q0.alloc (.cells #[.int .u64 0, .int .u64 0] 24))).alloc o)))
         try (have gh0 := fun (x y : Value) => cell_of_row _ _ 0 _ _ _ (zz_set (b := q0.heap.size) (zz_b q0) (by omega) x y))
         try (have gh1 := fun (x y : Value) => cell_of_row _ _ 1 _ _ _ (zz_set (b := q0.heap.size) (zz_b q0) (by omega) x y))
         try (have ghf := fun (x y : Value) (i : Nat) => frozen_of_row _ _ i _ _ (zz_set (b := q0.heap.size) (zz_b q0) (by omega) x y))
         clear hc0))
    all_goals (
      go_wp2_with fail
      go_meet
      case rel =>
        refine ⟨_, _, rfl, rfl, ?_, ?_, ?_⟩
        · first
          | with_reducible exact zf1a (by assumption) (by omega)
          | with_reducible exact zf1b (by assumption) (by omega)
          | with_reducible exact zf2a (by assumption)
          | with_reducible exact zf2b (b := _) (by assumption)
          | with_reducible exact zf3a (by assumption)
          | with_reducible exact zf3b
          | with_reducible exact zf4a
          | with_reducible exact zf4b
          | with_reducible exact zf5a (by assumption)
          | with_reducible exact zf5b (by assumption)
        · first
          | with_reducible exact zf1a (by assumption) (by omega)
          | with_reducible exact zf1b (by assumption) (by omega)
          | with_reducible exact zf2a (by assumption)
          | with_reducible exact zf2b (b := _) (by assumption)
          | with_reducible exact zf3a (by assumption)
          | with_reducible exact zf3b
          | with_reducible exact zf4a
          | with_reducible exact zf4b
          | with_reducible exact zf5a (by assumption)
          | with_reducible exact zf5b (by assumption)
        · repeat (first | with_reducible assumption | with_reducible exact New.refl _ | with_reducible refine New.drew ?_ | with_reducible refine New.alloc ?_ _ | (with_reducible refine New.setCell ?_ ?_ _; rotate_left; · (first | (simp; done) | (simp; omega) | omega))))
  case rest =>
    obtain ⟨b1, b2, rfl, rfl, hb1, hb2, hn⟩ := hcut
    have f0 := cell_of_row _ _ 0 _ _ _ hb1
    have f1 := cell_of_row _ _ 1 _ _ _ hb1
    have f2 := cell_of_row _ _ 0 _ _ _ hb2
    have f3 := cell_of_row _ _ 1 _ _ _ hb2
    have hg := (hn.block _ (lt_of_block HG.out)).trans HG.out
    have hr := (hn.block _ (lt_of_block HX.out)).trans HX.out
    have y0 := cell_of_row _ _ 0 _ _ _ hr
    have g0 := cell_of_row _ _ 0 _ _ _ hg
    have y1 := cell_of_row _ _ 1 _ _ _ hr
    have g1 := cell_of_row _ _ 1 _ _ _ hg
    have y2 := cell_of_row _ _ 2 _ _ _ hr
    have g2 := cell_of_row _ _ 2 _ _ _ hg
    have y3 := cell_of_row _ _ 3 _ _ _ hr
    have g3 := cell_of_row _ _ 3 _ _ _ hg
    have y4 := cell_of_row _ _ 4 _ _ _ hr
    have g4 := cell_of_row _ _ 4 _ _ _ hg
    have yf := fun i => frozen_of_row _ _ i _ _ hr
    have gf := fun i => frozen_of_row _ _ i _ _ hg
    replace HX := Lib.hid hr
    replace HN := Lib.hid (HN.out.trans hn)
    clear hb1 hb2 hn hg hr SK ce0 ce1 ce2 ce3 HG HSB
    go_wp2_with fail
    have hp := put5_facts (.int .i64 8) (.int .u64 (W64 (lo128 (s8 n)))) (.int .u64 (W64 (hi128 (s8 n)))) (.int .u64 (W64 (lo128 (i8 n)))) (.int .u64 (W64 (hi128 (i8 n)))) ((put4_keep hne (.int .u64 (W64 (lo128 (s8 n)))) (.int .u64 (W64 (hi128 (s8 n)))) (.int .u64 (W64 (lo128 (i8 n)))) (.int .u64 (W64 (hi128 (i8 n))))).trans HX.out)
    refine bodyPost_ret (by simp [results, Tryz.results11, go_sem, y0, y1, y2, y3, y4]; try rfl) rfl ?_
    exact ⟨rfl, hp.2.2.1 _ (put4_newk HN.out (by omega) _ _ _ _) (by omega)⟩
end Go.Proofs.YtoplabhoedloeaaGreat
