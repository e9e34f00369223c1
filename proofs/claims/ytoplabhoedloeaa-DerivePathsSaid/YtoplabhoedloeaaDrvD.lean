/- Layer 45: Child. -/
import Derived.Test.YtoplabhoedloeaaDrvB
import Derived.Deep.RegionHeldLaw
namespace Go.Proofs.Ytoplabhoedloeaa
open Go Go.RowKit Go.Bv Go.Drv
set_option linter.unusedVariables false
set_option maxRecDepth 100000
set_option maxHeartbeats 4000000 in
theorem child_no (k : BitVec 64 × BitVec 64) (l : List UInt8) (hs : l.length ≤ 140737488355327) (hne : labE l ≠ 0) (w : World) :
    Calls Try.prog 7 #[.agg #[.int .u64 (W64 k.1), .int .u64 (W64 k.2)], .string (bs l)] w fun e w' => e = .returned (.tuple #[.agg #[.int .u64 0, .int .u64 0], .int .i64 (labE l)]) ∧ New w w' := by
  have HZ := Lib.hid (two_blocks w (.cells #[.int .u64 (W64 k.1), .int .u64 (W64 k.2)] 24) (.cells #[.int .u64 0, .int .u64 0] 24))
  have HQ := Lib.hid (fun w => label_q l w)
  generalize labE l = y at *
  clear hs
  go_enter Try.func7, Try.ntmps7
  go_wp2_with fail
  refine (HQ.out _).mono ?_
  rintro e w2 ⟨rfl, rfl⟩
  have HO := Lib.hid HZ.out.2.1
  have HN := Lib.hid HZ.out.2.2
  obtain ⟨w0, hw0⟩ : ∃ z, ((w.alloc (.cells #[.int .u64 (W64 k.1), .int .u64 (W64 k.2)] 24)).alloc (.cells #[.int .u64 0, .int .u64 0] 24)) = z := ⟨_, rfl⟩
  rw [hw0] at HN HO
  rw [hw0]
  clear HZ hw0
  have z0 := cell_of_row _ _ 0 _ _ _ HO.out
  have z1 := cell_of_row _ _ 1 _ _ _ HO.out
  have zf := fun i => frozen_of_row _ _ i _ _ HO.out
  go_wp2
  refine bodyPost_ret (by simp [results, Try.results7, go_sem, z0, z1]; try rfl) rfl ?_
  exact ⟨rfl, ((HN.out.setCell (by show w.heap.size ≤ w.heap.size + 1; omega) _).setCell (by show w.heap.size ≤ w.heap.size + 1; omega) _)⟩
set_option maxHeartbeats 4000000 in
theorem child_yes (k : BitVec 64 × BitVec 64) (l : List UInt8) (hs : l.length ≤ 140737488355327) (h0 : labE l = 0) (w : World) :
    Calls Try.prog 7 #[.agg #[.int .u64 (W64 k.1), .int .u64 (W64 k.2)], .string (bs l)] w fun e w' => e = .returned (.tuple #[.agg #[.int .u64 (W64 (kid k l).1), .int .u64 (W64 (kid k l).2)], .int .i64 0]) ∧ New w w' := by
  have HZ := Lib.hid (two_blocks w (.cells #[.int .u64 (W64 k.1), .int .u64 (W64 k.2)] 24) (.cells #[.int .u64 0, .int .u64 0] 24))
  have HQ := Lib.hid (fun w => label_q l w)
  obtain ⟨i0, hi, hz0, hz1, hz2⟩ := info_parts info_u8
  have HK := Lib.hid (fun w a n c h => one_q k a n c (wds l ++ [108#8]) w h)
  have HL : Hid (l.length ≤ maxLen) := Lib.hid (by unfold maxLen; omega)
  unfold kid
  rw [h0] at HQ
  generalize kidB k (wds l ++ [108#8]) = r at *
  clear h0
  go_enter Try.func7, Try.ntmps7
  go_wp2_with fail
  refine (HQ.out _).mono ?_
  rintro e w2 ⟨rfl, rfl⟩
  clear HQ
  have HKY := Lib.hid HZ.out.1
  have HO := Lib.hid HZ.out.2.1
  have HN := Lib.hid HZ.out.2.2
  obtain ⟨w0, hw0⟩ : ∃ z, ((w.alloc (.cells #[.int .u64 (W64 k.1), .int .u64 (W64 k.2)] 24)).alloc (.cells #[.int .u64 0, .int .u64 0] 24)) = z := ⟨_, rfl⟩
  rw [hw0] at HN HO HKY
  rw [hw0]
  clear HZ hw0
  have SK : Hid (∀ w', New w0 w' → w'.cell? ⟨w.heap.size, 0, none⟩ = some (.int .u64 (W64 k.1)) ∧ w'.cell? ⟨w.heap.size, 1, none⟩ = some (.int .u64 (W64 k.2))) := Lib.hid (fun w' hn => by
    have h1 := (hn.block _ (lt_of_block HKY.out)).trans HKY.out
    exact ⟨cell_of_row _ _ 0 _ _ _ h1, cell_of_row _ _ 1 _ _ _ h1⟩)
  obtain ⟨C, F, hF⟩ := conv_fun (P := Try.prog) 9 46 5 l Try.underlying9 Try.underlying46 Try.underlying5 HL.out
  have hcv := fun w => (hF w).1
  have HCB := Lib.hid (fun w => (hF w).2.1)
  have HFN : Hid (∀ x, New w0 x → New w0 (F x)) := Lib.hid (fun x hx => hx.trans (hF x).2.2)
  have HFN1 : Hid (∀ x, New x (F x)) := Lib.hid (fun x => (hF x).2.2)
  clear hF HL
  obtain ⟨n, hn⟩ : ∃ n, l.length = n := ⟨_, rfl⟩
  rw [hn] at hcv HCB hs
  have hsz := fun w => (HFN1.out w).le
  clear hn
  generalize wds l = m at *
  go_wp2_with fail
  go_region_held_law (fun w' => w'.cell? ⟨w.heap.size, 0, none⟩ = some (.int .u64 (W64 k.1)) ∧ w'.cell? ⟨w.heap.size, 1, none⟩ = some (.int .u64 (W64 k.2)))
    ((first | with_reducible exact HST.out _ _ | (refine SK.out _ ?_; (repeat (first | with_reducible assumption | with_reducible exact New.refl _ | with_reducible refine New.drew ?_ | with_reducible refine New.alloc ?_ _ | with_reducible refine HFN.out _ ?_)))))
    (first
    | (refine step_app1 (by rfl) (.tmp 15) (.tmp 16) 46 5 (by rfl) i0 Try.underlying46 hi hz0 hz1 hz2 w0 _ n _ m (by rfl) hs _ 1 (108#8) (by rfl) ?_ ?_ ?_ ?_ ?_
       · first
           | (refine CB.stay (HCB.out w0.drew) ?_; (repeat (first | with_reducible assumption | with_reducible exact New.refl _ | with_reducible refine New.drew ?_ | with_reducible refine New.alloc ?_ _ | with_reducible refine HFN.out _ ?_ | with_reducible refine New.trans ?_ (HFN1.out _))); done)
           | exact CB.size_eq (HCB.out (w0.alloc (.cells #[.int .u8 108] 5)).drew) (drew_size _ _)
       · first
           | ((repeat (first | with_reducible assumption | with_reducible exact New.refl _ | with_reducible refine New.drew ?_ | with_reducible refine New.alloc ?_ _ | with_reducible refine HFN.out _ ?_ | with_reducible refine New.trans ?_ (HFN1.out _))); done)
       · first | with_reducible exact Nat.le_refl _ | with_reducible exact Nat.le_succ _ | omega
       · first | (rw [show W8 108#8 = 108 from rfl]; with_reducible exact lit_now _ _ _) | (rw [show W8 108#8 = 108 from rfl]; with_reducible exact lit_kept (HFN1.out _)) | with_reducible exact lit_kept (HFN1.out _) | (rw [show W8 108#8 = 108 from rfl]; exact lit_kept (New.trans (New.drew (New.refl _)) (HFN1.out _)))
       intro a' cap' w5 hrow hn5)
    | (go_at_call_of 19 (Value.int IntKind.i64 8)
       refine (HK.out _ _ _ _ hrow).mono ?_
       rintro e w6 ⟨rfl, hn6⟩
       have hn7 := hn5.trans hn6
       have ho6 := (hn7.block _ (lt_of_block HO.out)).trans HO.out
       have z0 := cell_of_row _ _ 0 _ _ _ ho6
       have z1 := cell_of_row _ _ 1 _ _ _ ho6
       have zf := fun i => frozen_of_row _ _ i _ _ ho6
       have HN7 := Lib.hid (HN.out.trans hn7)
       have HST : Hid (∀ u v, ((w6.setCell ⟨w.heap.size + 1, 0, none⟩ u).setCell ⟨w.heap.size + 1, 1, none⟩ v).cell? ⟨w.heap.size, 0, none⟩ = some (.int .u64 (W64 k.1)) ∧ ((w6.setCell ⟨w.heap.size + 1, 0, none⟩ u).setCell ⟨w.heap.size + 1, 1, none⟩ v).cell? ⟨w.heap.size, 1, none⟩ = some (.int .u64 (W64 k.2))) := Lib.hid (fun u v => by
         have h1 := (hn7.block _ (lt_of_block HKY.out)).trans HKY.out
         have h2 := (heap_setCell_other (w6.setCell ⟨w.heap.size + 1, 0, none⟩ u) ⟨w.heap.size + 1, 1, none⟩ w.heap.size v (by show w.heap.size ≠ w.heap.size + 1; omega)).trans ((heap_setCell_other w6 ⟨w.heap.size + 1, 0, none⟩ w.heap.size u (by show w.heap.size ≠ w.heap.size + 1; omega)).trans h1)
         exact ⟨cell_of_row _ _ 0 _ _ _ h2, cell_of_row _ _ 1 _ _ _ h2⟩)
       clear ho6 hn6 hn5 hrow))
  all_goals (
    go_wp2
    refine bodyPost_ret (by simp [results, Try.results7, go_sem, z0, z1]; try rfl) rfl ?_
    exact ⟨rfl, ((HN7.out.setCell (by show w.heap.size ≤ w.heap.size + 1; omega) _).setCell (by show w.heap.size ≤ w.heap.size + 1; omega) _)⟩)
end Go.Proofs.Ytoplabhoedloeaa
