import Derived.Test.YtoplabhoedloeaaGreatZB34A
import Derived.Deep.RegionHeldLaw
import Derived.Test.YtoplabhoedloeaaGreatZDrvP
section
/- Layer 45: Child. -/
namespace Go.Proofs.YtoplabhoedloeaaGreat
open Go Go.RowKit Go.Bv Go.Drv
set_option linter.unusedVariables false
set_option maxRecDepth 100000
set_option maxHeartbeats 4000000 in
theorem child_no (k : BitVec 64 × BitVec 64) (l : List UInt8) (hs : l.length ≤ 140737488355327) (hne : labE l ≠ 0) (w : World) :
    Calls Tryz.prog 13 #[.agg #[.int .u64 (W64 k.1), .int .u64 (W64 k.2)], .string (bs l)] w fun e w' => e = .returned (.tuple #[.agg #[.int .u64 0, .int .u64 0], .int .i64 (labE l)]) ∧ New w w' := by
  have HZ := Lib.hid (two_blocksD w (.cells #[.int .u64 (W64 k.1), .int .u64 (W64 k.2)] 24) (.cells #[.int .u64 0, .int .u64 0] 24))
  have HQ := Lib.hid (fun w => label_q l w)
  generalize labE l = y at *
  clear hs
  go_enter Tryz.func13, Tryz.ntmps13
  go_wp2_with fail
  refine (HQ.out _).mono ?_
  rintro e w2 ⟨rfl, rfl⟩
  have HO := Lib.hid HZ.out.2.1
  have HN := Lib.hid HZ.out.2.2
  obtain ⟨w0, hw0⟩ : ∃ z, ((w.alloc (.cells #[.int .u64 (W64 k.1), .int .u64 (W64 k.2)] 24)).alloc (.cells #[.int .u64 0, .int .u64 0] 24)) = z := ⟨_, rfl⟩
  rw [hw0] at HN HO
  rw [hw0]
  clear HZ hw0
  have z0 := cell_of_row _ _ 0 _ _ _ HO.out
  have z1 := cell_of_row _ _ 1 _ _ _ HO.out
  have zf := fun i => frozen_of_row _ _ i _ _ HO.out
  go_wp2
  refine bodyPost_ret (by simp [results, Tryz.results13, go_sem, z0, z1]; try rfl) rfl ?_
  exact ⟨rfl, ((HN.out.setCell (by show w.heap.size ≤ w.heap.size + 1; omega) _).setCell (by show w.heap.size ≤ w.heap.size + 1; omega) _)⟩
set_option maxHeartbeats 4000000 in
theorem child_yes (k : BitVec 64 × BitVec 64) (l : List UInt8) (hs : l.length ≤ 140737488355327) (h0 : labE l = 0) (w : World) :
    Calls Tryz.prog 13 #[.agg #[.int .u64 (W64 k.1), .int .u64 (W64 k.2)], .string (bs l)] w fun e w' => e = .returned (.tuple #[.agg #[.int .u64 (W64 (kid k l).1), .int .u64 (W64 (kid k l).2)], .int .i64 0]) ∧ New w w' := by
  have HZ := Lib.hid (two_blocksD w (.cells #[.int .u64 (W64 k.1), .int .u64 (W64 k.2)] 24) (.cells #[.int .u64 0, .int .u64 0] 24))
  have HQ := Lib.hid (fun w => label_q l w)
  obtain ⟨i0, hi, hz0, hz1, hz2⟩ := info_parts info_u8
  have HK := Lib.hid (fun w a n c h => one_q k a n c (wds l ++ [108#8]) w h)
  have HL : Hid (l.length ≤ maxLen) := Lib.hid (by unfold maxLen; omega)
  unfold kid
  rw [h0] at HQ
  generalize kidB k (wds l ++ [108#8]) = r at *
  clear h0
  go_enter Tryz.func13, Tryz.ntmps13
  go_wp2_with fail
  refine (HQ.out _).mono ?_
  rintro e w2 ⟨rfl, rfl⟩
  clear HQ
  have HKY := Lib.hid HZ.out.1
  have HO := Lib.hid HZ.out.2.1
  have HN := Lib.hid HZ.out.2.2
  obtain ⟨w0, hw0⟩ : ∃ z, ((w.alloc (.cells #[.int .u64 (W64 k.1), .int .u64 (W64 k.2)] 24)).alloc (.cells #[.int .u64 0, .int .u64 0] 24)) = z := ⟨_, rfl⟩
  rw [hw0] at HN HO HKY
  rw [hw0]
  clear HZ hw0
  have SK : Hid (∀ w', New w0 w' → w'.cell? ⟨w.heap.size, 0, none⟩ = some (.int .u64 (W64 k.1)) ∧ w'.cell? ⟨w.heap.size, 1, none⟩ = some (.int .u64 (W64 k.2))) := Lib.hid (fun w' hn => by
    have h1 := (hn.block _ (lt_of_block HKY.out)).trans HKY.out
    exact ⟨cell_of_row _ _ 0 _ _ _ h1, cell_of_row _ _ 1 _ _ _ h1⟩)
  obtain ⟨C, F, hF⟩ := conv_fun (P := Tryz.prog) 9 65 5 l Tryz.underlying9 Tryz.underlying65 Tryz.underlying5 HL.out
  have hcv := fun w => (hF w).1
  have HCB := Lib.hid (fun w => (hF w).2.1)
  have HFN : Hid (∀ x, New w0 x → New w0 (F x)) := Lib.hid (fun x hx => hx.trans (hF x).2.2)
  have HFN1 : Hid (∀ x, New x (F x)) := Lib.hid (fun x => (hF x).2.2)
  clear hF HL
  obtain ⟨n, hn⟩ : ∃ n, l.length = n := ⟨_, rfl⟩
  rw [hn] at hcv HCB hs
  have hsz := fun w => (HFN1.out w).le
  clear hn
  generalize wds l = m at *
  go_wp2_with fail
  go_region_held_law (fun w' => w'.cell? ⟨w.heap.size, 0, none⟩ = some (.int .u64 (W64 k.1)) ∧ w'.cell? ⟨w.heap.size, 1, none⟩ = some (.int .u64 (W64 k.2)))
    ((first | with_reducible exact HST.out _ _ | (refine SK.out _ ?_; (repeat (first | with_reducible assumption | with_reducible exact New.refl _ | with_reducible refine New.drew ?_ | with_reducible refine New.alloc ?_ _ | with_reducible refine HFN.out _ ?_)))))
    (first
    | (refine step_app1 (by rfl) (.tmp 15) (.tmp 16) 65 5 (by rfl) i0 Tryz.underlying65 hi hz0 hz1 hz2 w0 _ n _ m (by rfl) hs _ 1 (108#8) (by rfl) ?_ ?_ ?_ ?_ ?_
       · first
           | (refine CB.stay (HCB.out w0.drew) ?_; (repeat (first | with_reducible assumption | with_reducible exact New.refl _ | with_reducible refine New.drew ?_ | with_reducible refine New.alloc ?_ _ | with_reducible refine HFN.out _ ?_ | with_reducible refine New.trans ?_ (HFN1.out _))); done)
           | exact CB.size_eq (HCB.out (w0.alloc (.cells #[.int .u8 108] 5)).drew) (drew_size _ _)
       · first
           | ((repeat (first | with_reducible assumption | with_reducible exact New.refl _ | with_reducible refine New.drew ?_ | with_reducible refine New.alloc ?_ _ | with_reducible refine HFN.out _ ?_ | with_reducible refine New.trans ?_ (HFN1.out _))); done)
       · first | with_reducible exact Nat.le_refl _ | with_reducible exact Nat.le_succ _ | omega
       · first | (rw [show W8 108#8 = 108 from rfl]; with_reducible exact lit_now _ _ _) | (rw [show W8 108#8 = 108 from rfl]; with_reducible exact lit_kept (HFN1.out _)) | with_reducible exact lit_kept (HFN1.out _) | (rw [show W8 108#8 = 108 from rfl]; exact lit_kept (New.trans (New.drew (New.refl _)) (HFN1.out _)))
       intro a' cap' w5 hrow hn5)
    | (go_at_call_of 21 (Value.int IntKind.i64 8)
       refine (HK.out _ _ _ _ hrow).mono ?_
       rintro e w6 ⟨rfl, hn6⟩
       have hn7 := hn5.trans hn6
       have ho6 := (hn7.block _ (lt_of_block HO.out)).trans HO.out
       have z0 := cell_of_row _ _ 0 _ _ _ ho6
       have z1 := cell_of_row _ _ 1 _ _ _ ho6
       have zf := fun i => frozen_of_row _ _ i _ _ ho6
       have HN7 := Lib.hid (HN.out.trans hn7)
       have HST : Hid (∀ u v, ((w6.setCell ⟨w.heap.size + 1, 0, none⟩ u).setCell ⟨w.heap.size + 1, 1, none⟩ v).cell? ⟨w.heap.size, 0, none⟩ = some (.int .u64 (W64 k.1)) ∧ ((w6.setCell ⟨w.heap.size + 1, 0, none⟩ u).setCell ⟨w.heap.size + 1, 1, none⟩ v).cell? ⟨w.heap.size, 1, none⟩ = some (.int .u64 (W64 k.2))) := Lib.hid (fun u v => by
         have h1 := (hn7.block _ (lt_of_block HKY.out)).trans HKY.out
         have h2 := (heap_setCell_other (w6.setCell ⟨w.heap.size + 1, 0, none⟩ u) ⟨w.heap.size + 1, 1, none⟩ w.heap.size v (by show w.heap.size ≠ w.heap.size + 1; omega)).trans ((heap_setCell_other w6 ⟨w.heap.size + 1, 0, none⟩ w.heap.size u (by show w.heap.size ≠ w.heap.size + 1; omega)).trans h1)
         exact ⟨cell_of_row _ _ 0 _ _ _ h2, cell_of_row _ _ 1 _ _ _ h2⟩)
       clear ho6 hn6 hn5 hrow))
  all_goals (
    go_wp2
    refine bodyPost_ret (by simp [results, Tryz.results13, go_sem, z0, z1]; try rfl) rfl ?_
    exact ⟨rfl, ((HN7.out.setCell (by show w.heap.size ≤ w.heap.size + 1; omega) _).setCell (by show w.heap.size ≤ w.heap.size + 1; omega) _)⟩)
end Go.Proofs.YtoplabhoedloeaaGreat
end
section
/- Layer 45: Path. -/
namespace Go.Drv
open Go Go.RowKit Go.Bv
set_option linter.unusedVariables false
theorem lab_len {x : List UInt8} (h : labE x = 0) : x.length ≤ 140737488355327 := by
  unfold labE at h
  by_cases h1 : x.length = 0
  · omega
  · rw [if_neg h1] at h
    by_cases h2 : 64 < x.length
    · rw [if_pos h2] at h; cases h
    · omega
theorem fst_all : ∀ ps : List (List UInt8), fstE ps = 0 → ∀ x ∈ ps, labE x = 0
  | [], _, x, hx => by cases hx
  | y :: t, h, x, hx => by
    have h : (if labE y = 0 then fstE t else labE y) = 0 := h
    by_cases e : labE y = 0
    · rw [if_pos e] at h
      rcases List.mem_cons.1 hx with rfl | hx
      · exact e
      · exact fst_all t h x hx
    · rw [if_neg e] at h; exact absurd h e
theorem good_of {l : List UInt8} (h : ptE (pts l) = 0) : ∀ x ∈ pts l, labE x = 0 := by
  refine fst_all _ ?_
  unfold ptE at h
  by_cases e : fstE (pts l) = 0
  · exact e
  · rw [if_pos e] at h; exact absurd h e
/-- a row of texts -/
def SCellB (B : Nat) (w : World) (a : Option Addr) (ps : List (List UInt8)) : Prop := 0 < ps.length → ∃ g, a = some ⟨g, 0, none⟩ ∧ B ≤ g ∧ ∀ j, j < ps.length → w.cell? ⟨g, j, none⟩ = some (.string (bs (ps.getD j [])))
theorem srow_of {w : World} {base : Nat} {t : TypeId} {v : Value} {ps : List (List UInt8)} (h : w.ownsRow base t 1 v ps.length (ps.map fun x => Value.string (bs x))) :
    ∃ a c, v = .slice a ps.length c ∧ ps.length ≤ c ∧ SCellB base w a ps := by
  have hown := h
  obtain ⟨hl, h⟩ := h
  rcases h with ⟨rfl, h0⟩ | ⟨g, cap, cur, rfl, hb', hc, hle, h2⟩
  · exact ⟨none, 0, by rw [h0], by omega, fun hp => by omega⟩
  · refine ⟨_, cap, rfl, hle, fun _ => ⟨g, rfl, hb', fun j hj => ?_⟩⟩
    have := hown.cellAt j (by omega)
    rw [this, List.getElem?_map, List.getElem?_eq_getElem hj, List.getD_eq_getElem?_getD, List.getElem?_eq_getElem hj]
    rfl
end Go.Drv
namespace Go.Proofs.YtoplabhoedloeaaGreat
open Go Go.RowKit Go.Bv Go.Drv
set_option linter.unusedVariables false
set_option maxRecDepth 100000
def kidL (k : BitVec 64 × BitVec 64) (ps : List (List UInt8)) : BitVec 64 × BitVec 64 := ps.foldl kid k
theorem kidL_succ (k : BitVec 64 × BitVec 64) (ps : List (List UInt8)) (q : Nat) (h : q < ps.length) : kidL k (ps.take (q + 1)) = kid (kidL k (ps.take q)) (ps.getD q []) := by
  unfold kidL
  rw [List.take_add_one, List.foldl_append, List.getD_eq_getElem?_getD, List.getElem?_eq_getElem h]
  rfl
/-- the world of Path's loop -/
structure LP (w : World) (a : Option Addr) (k : BitVec 64 × BitVec 64) (ps : List (List UInt8)) (q : Nat) (T : TypeId) (wr : World) : Prop where
  key : wr.heap[w.heap.size]? = some (.cells #[.int .u64 (W64 (kidL k (ps.take q)).1), .int .u64 (W64 (kidL k (ps.take q)).2)] T (0, 0))
  out : wr.heap[w.heap.size + 1]? = some (.cells #[.int .u64 0, .int .u64 0] T (0, 0))
  row : SCellB (w.heap.size + 2) wr a ps
  new : New w wr
theorem LP.step {w : World} {a : Option Addr} {k : BitVec 64 × BitVec 64} {ps : List (List UInt8)} {q : Nat} {T : TypeId} {wr w5 : World} (h : LP w a k ps q T wr) (hn : New wr w5) :
    LP w a k ps (q + 1) T ((w5.setCell ⟨w.heap.size, 0, none⟩ (.int .u64 (W64 (kidL k (ps.take (q + 1))).1))).setCell ⟨w.heap.size, 1, none⟩ (.int .u64 (W64 (kidL k (ps.take (q + 1))).2))) := by
  have h1 := (hn.block _ (lt_of_block h.key)).trans h.key
  have h2 := (hn.block _ (lt_of_block h.out)).trans h.out
  have b1 := heap_setCell_same w5 w.heap.size 0 _ _ (.int .u64 (W64 (kidL k (ps.take (q + 1))).1)) h1
  have b2 := heap_setCell_same _ w.heap.size 1 _ _ (.int .u64 (W64 (kidL k (ps.take (q + 1))).2)) b1
  refine ⟨b2, ?_, ?_, ((h.new.trans hn).setCell (Nat.le_refl _) _).setCell (Nat.le_refl _) _⟩
  · rw [heap_setCell_other _ _ _ _ (by show w.heap.size + 1 ≠ w.heap.size; omega), heap_setCell_other _ _ _ _ (by show w.heap.size + 1 ≠ w.heap.size; omega)]
    exact h2
  · intro hp
    obtain ⟨g, e, hg, hc⟩ := h.row hp
    refine ⟨g, e, hg, fun j hj => ?_⟩
    have hcj := hc j hj
    have h3 := (hn.cell (a := ⟨g, j, none⟩) (World.block_lt_of_cell? _ _ hcj)).trans hcj
    rw [← h3]
    refine World.cell?_of_block (a := ⟨g, j, none⟩) ?_
    exact (heap_setCell_other _ ⟨w.heap.size, 1, none⟩ g _ (by show g ≠ w.heap.size; omega)).trans (heap_setCell_other _ ⟨w.heap.size, 0, none⟩ g _ (by show g ≠ w.heap.size; omega))
set_option maxHeartbeats 4000000 in
theorem path_no (k : BitVec 64 × BitVec 64) (l : List UInt8) (hlim : l.length ≤ 1000000) (hne : ptE (pts l) ≠ 0) (w : World) (hx : MaxL w) :
    Calls Tryz.prog 9 #[.agg #[.int .u64 (W64 k.1), .int .u64 (W64 k.2)], .string (bs l)] w fun e w' => e = .returned (.tuple #[.agg #[.int .u64 0, .int .u64 0], .int .i64 (ptE (pts l))]) ∧ New w w' := by
  have HZ := Lib.hid (two_blocksD w (.cells #[.int .u64 (W64 k.1), .int .u64 (W64 k.2)] 24) (.cells #[.int .u64 0, .int .u64 0] 24))
  have HQ := Lib.hid (parts_q l hlim _ (hx.stay HZ.out.2.2))
  have HD := Lib.hid (show (ptE (pts l) != 0) = true by rw [bne_iff_ne]; exact hne)
  have HNE := Lib.hid hne
  clear hne hx
  go_enter Tryz.func9, Tryz.ntmps9
  go_wp2_with fail
  refine HQ.out.mono ?_
  rintro e w2 ⟨hor, hn⟩
  rcases hor with ⟨_, rfl⟩ | ⟨h0, _⟩
  · have ho := (hn.block _ (lt_of_block HZ.out.2.1)).trans HZ.out.2.1
    have HN := Lib.hid (HZ.out.2.2.trans hn)
    have z0 := cell_of_row _ _ 0 _ _ _ ho
    have z1 := cell_of_row _ _ 1 _ _ _ ho
    have zf := fun i => frozen_of_row _ _ i _ _ ho
    have hd := HD.out
    clear HZ hn ho HQ HD HNE
    go_wp2
    refine bodyPost_ret (by simp [results, Tryz.results9, go_sem, z0, z1]; try rfl) rfl ?_
    exact ⟨rfl, ((HN.out.setCell (by show w.heap.size ≤ w.heap.size + 1; omega) _).setCell (by show w.heap.size ≤ w.heap.size + 1; omega) _)⟩
  · exact absurd h0 HNE.out
set_option maxHeartbeats 4000000 in
theorem path_yes (k : BitVec 64 × BitVec 64) (l : List UInt8) (hlim : l.length ≤ 1000000) (h0 : ptE (pts l) = 0) (w : World) (hx : MaxL w) :
    Calls Tryz.prog 9 #[.agg #[.int .u64 (W64 k.1), .int .u64 (W64 k.2)], .string (bs l)] w fun e w' => e = .returned (.tuple #[.agg #[.int .u64 (W64 (kidL k (pts l)).1), .int .u64 (W64 (kidL k (pts l)).2)], .int .i64 0]) ∧ New w w' := by
  have HZ := Lib.hid (two_blocksD w (.cells #[.int .u64 (W64 k.1), .int .u64 (W64 k.2)] 24) (.cells #[.int .u64 0, .int .u64 0] 24))
  have HQ := Lib.hid (parts_q l hlim _ (hx.stay HZ.out.2.2))
  have HGD := Lib.hid (good_of h0)
  have HH0 := Lib.hid h0
  clear h0 hx
  go_enter Tryz.func9, Tryz.ntmps9
  go_wp2_with fail
  refine HQ.out.mono ?_
  rintro e w2 ⟨hor, hn⟩
  rcases hor with ⟨h1, _⟩ | ⟨_, v, rfl, hown⟩
  · exact absurd HH0.out h1
  · obtain ⟨a, c, rfl, hnc, hrow⟩ := srow_of (own_low (base' := w.heap.size + 2) hown (by simp))
    have hky := (hn.block _ (lt_of_block HZ.out.1)).trans HZ.out.1
    have ho := (hn.block _ (lt_of_block HZ.out.2.1)).trans HZ.out.2.1
    have hsz := lt_of_block ho
    have HLP : Hid (LP w a k (pts l) 0 24 w2) := Lib.hid ⟨hky, ho, hrow, HZ.out.2.2.trans hn⟩
    clear hown hky ho hn HZ HQ hrow
    have hpl := pts_len l
    obtain ⟨ps, hps⟩ : ∃ z, pts l = z := ⟨_, rfl⟩
    rw [hps] at hpl hnc HLP HGD
    rw [hps]
    have HPS := Lib.hid hps
    clear HH0
    obtain ⟨n, hnl⟩ : ∃ n, ps.length = n := ⟨_, rfl⟩
    rw [hnl] at hnc hpl
    have HNL := Lib.hid hnl
    have hncI : (n : Int) ≤ (c : Int) := by omega
    simp only [hnl]
    clear hnl hnc hps
    go_wp2_with fail
    go_loopw [21] (fun iv wr => ∃ q : Nat, q ≤ n ∧ iv = .int .i64 (q : Int) ∧ Hid (LP w a k ps q 24 wr)) (fun iv _ => n - (intOf iv).toNat)
    case atStart => exact ⟨0, Nat.zero_le _, rfl, HLP⟩
    case round =>
      obtain ⟨q, hq, rfl, HL⟩ := hrel
      by_cases hlt : (q : Int) < (n : Int)
      · have hqn : q < n := by omega
        have hq0 : (0 : Int) ≤ (q : Int) := by omega
        obtain ⟨g, rfl, _, hcell⟩ := HL.out.row (by rw [HNL.out]; omega)
        have hc := hcell q (by rw [HNL.out]; exact hqn)
        obtain ⟨x, hxe⟩ : ∃ x, ps.getD q [] = x := ⟨_, rfl⟩
        rw [hxe] at hc
        have HX := Lib.hid hxe
        have hgx := HGD.out x (by rw [← hxe, List.getD_eq_getElem?_getD, List.getElem?_eq_getElem (by rw [HNL.out]; exact hqn)]; exact List.getElem_mem _)
        have k0 := cell_of_row _ _ 0 _ _ _ HL.out.key
        have k1 := cell_of_row _ _ 1 _ _ _ HL.out.key
        have kf := fun i => frozen_of_row _ _ i _ _ HL.out.key
        have HC := Lib.hid (child_yes (kidL k (ps.take q)) x (lab_len hgx) hgx wr)
        have HT : Hid (kid (kidL k (ps.take q)) x = kidL k (ps.take (q + 1))) := Lib.hid (by rw [← hxe]; exact (kidL_succ k ps q (by rw [HNL.out]; exact hqn)).symm)
        rw [HT.out] at HC
        clear hcell hxe hgx HT
        generalize kidL k (ps.take q) = kq at *
        go_wp2_with fail
        refine HC.out.mono ?_
        rintro e w5 ⟨rfl, hn5⟩
        have HF := Lib.hid (HL.out.step hn5)
        have hkk := (hn5.block _ (lt_of_block HL.out.key)).trans HL.out.key
        have kg := fun i => frozen_of_row _ _ i _ _ hkk
        have kc0 := cell_of_row _ _ 0 _ _ _ hkk
        have kc1 := cell_of_row _ _ 1 _ _ _ hkk
        clear hn5 hkk k0 k1 kf hc
        go_wp2_with fail
        exact ⟨⟨q + 1, by omega, by go_num, HF⟩, by simp [intOf]; omega⟩
      · obtain rfl : q = n := by omega
        have k0 := cell_of_row _ _ 0 _ _ _ HL.out.key
        have k1 := cell_of_row _ _ 1 _ _ _ HL.out.key
        have z0 := cell_of_row _ _ 0 _ _ _ HL.out.out
        have z1 := cell_of_row _ _ 1 _ _ _ HL.out.out
        have zf := fun i => frozen_of_row _ _ i _ _ HL.out.out
        have hnw := HL.out.new
        rw [List.take_of_length_le (Nat.le_of_eq HNL.out)] at k0 k1
        go_wp2_with fail
        refine bodyPost_ret (by simp [results, Tryz.results9, go_sem, z0, z1]; try rfl) rfl ?_
        rw [HPS.out]
        exact ⟨rfl, ((hnw.setCell (by show w.heap.size ≤ w.heap.size + 1; omega) _).setCell (by show w.heap.size ≤ w.heap.size + 1; omega) _)⟩
end Go.Proofs.YtoplabhoedloeaaGreat
end
section
/- Layer 45: the laws' wakefulness. -/
namespace Go.Proofs.YtoplabhoedloeaaGreat
open Go Go.RowKit Go.Bv Go.Drv
set_option linter.unusedVariables false
set_option maxRecDepth 100000
theorem kid_a : kidL (1#64, 2#64) (pts [97]) = (9624342580668418083#64, 972729733768659611#64) := by decide +kernel
theorem path_empty (w : World) (hx : MaxL w) : Calls Tryz.prog 9 #[.agg #[.int .u64 1, .int .u64 2], .string ⟨#[]⟩] w fun e w' => e = .returned (.tuple #[.agg #[.int .u64 1, .int .u64 2], .int .i64 0]) ∧ New w w' :=
  path_yes (1#64, 2#64) [] (by decide) (by decide +kernel) w hx
theorem path_a (w : World) (hx : MaxL w) : Calls Tryz.prog 9 #[.agg #[.int .u64 1, .int .u64 2], .string ⟨#[97]⟩] w fun e w' => e = .returned (.tuple #[.agg #[.int .u64 9624342580668418083, .int .u64 972729733768659611], .int .i64 0]) ∧ New w w' := by
  have h := path_yes (1#64, 2#64) [97] (by decide) (by decide +kernel) w hx
  rw [kid_a] at h
  exact h
set_option maxHeartbeats 2000000 in
theorem awake_q (w : World) (hx : MaxL w) : Calls Tryz.prog 4 #[] w fun e w' => e = .returned (.bool true) ∧ New w w' := by
  have HX := Lib.hid hx
  have HP0 := Lib.hid (fun (w' : World) (hn : New w w') => path_empty w' (hx.stay hn))
  have HP1 := Lib.hid (fun (w' : World) (hn : New w w') => path_a w' (hx.stay hn))
  clear hx
  go_enter Tryz.func4, Tryz.ntmps4
  go_wp2_with fail
  have hb1 := heap_alloc_new w (.cells #[.int .u64 1, .int .u64 2] 24)
  have hn1 := (New.refl w).alloc (.cells #[.int .u64 1, .int .u64 2] 24)
  obtain ⟨b1, hb1e⟩ : ∃ b, w.heap.size = b := ⟨_, rfl⟩
  rw [hb1e] at hb1
  rw [hb1e]
  generalize w.alloc (.cells #[.int .u64 1, .int .u64 2] 24) = w1 at *
  have k0 := cell_of_row _ _ 0 _ _ _ hb1
  have k1 := cell_of_row _ _ 1 _ _ _ hb1
  go_wp2_with fail
  refine (HP0.out _ hn1).mono ?_
  rintro e w2 ⟨rfl, hn2⟩
  have hb2 := (hn2.block _ (lt_of_block hb1)).trans hb1
  have hn3 := hn1.trans hn2
  clear hb1 hn1 hn2 k0 k1
  have hc1 := heap_alloc_new w2 (.cells #[.int .u64 1, .int .u64 2] 24)
  have hm1 := (New.refl w2).alloc (.cells #[.int .u64 1, .int .u64 2] 24)
  have hc0 := (hm1.block _ (lt_of_block hb2)).trans hb2
  have hm2 := hn3.trans hm1
  have m0 := cell_of_row _ _ 0 _ _ _ hc0
  have m1 := cell_of_row _ _ 1 _ _ _ hc0
  clear hm1 hb2 hn3
  go_wp2_with fail
  obtain ⟨b2, hb2e⟩ : ∃ b, w2.heap.size = b := ⟨_, rfl⟩
  rw [hb2e] at hc1
  rw [hb2e]
  generalize w2.alloc (.cells #[.int .u64 1, .int .u64 2] 24) = w3 at *
  refine (HP1.out _ hm2).mono ?_
  rintro e w4 ⟨rfl, hn4⟩
  have hd0 := (hn4.block _ (lt_of_block hc0)).trans hc0
  have hd1 := (hn4.block _ (lt_of_block hc1)).trans hc1
  have hm4 := hm2.trans hn4
  clear hc0 hc1 hm2 hn4 m0 m1
  have he2 := heap_alloc_new w4 (.cells #[.int .u64 9624342580668418083, .int .u64 972729733768659611] 24)
  have hn5 := (New.refl w4).alloc (.cells #[.int .u64 9624342580668418083, .int .u64 972729733768659611] 24)
  have he0 := (hn5.block _ (lt_of_block hd0)).trans hd0
  have he1 := (hn5.block _ (lt_of_block hd1)).trans hd1
  have hm5 := hm4.trans hn5
  have q0 := cell_of_row _ _ 0 _ _ _ he0
  have q1 := cell_of_row _ _ 1 _ _ _ he0
  have q2 := cell_of_row _ _ 0 _ _ _ he1
  have q3 := cell_of_row _ _ 1 _ _ _ he1
  have q4 := cell_of_row _ _ 0 _ _ _ he2
  have q5 := cell_of_row _ _ 1 _ _ _ he2
  clear hd0 hd1 hm4 hn5 he0 he1 he2
  go_wp2
  go_ret
  exact ⟨rfl, hm5⟩
end Go.Proofs.YtoplabhoedloeaaGreat
end
