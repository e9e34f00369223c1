/- Layer 45: Path. -/
import Derived.Test.YtoplabhoedloeaaDrvP
import Derived.Test.YtoplabhoedloeaaDrvD
namespace Go.Drv
open Go Go.RowKit Go.Bv
set_option linter.unusedVariables false
theorem lab_len {x : List UInt8} (h : labE x = 0) : x.length ≤ 140737488355327 := by
  unfold labE at h
  by_cases h1 : x.length = 0
  · omega
  · rw [if_neg h1] at h
    by_cases h2 : 64 < x.length
    · rw [if_pos h2] at h; cases h
    · omega
theorem fst_all : ∀ ps : List (List UInt8), fstE ps = 0 → ∀ x ∈ ps, labE x = 0
  | [], _, x, hx => by cases hx
  | y :: t, h, x, hx => by
    have h : (if labE y = 0 then fstE t else labE y) = 0 := h
    by_cases e : labE y = 0
    · rw [if_pos e] at h
      rcases List.mem_cons.1 hx with rfl | hx
      · exact e
      · exact fst_all t h x hx
    · rw [if_neg e] at h; exact absurd h e
theorem good_of {l : List UInt8} (h : ptE (pts l) = 0) : ∀ x ∈ pts l, labE x = 0 := by
  refine fst_all _ ?_
  unfold ptE at h
  by_cases e : fstE (pts l) = 0
  · exact e
  · rw [if_pos e] at h; exact absurd h e
/-- a row of texts -/
def SCellB (B : Nat) (w : World) (a : Option Addr) (ps : List (List UInt8)) : Prop := 0 < ps.length → ∃ g, a = some ⟨g, 0, none⟩ ∧ B ≤ g ∧ ∀ j, j < ps.length → w.cell? ⟨g, j, none⟩ = some (.string (bs (ps.getD j [])))
theorem srow_of {w : World} {base : Nat} {t : TypeId} {v : Value} {ps : List (List UInt8)} (h : w.ownsRow base t 1 v ps.length (ps.map fun x => Value.string (bs x))) :
    ∃ a c, v = .slice a ps.length c ∧ ps.length ≤ c ∧ SCellB base w a ps := by
  have hown := h
  obtain ⟨hl, h⟩ := h
  rcases h with ⟨rfl, h0⟩ | ⟨g, cap, cur, rfl, hb', hc, hle, h2⟩
  · exact ⟨none, 0, by rw [h0], by omega, fun hp => by omega⟩
  · refine ⟨_, cap, rfl, hle, fun _ => ⟨g, rfl, hb', fun j hj => ?_⟩⟩
    have := hown.cellAt j (by omega)
    rw [this, List.getElem?_map, List.getElem?_eq_getElem hj, List.getD_eq_getElem?_getD, List.getElem?_eq_getElem hj]
    rfl
end Go.Drv
namespace Go.Proofs.Ytoplabhoedloeaa
open Go Go.RowKit Go.Bv Go.Drv
set_option linter.unusedVariables false
set_option maxRecDepth 100000
def kidL (k : BitVec 64 × BitVec 64) (ps : List (List UInt8)) : BitVec 64 × BitVec 64 := ps.foldl kid k
theorem kidL_succ (k : BitVec 64 × BitVec 64) (ps : List (List UInt8)) (q : Nat) (h : q < ps.length) : kidL k (ps.take (q + 1)) = kid (kidL k (ps.take q)) (ps.getD q []) := by
  unfold kidL
  rw [List.take_add_one, List.foldl_append, List.getD_eq_getElem?_getD, List.getElem?_eq_getElem h]
  rfl
/-- the world of Path's loop -/
structure LP (w : World) (a : Option Addr) (k : BitVec 64 × BitVec 64) (ps : List (List UInt8)) (q : Nat) (T : TypeId) (wr : World) : Prop where
  key : wr.heap[w.heap.size]? = some (.cells #[.int .u64 (W64 (kidL k (ps.take q)).1), .int .u64 (W64 (kidL k (ps.take q)).2)] T (0, 0))
  out : wr.heap[w.heap.size + 1]? = some (.cells #[.int .u64 0, .int .u64 0] T (0, 0))
  row : SCellB (w.heap.size + 2) wr a ps
  new : New w wr
theorem LP.step {w : World} {a : Option Addr} {k : BitVec 64 × BitVec 64} {ps : List (List UInt8)} {q : Nat} {T : TypeId} {wr w5 : World} (h : LP w a k ps q T wr) (hn : New wr w5) :
    LP w a k ps (q + 1) T ((w5.setCell ⟨w.heap.size, 0, none⟩ (.int .u64 (W64 (kidL k (ps.take (q + 1))).1))).setCell ⟨w.heap.size, 1, none⟩ (.int .u64 (W64 (kidL k (ps.take (q + 1))).2))) := by
  have h1 := (hn.block _ (lt_of_block h.key)).trans h.key
  have h2 := (hn.block _ (lt_of_block h.out)).trans h.out
  have b1 := heap_setCell_same w5 w.heap.size 0 _ _ (.int .u64 (W64 (kidL k (ps.take (q + 1))).1)) h1
  have b2 := heap_setCell_same _ w.heap.size 1 _ _ (.int .u64 (W64 (kidL k (ps.take (q + 1))).2)) b1
  refine ⟨b2, ?_, ?_, ((h.new.trans hn).setCell (Nat.le_refl _) _).setCell (Nat.le_refl _) _⟩
  · rw [heap_setCell_other _ _ _ _ (by show w.heap.size + 1 ≠ w.heap.size; omega), heap_setCell_other _ _ _ _ (by show w.heap.size + 1 ≠ w.heap.size; omega)]
    exact h2
  · intro hp
    obtain ⟨g, e, hg, hc⟩ := h.row hp
    refine ⟨g, e, hg, fun j hj => ?_⟩
    have hcj := hc j hj
    have h3 := (hn.cell (a := ⟨g, j, none⟩) (World.block_lt_of_cell? _ _ hcj)).trans hcj
    rw [← h3]
    refine World.cell?_of_block (a := ⟨g, j, none⟩) ?_
    exact (heap_setCell_other _ ⟨w.heap.size, 1, none⟩ g _ (by show g ≠ w.heap.size; omega)).trans (heap_setCell_other _ ⟨w.heap.size, 0, none⟩ g _ (by show g ≠ w.heap.size; omega))
set_option maxHeartbeats 4000000 in
theorem path_no (k : BitVec 64 × BitVec 64) (l : List UInt8) (hlim : l.length ≤ 1000000) (hne : ptE (pts l) ≠ 0) (w : World) (hx : MaxL w) :
    Calls Try.prog 14 #[.agg #[.int .u64 (W64 k.1), .int .u64 (W64 k.2)], .string (bs l)] w fun e w' => e = .returned (.tuple #[.agg #[.int .u64 0, .int .u64 0], .int .i64 (ptE (pts l))]) ∧ New w w' := by
  have HZ := Lib.hid (two_blocks w (.cells #[.int .u64 (W64 k.1), .int .u64 (W64 k.2)] 24) (.cells #[.int .u64 0, .int .u64 0] 24))
  have HQ := Lib.hid (parts_q l hlim _ (hx.stay HZ.out.2.2))
  have HD := Lib.hid (show (ptE (pts l) != 0) = true by rw [bne_iff_ne]; exact hne)
  have HNE := Lib.hid hne
  clear hne hx
  go_enter Try.func14, Try.ntmps14
  go_wp2_with fail
  refine HQ.out.mono ?_
  rintro e w2 ⟨hor, hn⟩
  rcases hor with ⟨_, rfl⟩ | ⟨h0, _⟩
  · have ho := (hn.block _ (lt_of_block HZ.out.2.1)).trans HZ.out.2.1
    have HN := Lib.hid (HZ.out.2.2.trans hn)
    have z0 := cell_of_row _ _ 0 _ _ _ ho
    have z1 := cell_of_row _ _ 1 _ _ _ ho
    have zf := fun i => frozen_of_row _ _ i _ _ ho
    have hd := HD.out
    clear HZ hn ho HQ HD HNE
    go_wp2
    refine bodyPost_ret (by simp [results, Try.results14, go_sem, z0, z1]; try rfl) rfl ?_
    exact ⟨rfl, ((HN.out.setCell (by show w.heap.size ≤ w.heap.size + 1; omega) _).setCell (by show w.heap.size ≤ w.heap.size + 1; omega) _)⟩
  · exact absurd h0 HNE.out
set_option maxHeartbeats 4000000 in
theorem path_yes (k : BitVec 64 × BitVec 64) (l : List UInt8) (hlim : l.length ≤ 1000000) (h0 : ptE (pts l) = 0) (w : World) (hx : MaxL w) :
    Calls Try.prog 14 #[.agg #[.int .u64 (W64 k.1), .int .u64 (W64 k.2)], .string (bs l)] w fun e w' => e = .returned (.tuple #[.agg #[.int .u64 (W64 (kidL k (pts l)).1), .int .u64 (W64 (kidL k (pts l)).2)], .int .i64 0]) ∧ New w w' := by
  have HZ := Lib.hid (two_blocks w (.cells #[.int .u64 (W64 k.1), .int .u64 (W64 k.2)] 24) (.cells #[.int .u64 0, .int .u64 0] 24))
  have HQ := Lib.hid (parts_q l hlim _ (hx.stay HZ.out.2.2))
  have HGD := Lib.hid (good_of h0)
  have HH0 := Lib.hid h0
  clear h0 hx
  go_enter Try.func14, Try.ntmps14
  go_wp2_with fail
  refine HQ.out.mono ?_
  rintro e w2 ⟨hor, hn⟩
  rcases hor with ⟨h1, _⟩ | ⟨_, v, rfl, hown⟩
  · exact absurd HH0.out h1
  · obtain ⟨a, c, rfl, hnc, hrow⟩ := srow_of (own_low (base' := w.heap.size + 2) hown (by simp))
    have hky := (hn.block _ (lt_of_block HZ.out.1)).trans HZ.out.1
    have ho := (hn.block _ (lt_of_block HZ.out.2.1)).trans HZ.out.2.1
    have hsz := lt_of_block ho
    have HLP : Hid (LP w a k (pts l) 0 24 w2) := Lib.hid ⟨hky, ho, hrow, HZ.out.2.2.trans hn⟩
    clear hown hky ho hn HZ HQ hrow
    have hpl := pts_len l
    obtain ⟨ps, hps⟩ : ∃ z, pts l = z := ⟨_, rfl⟩
    rw [hps] at hpl hnc HLP HGD
    rw [hps]
    have HPS := Lib.hid hps
    clear HH0
    obtain ⟨n, hnl⟩ : ∃ n, ps.length = n := ⟨_, rfl⟩
    rw [hnl] at hnc hpl
    have HNL := Lib.hid hnl
    have hncI : (n : Int) ≤ (c : Int) := by omega
    simp only [hnl]
    clear hnl hnc hps
    go_wp2_with fail
    go_loopw [21] (fun iv wr => ∃ q : Nat, q ≤ n ∧ iv = .int .i64 (q : Int) ∧ Hid (LP w a k ps q 24 wr)) (fun iv _ => n - (intOf iv).toNat)
    case atStart => exact ⟨0, Nat.zero_le _, rfl, HLP⟩
    case round =>
      obtain ⟨q, hq, rfl, HL⟩ := hrel
      by_cases hlt : (q : Int) < (n : Int)
      · have hqn : q < n := by omega
        have hq0 : (0 : Int) ≤ (q : Int) := by omega
        obtain ⟨g, rfl, _, hcell⟩ := HL.out.row (by rw [HNL.out]; omega)
        have hc := hcell q (by rw [HNL.out]; exact hqn)
        obtain ⟨x, hxe⟩ : ∃ x, ps.getD q [] = x := ⟨_, rfl⟩
        rw [hxe] at hc
        have HX := Lib.hid hxe
        have hgx := HGD.out x (by rw [← hxe, List.getD_eq_getElem?_getD, List.getElem?_eq_getElem (by rw [HNL.out]; exact hqn)]; exact List.getElem_mem _)
        have k0 := cell_of_row _ _ 0 _ _ _ HL.out.key
        have k1 := cell_of_row _ _ 1 _ _ _ HL.out.key
        have kf := fun i => frozen_of_row _ _ i _ _ HL.out.key
        have HC := Lib.hid (child_yes (kidL k (ps.take q)) x (lab_len hgx) hgx wr)
        have HT : Hid (kid (kidL k (ps.take q)) x = kidL k (ps.take (q + 1))) := Lib.hid (by rw [← hxe]; exact (kidL_succ k ps q (by rw [HNL.out]; exact hqn)).symm)
        rw [HT.out] at HC
        clear hcell hxe hgx HT
        generalize kidL k (ps.take q) = kq at *
        go_wp2_with fail
        refine HC.out.mono ?_
        rintro e w5 ⟨rfl, hn5⟩
        have HF := Lib.hid (HL.out.step hn5)
        have hkk := (hn5.block _ (lt_of_block HL.out.key)).trans HL.out.key
        have kg := fun i => frozen_of_row _ _ i _ _ hkk
        have kc0 := cell_of_row _ _ 0 _ _ _ hkk
        have kc1 := cell_of_row _ _ 1 _ _ _ hkk
        clear hn5 hkk k0 k1 kf hc
        go_wp2_with fail
        exact ⟨⟨q + 1, by omega, by go_num, HF⟩, by simp [intOf]; omega⟩
      · obtain rfl : q = n := by omega
        have k0 := cell_of_row _ _ 0 _ _ _ HL.out.key
        have k1 := cell_of_row _ _ 1 _ _ _ HL.out.key
        have z0 := cell_of_row _ _ 0 _ _ _ HL.out.out
        have z1 := cell_of_row _ _ 1 _ _ _ HL.out.out
        have zf := fun i => frozen_of_row _ _ i _ _ HL.out.out
        have hnw := HL.out.new
        rw [List.take_of_length_le (Nat.le_of_eq HNL.out)] at k0 k1
        go_wp2_with fail
        refine bodyPost_ret (by simp [results, Try.results14, go_sem, z0, z1]; try rfl) rfl ?_
        rw [HPS.out]
        exact ⟨rfl, ((hnw.setCell (by show w.heap.size ≤ w.heap.size + 1; omega) _).setCell (by show w.heap.size ≤ w.heap.size + 1; omega) _)⟩
end Go.Proofs.Ytoplabhoedloeaa
