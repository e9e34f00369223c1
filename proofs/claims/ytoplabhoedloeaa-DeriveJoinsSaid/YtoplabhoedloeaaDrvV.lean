/- Layer 45: the document's Path; Same; Join. -/
import Derived.Test.YtoplabhoedloeaaDrvQ
import Derived.Test.YtoplabhoedloeaaDrvU
import Derived.Test.YtoplabhoedloeaaDrvC
import Derived.BigQuiet
namespace Go.Proofs.Ytoplabhoedloeaa
open Go Go.RowKit Go.Bv Go.Drv
set_option linter.unusedVariables false
set_option maxRecDepth 100000
set_option maxHeartbeats 4000000 in
theorem pathr_no (k : BitVec 64 × BitVec 64) (l : List UInt8) (hlim : l.length ≤ 1000000) (hne : ptE (pts l) ≠ 0) (w : World) :
    Calls Try.prog 16 #[.agg #[.int .u64 (W64 k.1), .int .u64 (W64 k.2)], .string (bs l)] w fun e w' => e = .returned (.tuple #[.agg #[.int .u64 0, .int .u64 0], .int .i64 (ptE (pts l))]) ∧ New w w' := by
  have HZ := Lib.hid (two_blocks w (.cells #[.int .u64 (W64 k.1), .int .u64 (W64 k.2)] 24) (.cells #[.int .u64 0, .int .u64 0] 24))
  have HQ := Lib.hid (fun w' => partsr_q l hlim w')
  have HD := Lib.hid (show (ptE (pts l) != 0) = true by rw [bne_iff_ne]; exact hne)
  have HNE := Lib.hid hne
  clear hne
  go_enter Try.func16, Try.ntmps16
  go_wp2_with fail
  refine (HQ.out _).mono ?_
  rintro e w2 ⟨hor, hn⟩
  rcases hor with ⟨_, rfl⟩ | ⟨h0, _⟩
  · have ho := (hn.block _ (lt_of_block HZ.out.2.1)).trans HZ.out.2.1
    have HN := Lib.hid (HZ.out.2.2.trans hn)
    have z0 := cell_of_row _ _ 0 _ _ _ ho
    have z1 := cell_of_row _ _ 1 _ _ _ ho
    have zf := fun i => frozen_of_row _ _ i _ _ ho
    have hd := HD.out
    clear HZ hn ho HQ HD HNE
    go_wp2
    refine bodyPost_ret (by simp [results, Try.results16, go_sem, z0, z1]; try rfl) rfl ?_
    exact ⟨rfl, ((HN.out.setCell (by show w.heap.size ≤ w.heap.size + 1; omega) _).setCell (by show w.heap.size ≤ w.heap.size + 1; omega) _)⟩
  · exact absurd h0 HNE.out
set_option maxHeartbeats 4000000 in
theorem pathr_yes (k : BitVec 64 × BitVec 64) (l : List UInt8) (hlim : l.length ≤ 1000000) (h0 : ptE (pts l) = 0) (w : World) :
    Calls Try.prog 16 #[.agg #[.int .u64 (W64 k.1), .int .u64 (W64 k.2)], .string (bs l)] w fun e w' => e = .returned (.tuple #[.agg #[.int .u64 (W64 (kidL k (pts l)).1), .int .u64 (W64 (kidL k (pts l)).2)], .int .i64 0]) ∧ New w w' := by
  have HZ := Lib.hid (two_blocks w (.cells #[.int .u64 (W64 k.1), .int .u64 (W64 k.2)] 24) (.cells #[.int .u64 0, .int .u64 0] 24))
  have HQ := Lib.hid (fun w' => partsr_q l hlim w')
  have HGD := Lib.hid (good_of h0)
  have HH0 := Lib.hid h0
  clear h0
  go_enter Try.func16, Try.ntmps16
  go_wp2_with fail
  refine (HQ.out _).mono ?_
  rintro e w2 ⟨hor, hn⟩
  rcases hor with ⟨h1, _⟩ | ⟨_, v, rfl, hown⟩
  · exact absurd HH0.out h1
  · obtain ⟨a, c, rfl, hnc, hrow⟩ := srow_of (own_low (base' := w.heap.size + 2) hown (by simp))
    have hky := (hn.block _ (lt_of_block HZ.out.1)).trans HZ.out.1
    have ho := (hn.block _ (lt_of_block HZ.out.2.1)).trans HZ.out.2.1
    have hsz := lt_of_block ho
    have HLP : Hid (LP w a k (pts l) 0 24 w2) := Lib.hid ⟨hky, ho, hrow, HZ.out.2.2.trans hn⟩
    clear hown hky ho hn HZ HQ hrow
    have hpl := pts_len l
    obtain ⟨ps, hps⟩ : ∃ z, pts l = z := ⟨_, rfl⟩
    rw [hps] at hpl hnc HLP HGD
    rw [hps]
    have HPS := Lib.hid hps
    clear HH0
    obtain ⟨n, hnl⟩ : ∃ n, ps.length = n := ⟨_, rfl⟩
    rw [hnl] at hnc hpl
    have HNL := Lib.hid hnl
    have hncI : (n : Int) ≤ (c : Int) := by omega
    simp only [hnl]
    clear hnl hnc hps
    go_wp2_with fail
    go_loopw [21] (fun iv wr => ∃ q : Nat, q ≤ n ∧ iv = .int .i64 (q : Int) ∧ Hid (LP w a k ps q 24 wr)) (fun iv _ => n - (intOf iv).toNat)
    case atStart => exact ⟨0, Nat.zero_le _, rfl, HLP⟩
    case round =>
      obtain ⟨q, hq, rfl, HL⟩ := hrel
      by_cases hlt : (q : Int) < (n : Int)
      · have hqn : q < n := by omega
        have hq0 : (0 : Int) ≤ (q : Int) := by omega
        obtain ⟨g, rfl, _, hcell⟩ := HL.out.row (by rw [HNL.out]; omega)
        have hc := hcell q (by rw [HNL.out]; exact hqn)
        obtain ⟨x, hxe⟩ : ∃ x, ps.getD q [] = x := ⟨_, rfl⟩
        rw [hxe] at hc
        have HX := Lib.hid hxe
        have hgx := HGD.out x (by rw [← hxe, List.getD_eq_getElem?_getD, List.getElem?_eq_getElem (by rw [HNL.out]; exact hqn)]; exact List.getElem_mem _)
        have k0 := cell_of_row _ _ 0 _ _ _ HL.out.key
        have k1 := cell_of_row _ _ 1 _ _ _ HL.out.key
        have kf := fun i => frozen_of_row _ _ i _ _ HL.out.key
        have HC := Lib.hid (childr_q (kidL k (ps.take q)) x (lab_len hgx) wr)
        have HT : Hid (kid (kidL k (ps.take q)) x = kidL k (ps.take (q + 1))) := Lib.hid (by rw [← hxe]; exact (kidL_succ k ps q (by rw [HNL.out]; exact hqn)).symm)
        rw [HT.out] at HC
        clear hcell hxe hgx HT
        generalize kidL k (ps.take q) = kq at *
        go_wp2_with fail
        refine HC.out.mono ?_
        rintro e w5 ⟨rfl, hn5⟩
        have HF := Lib.hid (HL.out.step hn5)
        have hkk := (hn5.block _ (lt_of_block HL.out.key)).trans HL.out.key
        have kg := fun i => frozen_of_row _ _ i _ _ hkk
        have kc0 := cell_of_row _ _ 0 _ _ _ hkk
        have kc1 := cell_of_row _ _ 1 _ _ _ hkk
        clear hn5 hkk k0 k1 kf hc
        go_wp2_with fail
        exact ⟨⟨q + 1, by omega, by go_num, HF⟩, by simp [intOf]; omega⟩
      · obtain rfl : q = n := by omega
        have k0 := cell_of_row _ _ 0 _ _ _ HL.out.key
        have k1 := cell_of_row _ _ 1 _ _ _ HL.out.key
        have z0 := cell_of_row _ _ 0 _ _ _ HL.out.out
        have z1 := cell_of_row _ _ 1 _ _ _ HL.out.out
        have zf := fun i => frozen_of_row _ _ i _ _ HL.out.out
        have hnw := HL.out.new
        rw [List.take_of_length_le (Nat.le_of_eq HNL.out)] at k0 k1
        go_wp2_with fail
        refine bodyPost_ret (by simp [results, Try.results16, go_sem, z0, z1]; try rfl) rfl ?_
        rw [HPS.out]
        exact ⟨rfl, ((hnw.setCell (by show w.heap.size ≤ w.heap.size + 1; omega) _).setCell (by show w.heap.size ≤ w.heap.size + 1; omega) _)⟩
def pathE (k : BitVec 64 × BitVec 64) (l : List UInt8) : BitVec 64 × BitVec 64 := if ptE (pts l) = 0 then kidL k (pts l) else (0#64, 0#64)
theorem path_any (k : BitVec 64 × BitVec 64) (l : List UInt8) (hlim : l.length ≤ 1000000) (w : World) (hx : MaxL w) :
    Calls Try.prog 14 #[.agg #[.int .u64 (W64 k.1), .int .u64 (W64 k.2)], .string (bs l)] w fun e w' => e = .returned (.tuple #[.agg #[.int .u64 (W64 (pathE k l).1), .int .u64 (W64 (pathE k l).2)], .int .i64 (ptE (pts l))]) ∧ New w w' := by
  unfold pathE
  by_cases h : ptE (pts l) = 0
  · rw [if_pos h, h]; exact path_yes k l hlim h w hx
  · rw [if_neg h]; exact path_no k l hlim h w hx
theorem pathr_any (k : BitVec 64 × BitVec 64) (l : List UInt8) (hlim : l.length ≤ 1000000) (w : World) :
    Calls Try.prog 16 #[.agg #[.int .u64 (W64 k.1), .int .u64 (W64 k.2)], .string (bs l)] w fun e w' => e = .returned (.tuple #[.agg #[.int .u64 (W64 (pathE k l).1), .int .u64 (W64 (pathE k l).2)], .int .i64 (ptE (pts l))]) ∧ New w w' := by
  unfold pathE
  by_cases h : ptE (pts l) = 0
  · rw [if_pos h, h]; exact pathr_yes k l hlim h w
  · rw [if_neg h]; exact pathr_no k l hlim h w
end Go.Proofs.Ytoplabhoedloeaa
