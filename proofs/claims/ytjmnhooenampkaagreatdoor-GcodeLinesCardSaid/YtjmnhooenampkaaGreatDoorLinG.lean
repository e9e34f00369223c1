/- The document's first, Unline. · The document's Unline. · The document's Unline, word by word. · The document's Unline of any line; the law GcodeLines. -/
import Derived.Test.YtjmnhooenampkaaGreatDoorLinC
namespace Go.Proofs.YtjmnhooenampkaaGreatDoor
open Go Go.RowKit Go.Bv
set_option linter.unusedVariables false
set_option maxRecDepth 100000
theorem LnP.size {t F : ByteArray} {Gs : List ByteArray} (h : LnP t F Gs) : F.size ≤ t.size ∧ t.extract 0 F.size = F ∧ (∀ i (hi : i < t.size), i < F.size → (t[i].toNat : Int) ≠ 32) ∧ (∀ (hi : F.size < t.size), (t[F.size].toNat : Int) = 32) := by
  have he : t.data.toList = F.data.toList ++ flJ (Gs.map fun g => g.data.toList) := by rw [h.eq, lnJ_fl]
  have hF : F.data.toList.length = F.size := rfl
  have ht : t.data.toList.length = t.size := rfl
  have hl := congrArg List.length he
  rw [List.length_append, hF, ht] at hl
  have hg : ∀ i (hi : i < t.size), t[i] = t.data.toList.getD i 0 := fun i hi => (byte_getD t i hi).symm
  refine ⟨by omega, ?_, fun i hi hlt => ?_, fun hi => ?_⟩
  · apply ByteArray.ext
    apply Array.toList_inj.1
    rw [Lib.extract_data, he, List.drop_zero, Nat.sub_zero, ← hF, List.take_left]
  · rw [hg i hi, he, List.getD_eq_getElem?_getD, List.getElem?_append_left (by omega), List.getElem?_eq_getElem (by omega), Option.getD_some]
    have hb := h.no (F.data.toList[i]) (List.getElem_mem _)
    intro e
    apply hb
    apply UInt8.toNat_inj.1
    show _ = 32
    omega
  · rw [hg _ hi, he, List.getD_eq_getElem?_getD, List.getElem?_append_right (by omega), hF, Nat.sub_self]
    cases hG : (Gs.map fun g => g.data.toList) with
    | nil => rw [hG] at hl; simp [flJ] at hl; omega
    | cons g gs => rfl
set_option maxHeartbeats 1000000 in
theorem first_17 (t F0 : ByteArray) (Gs : List ByteArray) (hp : LnP t F0 Gs) (hsz : t.size ≤ 300) (w : World) : Calls Tryz.prog 26 #[.string t] w fun e w' => e = .returned (.string F0) ∧ w' = w := by
  obtain ⟨h1, h2, h3, h4⟩ := hp.size
  have HE := Lib.hid h2
  have H3 := Lib.hid h3
  have H4 := Lib.hid h4
  clear h2 h3 h4 hp
  go_enter Tryz.func26, Tryz.ntmps26
  go_wp2_with fail
  go_loop [3] (fun iv => ∃ i : Nat, i ≤ F0.size ∧ iv = .int .i64 (i : Int)) (fun iv => F0.size + 1 - (intOf iv).toNat)
  case atStart => exact ⟨0, Nat.zero_le _, rfl⟩
  case round =>
    obtain ⟨i, hi, rfl⟩ := hrel
    have hi0 : (0 : Int) ≤ (i : Int) := by omega
    by_cases hlt : i < F0.size
    · have hlt2 : (i : Int) < (t.size : Int) := by omega
      have hb : ((t[i].toNat : Int) == 32) = false := beq_eq_false_iff_ne.2 (H3.out i (by omega) hlt)
      go_wp2
      exact ⟨⟨i + 1, by omega, by go_num⟩, by simp [intOf]; omega⟩
    · obtain rfl : i = F0.size := by omega
      by_cases hlt2 : (F0.size : Int) < (t.size : Int)
      · have hb : ((t[F0.size].toNat : Int) == 32) = true := beq_iff_eq.2 (H4.out (by omega))
        go_wp2
        go_ret
        exact ⟨congrArg (fun z => Ending.returned (Value.string z)) HE.out, rfl⟩
      · have ht : t = F0 := by
          have e : F0.size = t.size := by omega
          have h9 := HE.out
          rw [e] at h9
          rw [← h9]
          apply ByteArray.ext
          apply Array.toList_inj.1
          rw [Lib.extract_data, List.drop_zero, Nat.sub_zero]
          exact (List.take_of_length_le (Nat.le_refl _)).symm
        have HT := Lib.hid ht
        clear ht
        go_wp2
        go_ret
        exact ⟨congrArg (fun z => Ending.returned (Value.string z)) HT.out, rfl⟩
end Go.Proofs.YtjmnhooenampkaaGreatDoor
namespace Go.Proofs.YtjmnhooenampkaaGreatDoor
open Go Go.RowKit Go.Bv
set_option linter.unusedVariables false
set_option maxRecDepth 100000
/-- the kind that is found among the first ones -/
def kdU (F : ByteArray) (j : Int) : Int := if kdL F < j then kdL F else 0
theorem kdU_one (F : ByteArray) : kdU F 1 = 0 := by
  unfold kdU
  by_cases h : kdL F = 0
  · rw [h]; rfl
  · have := (szK_n (kdL_yes h).1).2.2.2.1
    rw [if_neg (by omega)]
theorem kdU_end (F : ByteArray) : kdU F 9 = kdL F := by
  unfold kdU
  by_cases h : kdL F = 0
  · rw [h]; rfl
  · have := (szK_n (kdL_yes h).1).2.2.2.2
    rw [if_pos (by omega)]
theorem kdU_hit (F : ByteArray) {j : Int} (h1 : 1 ≤ j) (h8 : j ≤ 8) (h : nmK j = F) : kdU F (j + 1) = j := by
  have h0 : ¬ kdL F = 0 := fun e => kdL_no e j h1 h8 h
  obtain ⟨hk, hn⟩ := kdL_yes h0
  obtain ⟨_, _, _, k1, k8⟩ := szK_n hk
  have e : kdL F = j := by
    rcases Int.lt_trichotomy (kdL F) j with hlt | he | hgt
    · exact absurd (hn.trans h.symm) (nm_ne k1 hlt h8)
    · exact he
    · exact absurd (h.trans hn.symm) (nm_ne h1 hgt k8)
  unfold kdU
  rw [e, if_pos (by omega)]
theorem kdU_miss (F : ByteArray) {j : Int} (h1 : 1 ≤ j) (h : nmK j ≠ F) : kdU F (j + 1) = kdU F j := by
  unfold kdU
  by_cases h0 : kdL F = 0
  · rw [h0]
    rw [if_pos (by omega), if_pos (by omega)]
  · obtain ⟨hk, hn⟩ := kdL_yes h0
    have hne : kdL F ≠ j := fun e => h (by rw [← e]; exact hn)
    by_cases hlt : kdL F < j
    · rw [if_pos hlt, if_pos (by omega)]
    · rw [if_neg hlt, if_neg (by omega)]
abbrev zK (k : Int) : Array Value := #[.int .i64 k, .int .u64 0, .int .u64 0, .int .u64 0, .int .u64 0]
set_option maxHeartbeats 1000000 in
theorem un_short (t : ByteArray) (h0 : t.size = 0) (w : World) : Calls Tryz.prog 12 #[.string t] w fun e w' => e = .returned (.tuple #[.agg zStc, .int .i64 3]) ∧ New w w' := by
  have he : t.toList.isEmpty = true := by
    rw [Lib.toList_data, List.isEmpty_iff]
    exact List.eq_nil_of_length_eq_zero h0
  clear h0
  go_enter Tryz.func12, Tryz.ntmps12
  go_wp2
  go_returns
  exact ⟨rfl, (New.refl w).alloc _⟩
set_option maxHeartbeats 1000000 in
theorem un_kind (t F0 : ByteArray) (Gs : List ByteArray) (hp : LnP t F0 Gs) (hsz : t.size ≤ 300) (h1 : ¬ t.size = 0) (hk : kdL F0 = 0) (w : World) : Calls Tryz.prog 12 #[.string t] w fun e w' => e = .returned (.tuple #[.agg zStc, .int .i64 6]) ∧ New w w' := by
  have hne : t.toList.isEmpty = false := by
    rw [Lib.toList_data, List.isEmpty_eq_false_iff]
    intro e
    have h9 : t.data.toList.length = 0 := by rw [e]; rfl
    exact h1 h9
  have HFI := Lib.hid (fun w => first_17 t F0 Gs hp hsz w)
  have HKU1 := Lib.hid (kdU_one F0)
  have HKU9 := Lib.hid (kdU_end F0)
  have HKH := Lib.hid (fun (j : Int) (a : 1 ≤ j) (b : j ≤ 8) (c : nmK j = F0) => kdU_hit F0 a b c)
  have HKM := Lib.hid (fun (j : Int) (a : 1 ≤ j) (c : nmK j ≠ F0) => kdU_miss F0 a c)
  obtain ⟨w0, hw0, hb0, hn0⟩ := box5 w zStc
  obtain ⟨w1, hw1, hb1, hn1⟩ := box5 w0 zStc
  have hs0 : w0.heap.size = w.heap.size + 1 := by rw [← hw0]; simp
  rw [hs0] at hb1
  have HAL := Lib.hid hw0
  have HAL1 := Lib.hid hw1
  have HB0 := Lib.hid ((hn1.block _ (lt_of_block hb0)).trans hb0)
  have HB1 := Lib.hid hb1
  have HN1 := Lib.hid (hn0.trans hn1)
  have HZ : Hid (szK (kdL F0) = 0) := Lib.hid (by rw [hk]; rfl)
  clear hw0 hb0 hn0 hw1 hb1 hn1 hs0 hp h1
  clear hk hsz
  go_enter Tryz.func12, Tryz.ntmps12
  go_wp2_with fail
  rw [HAL.out, HAL1.out]
  clear HAL HAL1
  go_loopw [5] (fun iv wr => ∃ j : Nat, 1 ≤ j ∧ j ≤ 9 ∧ iv = .int .i64 (j : Int) ∧ Hid (wr.heap[w.heap.size + 1]? = some (.cells (zK (kdU F0 (j : Int))) 27 (0, 0))) ∧ Hid (wr.heap[w.heap.size]? = some (.cells zStc 27 (0, 0))) ∧ Hid (New w wr)) (fun iv _ => 9 - (intOf iv).toNat)
  case atStart => exact ⟨1, Nat.le_refl _, by omega, rfl, Lib.hid (by rw [show ((1 : Nat) : Int) = 1 from rfl, HKU1.out]; exact HB1.out), HB0, HN1⟩
  case round =>
    obtain ⟨j, hj1, hj9, rfl, HBJ, HBR, HNJ⟩ := hrel
    obtain ⟨wq, hwq⟩ : ∃ z, z = wr := ⟨_, rfl⟩
    rw [← hwq] at HBJ HBR HNJ ⊢
    clear hwq
    by_cases hlt : (j : Int) ≤ 8
    · go_wp2_with fail
      refine (rname_any (j : Int) _).mono ?_
      rintro e w2 ⟨rfl, hn2⟩
      have HB2 := Lib.hid ((hn2.block _ (lt_of_block HBJ.out)).trans HBJ.out)
      have HR2 := Lib.hid ((hn2.block _ (lt_of_block HBR.out)).trans HBR.out)
      have HN2 := Lib.hid (HNJ.out.trans hn2)
      clear hn2 HBJ HBR HNJ
      by_cases hnm : nmK (j : Int) = F0
      · rw [hnm]
        have HKX := Lib.hid (HKH.out (j : Int) (by omega) hlt hnm)
        go_wp2_with fail
        refine (HFI.out _).mono ?_
        rintro e w3 ⟨rfl, rfl⟩
        have c0 := cell_of_row _ _ 0 _ _ _ HB2.out
        have cf := fun i => frozen_of_row _ _ i _ _ HB2.out
        have HS := Lib.hid (heap_setCell_same _ (w.heap.size + 1) 0 _ _ (.int .i64 (j : Int)) HB2.out)
        have HO := Lib.hid ((heap_setCell_other w3 ⟨w.heap.size + 1, 0, none⟩ w.heap.size (.int .i64 (j : Int)) (by show w.heap.size ≠ w.heap.size + 1; omega)).trans HR2.out)
        have HNS := Lib.hid (HN2.out.setCell (p := ⟨w.heap.size + 1, 0, none⟩) (by show w.heap.size ≤ w.heap.size + 1; omega) (.int .i64 (j : Int)))
        clear hnm
        go_wp2
        exact ⟨⟨j + 1, by omega, by omega, by go_num, Lib.hid (by rw [show ((j + 1 : Nat) : Int) = (j : Int) + 1 by omega, HKX.out]; exact HS.out), HO, HNS⟩, by simp [intOf]; omega⟩
      · have HKX := Lib.hid (HKM.out (j : Int) (by omega) hnm)
        have hb : ((nmK (j : Int)).toList == F0.toList) = false := beq_eq_false_iff_ne.2 (fun e => hnm (ByteArray.ext (Array.toList_inj.1 (by rw [← Lib.toList_data, ← Lib.toList_data]; exact e))))
        clear hnm
        generalize nmK (j : Int) = nj at *
        go_wp2_with fail
        refine (HFI.out _).mono ?_
        rintro e w3 ⟨rfl, rfl⟩
        go_wp2
        exact ⟨⟨j + 1, by omega, by omega, by go_num, Lib.hid (by rw [show ((j + 1 : Nat) : Int) = (j : Int) + 1 by omega, HKX.out]; exact HB2.out), HR2, HN2⟩, by simp [intOf]; omega⟩
    · obtain rfl : j = 9 := by omega
      have HBK : Hid (wq.heap[w.heap.size + 1]? = some (.cells (zK (kdL F0)) 27 (0, 0))) := Lib.hid (by have := HBJ.out; rwa [show ((9 : Nat) : Int) = 9 from rfl, HKU9.out] at this)
      clear HBJ HKU1 HKU9 HKH HKM HB0 HB1 HN1 hj1 hj9 hlt
      have c0 := cell_of_row _ _ 0 _ _ _ HBK.out
      generalize kdL F0 = kd at *
      go_wp2_with fail
      refine (rsize_any kd _).mono ?_
      rintro e w3 ⟨rfl, hn3⟩
      have HB3 := Lib.hid ((hn3.block _ (lt_of_block HBK.out)).trans HBK.out)
      have HR3 := Lib.hid ((hn3.block _ (lt_of_block HBR.out)).trans HBR.out)
      have HN3 := Lib.hid (HNJ.out.trans hn3)
      clear hn3 HBK HBR HNJ c0
      rw [HZ.out]
      have k0 := cell_of_row _ _ 0 _ _ _ HR3.out
      have k1 := cell_of_row _ _ 1 _ _ _ HR3.out
      have k2 := cell_of_row _ _ 2 _ _ _ HR3.out
      have k3 := cell_of_row _ _ 3 _ _ _ HR3.out
      have k4 := cell_of_row _ _ 4 _ _ _ HR3.out
      have kf := fun i => frozen_of_row _ _ i _ _ HR3.out
      go_wp2_with fail
      refine bodyPost_ret (by simp [results, Tryz.results12, go_sem, k0, k1, k2, k3, k4]; try rfl) rfl ?_
      exact ⟨rfl, set5 HN3.out (by exact Nat.le_refl _) _ _ _ _ _⟩
set_option maxHeartbeats 1000000 in
theorem un_len (t F0 : ByteArray) (Gs : List ByteArray) (hp : LnP t F0 Gs) (hsz : t.size ≤ 300) (h1 : ¬ t.size = 0) (hk : ¬ kdL F0 = 0) (m : Nat) (hm : szK (kdL F0) = (m : Int)) (hm1 : 1 ≤ m) (hm4 : m ≤ 4) (hl : ¬ t.size = F0.size + 17 * m) (w : World) : Calls Tryz.prog 12 #[.string t] w fun e w' => e = .returned (.tuple #[.agg zStc, .int .i64 5]) ∧ New w w' := by
  have hFs := hp.size.1
  have HZ := Lib.hid hm
  have HW1 : Hid (wrap64 (17 * (m : Int)) = 17 * (m : Int)) := Lib.hid (by unfold wrap64; omega)
  have HW2 : Hid (wrap64 ((F0.size : Int) + 17 * (m : Int)) = (F0.size : Int) + 17 * (m : Int)) := Lib.hid (by unfold wrap64; omega)
  have hne : t.toList.isEmpty = false := by
    rw [Lib.toList_data, List.isEmpty_eq_false_iff]
    intro e
    have h9 : t.data.toList.length = 0 := by rw [e]; rfl
    exact h1 h9
  have HFI := Lib.hid (fun w => first_17 t F0 Gs hp hsz w)
  have HKU1 := Lib.hid (kdU_one F0)
  have HKU9 := Lib.hid (kdU_end F0)
  have HKH := Lib.hid (fun (j : Int) (a : 1 ≤ j) (b : j ≤ 8) (c : nmK j = F0) => kdU_hit F0 a b c)
  have HKM := Lib.hid (fun (j : Int) (a : 1 ≤ j) (c : nmK j ≠ F0) => kdU_miss F0 a c)
  obtain ⟨w0, hw0, hb0, hn0⟩ := box5 w zStc
  obtain ⟨w1, hw1, hb1, hn1⟩ := box5 w0 zStc
  have hs0 : w0.heap.size = w.heap.size + 1 := by rw [← hw0]; simp
  rw [hs0] at hb1
  have HAL := Lib.hid hw0
  have HAL1 := Lib.hid hw1
  have HB0 := Lib.hid ((hn1.block _ (lt_of_block hb0)).trans hb0)
  have HB1 := Lib.hid hb1
  have HN1 := Lib.hid (hn0.trans hn1)
  have hlb : ((t.size : Int) != (F0.size : Int) + 17 * (m : Int)) = true := by rw [bne_iff_ne]; omega
  clear hw0 hb0 hn0 hw1 hb1 hn1 hs0 hp h1
  clear hk hm hl
  go_enter Tryz.func12, Tryz.ntmps12
  go_wp2_with fail
  rw [HAL.out, HAL1.out]
  clear HAL HAL1
  go_loopw [5] (fun iv wr => ∃ j : Nat, 1 ≤ j ∧ j ≤ 9 ∧ iv = .int .i64 (j : Int) ∧ Hid (wr.heap[w.heap.size + 1]? = some (.cells (zK (kdU F0 (j : Int))) 27 (0, 0))) ∧ Hid (wr.heap[w.heap.size]? = some (.cells zStc 27 (0, 0))) ∧ Hid (New w wr)) (fun iv _ => 9 - (intOf iv).toNat)
  case atStart => exact ⟨1, Nat.le_refl _, by omega, rfl, Lib.hid (by rw [show ((1 : Nat) : Int) = 1 from rfl, HKU1.out]; exact HB1.out), HB0, HN1⟩
  case round =>
    obtain ⟨j, hj1, hj9, rfl, HBJ, HBR, HNJ⟩ := hrel
    obtain ⟨wq, hwq⟩ : ∃ z, z = wr := ⟨_, rfl⟩
    rw [← hwq] at HBJ HBR HNJ ⊢
    clear hwq
    by_cases hlt : (j : Int) ≤ 8
    · go_wp2_with fail
      refine (rname_any (j : Int) _).mono ?_
      rintro e w2 ⟨rfl, hn2⟩
      have HB2 := Lib.hid ((hn2.block _ (lt_of_block HBJ.out)).trans HBJ.out)
      have HR2 := Lib.hid ((hn2.block _ (lt_of_block HBR.out)).trans HBR.out)
      have HN2 := Lib.hid (HNJ.out.trans hn2)
      clear hn2 HBJ HBR HNJ
      by_cases hnm : nmK (j : Int) = F0
      · rw [hnm]
        have HKX := Lib.hid (HKH.out (j : Int) (by omega) hlt hnm)
        go_wp2_with fail
        refine (HFI.out _).mono ?_
        rintro e w3 ⟨rfl, rfl⟩
        have c0 := cell_of_row _ _ 0 _ _ _ HB2.out
        have cf := fun i => frozen_of_row _ _ i _ _ HB2.out
        have HS := Lib.hid (heap_setCell_same _ (w.heap.size + 1) 0 _ _ (.int .i64 (j : Int)) HB2.out)
        have HO := Lib.hid ((heap_setCell_other w3 ⟨w.heap.size + 1, 0, none⟩ w.heap.size (.int .i64 (j : Int)) (by show w.heap.size ≠ w.heap.size + 1; omega)).trans HR2.out)
        have HNS := Lib.hid (HN2.out.setCell (p := ⟨w.heap.size + 1, 0, none⟩) (by show w.heap.size ≤ w.heap.size + 1; omega) (.int .i64 (j : Int)))
        clear hnm
        go_wp2
        exact ⟨⟨j + 1, by omega, by omega, by go_num, Lib.hid (by rw [show ((j + 1 : Nat) : Int) = (j : Int) + 1 by omega, HKX.out]; exact HS.out), HO, HNS⟩, by simp [intOf]; omega⟩
      · have HKX := Lib.hid (HKM.out (j : Int) (by omega) hnm)
        have hb : ((nmK (j : Int)).toList == F0.toList) = false := beq_eq_false_iff_ne.2 (fun e => hnm (ByteArray.ext (Array.toList_inj.1 (by rw [← Lib.toList_data, ← Lib.toList_data]; exact e))))
        clear hnm
        generalize nmK (j : Int) = nj at *
        go_wp2_with fail
        refine (HFI.out _).mono ?_
        rintro e w3 ⟨rfl, rfl⟩
        go_wp2
        exact ⟨⟨j + 1, by omega, by omega, by go_num, Lib.hid (by rw [show ((j + 1 : Nat) : Int) = (j : Int) + 1 by omega, HKX.out]; exact HB2.out), HR2, HN2⟩, by simp [intOf]; omega⟩
    · obtain rfl : j = 9 := by omega
      have HBK : Hid (wq.heap[w.heap.size + 1]? = some (.cells (zK (kdL F0)) 27 (0, 0))) := Lib.hid (by have := HBJ.out; rwa [show ((9 : Nat) : Int) = 9 from rfl, HKU9.out] at this)
      clear HBJ HKU1 HKU9 HKH HKM HB0 HB1 HN1 hj1 hj9 hlt
      have c0 := cell_of_row _ _ 0 _ _ _ HBK.out
      generalize kdL F0 = kd at *
      go_wp2_with fail
      refine (rsize_any kd _).mono ?_
      rintro e w3 ⟨rfl, hn3⟩
      have HB3 := Lib.hid ((hn3.block _ (lt_of_block HBK.out)).trans HBK.out)
      have HR3 := Lib.hid ((hn3.block _ (lt_of_block HBR.out)).trans HBR.out)
      have HN3 := Lib.hid (HNJ.out.trans hn3)
      clear hn3 HBK HBR HNJ c0
      rw [HZ.out]
      have hw1 := HW1.out
      have hw2 := HW2.out
      go_wp2_with fail
      refine (HFI.out _).mono ?_
      rintro e w4 ⟨rfl, rfl⟩
      have k0 := cell_of_row _ _ 0 _ _ _ HR3.out
      have k1 := cell_of_row _ _ 1 _ _ _ HR3.out
      have k2 := cell_of_row _ _ 2 _ _ _ HR3.out
      have k3 := cell_of_row _ _ 3 _ _ _ HR3.out
      have k4 := cell_of_row _ _ 4 _ _ _ HR3.out
      have kf := fun i => frozen_of_row _ _ i _ _ HR3.out
      go_wp2_with fail
      refine bodyPost_ret (by simp [results, Tryz.results12, go_sem, k0, k1, k2, k3, k4]; try rfl) rfl ?_
      exact ⟨rfl, set5 HN3.out (by exact Nat.le_refl _) _ _ _ _ _⟩
end Go.Proofs.YtjmnhooenampkaaGreatDoor
namespace Go.Proofs.YtjmnhooenampkaaGreatDoor
open Go Go.RowKit Go.Bv
set_option linter.unusedVariables false
set_option maxRecDepth 100000
/-- the parts that the document reads -/
def uG (t F0 : ByteArray) (m : Nat) : List ByteArray := (List.range m).map fun i => t.extract (atL F0 i + 1) (atL F0 i + 17)
theorem wL_u (t F0 : ByteArray) (m i : Nat) (h : i < m) : wL (uG t F0 m) i = (unhex (t.extract (atL F0 i + 1) (atL F0 i + 17))).getD 0#64 := by
  unfold wL uG
  rw [List.getD_eq_getElem?_getD, List.getElem?_map, List.getElem?_range h]
  rfl
/-- what the document asks of each word -/
def DL (t F0 : ByteArray) (i : Nat) : Prop := t.data.toList[atL F0 i]? = some 32 ∧ (unhex (t.extract (atL F0 i + 1) (atL F0 i + 17))).isSome = true
set_option maxHeartbeats 2000000 in
theorem un_words (t F0 : ByteArray) (Gs : List ByteArray) (hp : LnP t F0 Gs) (hsz : t.size ≤ 300) (h1 : ¬ t.size = 0) (hk : ¬ kdL F0 = 0) (m : Nat) (hm : szK (kdL F0) = (m : Int)) (hm1 : 1 ≤ m) (hm4 : m ≤ 4) (hl : t.size = F0.size + 17 * m) (w : World) : Calls Tryz.prog 12 #[.string t] w fun e w' => (((∀ i, i < m → DL t F0 i) ∧ ((chkK (kdL F0) (qL (uG t F0 m) m) = 0 ∧ e = .returned (.tuple #[.agg (stc (kdL F0) (qL (uG t F0 m) m)), .int .i64 0])) ∨ (¬ chkK (kdL F0) (qL (uG t F0 m) m) = 0 ∧ e = .returned (.tuple #[.agg zStc, .int .i64 (chkK (kdL F0) (qL (uG t F0 m) m))])))) ∨ (¬ (∀ i, i < m → DL t F0 i) ∧ e = .returned (.tuple #[.agg zStc, .int .i64 5]))) ∧ New w w' := by
  have hFs := hp.size.1
  have HZ := Lib.hid hm
  have HW1 : Hid (wrap64 (17 * (m : Int)) = 17 * (m : Int)) := Lib.hid (by unfold wrap64; omega)
  have HW2 : Hid (wrap64 ((F0.size : Int) + 17 * (m : Int)) = (F0.size : Int) + 17 * (m : Int)) := Lib.hid (by unfold wrap64; omega)
  have hne : t.toList.isEmpty = false := by
    rw [Lib.toList_data, List.isEmpty_eq_false_iff]
    intro e
    have h9 : t.data.toList.length = 0 := by rw [e]; rfl
    exact h1 h9
  have HFI := Lib.hid (fun w => first_17 t F0 Gs hp hsz w)
  have HKU1 := Lib.hid (kdU_one F0)
  have HKU9 := Lib.hid (kdU_end F0)
  have HKH := Lib.hid (fun (j : Int) (a : 1 ≤ j) (b : j ≤ 8) (c : nmK j = F0) => kdU_hit F0 a b c)
  have HKM := Lib.hid (fun (j : Int) (a : 1 ≤ j) (c : nmK j ≠ F0) => kdU_miss F0 a c)
  obtain ⟨w0, hw0, hb0, hn0⟩ := box5 w zStc
  obtain ⟨w1, hw1, hb1, hn1⟩ := box5 w0 zStc
  have hs0 : w0.heap.size = w.heap.size + 1 := by rw [← hw0]; simp
  rw [hs0] at hb1
  have HAL := Lib.hid hw0
  have HAL1 := Lib.hid hw1
  have HB0 := Lib.hid ((hn1.block _ (lt_of_block hb0)).trans hb0)
  have HB1 := Lib.hid hb1
  have HN1 := Lib.hid (hn0.trans hn1)
  have hlb : ((t.size : Int) != (F0.size : Int) + 17 * (m : Int)) = false := by rw [bne_eq_false_iff_eq]; omega
  have hmz : ((m : Int) == 0) = false := beq_eq_false_iff_ne.2 (by omega)
  have HLL := Lib.hid hl
  clear hw0 hb0 hn0 hw1 hb1 hn1 hs0 hp h1
  clear hk hm hl
  go_enter Tryz.func12, Tryz.ntmps12
  go_wp2_with fail
  rw [HAL.out, HAL1.out]
  clear HAL HAL1
  go_loopw [5] (fun iv wr => ∃ j : Nat, 1 ≤ j ∧ j ≤ 9 ∧ iv = .int .i64 (j : Int) ∧ Hid (wr.heap[w.heap.size + 1]? = some (.cells (zK (kdU F0 (j : Int))) 27 (0, 0))) ∧ Hid (wr.heap[w.heap.size]? = some (.cells zStc 27 (0, 0))) ∧ Hid (New w wr)) (fun iv _ => 9 - (intOf iv).toNat)
  case atStart => exact ⟨1, Nat.le_refl _, by omega, rfl, Lib.hid (by rw [show ((1 : Nat) : Int) = 1 from rfl, HKU1.out]; exact HB1.out), HB0, HN1⟩
  case round =>
    obtain ⟨j, hj1, hj9, rfl, HBJ, HBR, HNJ⟩ := hrel
    obtain ⟨wq, hwq⟩ : ∃ z, z = wr := ⟨_, rfl⟩
    rw [← hwq] at HBJ HBR HNJ ⊢
    clear hwq
    by_cases hlt : (j : Int) ≤ 8
    · go_wp2_with fail
      refine (rname_any (j : Int) _).mono ?_
      rintro e w2 ⟨rfl, hn2⟩
      have HB2 := Lib.hid ((hn2.block _ (lt_of_block HBJ.out)).trans HBJ.out)
      have HR2 := Lib.hid ((hn2.block _ (lt_of_block HBR.out)).trans HBR.out)
      have HN2 := Lib.hid (HNJ.out.trans hn2)
      clear hn2 HBJ HBR HNJ
      by_cases hnm : nmK (j : Int) = F0
      · rw [hnm]
        have HKX := Lib.hid (HKH.out (j : Int) (by omega) hlt hnm)
        go_wp2_with fail
        refine (HFI.out _).mono ?_
        rintro e w3 ⟨rfl, rfl⟩
        have c0 := cell_of_row _ _ 0 _ _ _ HB2.out
        have cf := fun i => frozen_of_row _ _ i _ _ HB2.out
        have HS := Lib.hid (heap_setCell_same _ (w.heap.size + 1) 0 _ _ (.int .i64 (j : Int)) HB2.out)
        have HO := Lib.hid ((heap_setCell_other w3 ⟨w.heap.size + 1, 0, none⟩ w.heap.size (.int .i64 (j : Int)) (by show w.heap.size ≠ w.heap.size + 1; omega)).trans HR2.out)
        have HNS := Lib.hid (HN2.out.setCell (p := ⟨w.heap.size + 1, 0, none⟩) (by show w.heap.size ≤ w.heap.size + 1; omega) (.int .i64 (j : Int)))
        clear hnm
        go_wp2
        exact ⟨⟨j + 1, by omega, by omega, by go_num, Lib.hid (by rw [show ((j + 1 : Nat) : Int) = (j : Int) + 1 by omega, HKX.out]; exact HS.out), HO, HNS⟩, by simp [intOf]; omega⟩
      · have HKX := Lib.hid (HKM.out (j : Int) (by omega) hnm)
        have hb : ((nmK (j : Int)).toList == F0.toList) = false := beq_eq_false_iff_ne.2 (fun e => hnm (ByteArray.ext (Array.toList_inj.1 (by rw [← Lib.toList_data, ← Lib.toList_data]; exact e))))
        clear hnm
        generalize nmK (j : Int) = nj at *
        go_wp2_with fail
        refine (HFI.out _).mono ?_
        rintro e w3 ⟨rfl, rfl⟩
        go_wp2
        exact ⟨⟨j + 1, by omega, by omega, by go_num, Lib.hid (by rw [show ((j + 1 : Nat) : Int) = (j : Int) + 1 by omega, HKX.out]; exact HB2.out), HR2, HN2⟩, by simp [intOf]; omega⟩
    · obtain rfl : j = 9 := by omega
      have HBK : Hid (wq.heap[w.heap.size + 1]? = some (.cells (zK (kdL F0)) 27 (0, 0))) := Lib.hid (by have := HBJ.out; rwa [show ((9 : Nat) : Int) = 9 from rfl, HKU9.out] at this)
      clear HBJ HKU1 HKU9 HKH HKM HB0 HB1 HN1 hj1 hj9 hlt
      have c0 := cell_of_row _ _ 0 _ _ _ HBK.out
      go_wp2_with fail
      refine (rsize_any (kdL F0) _).mono ?_
      rintro e w3 ⟨rfl, hn3⟩
      have HB3 := Lib.hid ((hn3.block _ (lt_of_block HBK.out)).trans HBK.out)
      have HR3 := Lib.hid ((hn3.block _ (lt_of_block HBR.out)).trans HBR.out)
      have HN3 := Lib.hid (HNJ.out.trans hn3)
      clear hn3 HBK HBR HNJ c0
      rw [HZ.out]
      have hw1 := HW1.out
      have hw2 := HW2.out
      go_wp2_with fail
      refine (HFI.out _).mono ?_
      rintro e w4 ⟨rfl, rfl⟩
      clear hw1 hw2
      go_wp2_with fail
      go_loopw [7, 8] (fun av iv wr => ∃ i A : Nat, i ≤ m ∧ iv = .int .i64 (i : Int) ∧ av = .int .i64 (A : Int) ∧ Hid (A = atL F0 i) ∧ Hid (∀ x, x < i → DL t F0 x) ∧ Hid (wr.heap[w.heap.size + 1]? = some (.cells (stc (kdL F0) (qL (uG t F0 m) i)) 27 (0, 0))) ∧ Hid (wr.heap[w.heap.size]? = some (.cells zStc 27 (0, 0))) ∧ Hid (New w wr)) (fun _ iv _ => m - (intOf iv).toNat)
      case atStart => exact ⟨0, F0.size, Nat.zero_le _, rfl, rfl, Lib.hid rfl, Lib.hid (fun x hx => by omega), Lib.hid (by rw [qL_zero]; exact HB3.out), HR3, HN3⟩
      case round =>
        obtain ⟨i, A, hi, rfl, rfl, HA, HD, HBI, HBR, HNI⟩ := hrel
        obtain ⟨wp, hwp⟩ : ∃ z, z = wr := ⟨_, rfl⟩
        rw [← hwp] at HBI HBR HNI ⊢
        clear hwp HB3 HR3 HN3
        by_cases hlt : (i : Int) < (m : Int)
        · have hi0 : (0 : Int) ≤ (i : Int) := by omega
          have hi4 : (i : Int) < 4 := by omega
          have hAt : A + 17 ≤ t.size := by have h9 := HA.out; have h8 := HLL.out; unfold atL at h9; omega
          have hA0 : (0 : Int) ≤ (A : Int) := by omega
          have hA1 : (A : Int) < (t.size : Int) := by omega
          have hA2 : (A : Int) + 17 ≤ (t.size : Int) := by omega
          have hA3 : (A : Int) + 1 ≤ (A : Int) + 17 := by omega
          have hV1 : wrap64 ((A : Int) + 1) = (A : Int) + 1 := by unfold wrap64; omega
          have hV2 : wrap64 ((A : Int) + 17) = (A : Int) + 17 := by unfold wrap64; omega
          have hat : A < t.size := by omega
          have HUH := Lib.hid (unhex_ref (t.extract (A + 1) (A + 17)) (by rw [ByteArray.size_extract]; omega) wp)
          have hwu : (unhex (t.extract (A + 1) (A + 17))).getD 0#64 = wL (uG t F0 m) i := by rw [wL_u t F0 m i (by omega), ← HA.out]
          rw [hwu] at HUH
          have HBY : Hid (t.data.toList[atL F0 i]? = some 32 ↔ t[A] = 32) := Lib.hid (by
            rw [← HA.out, List.getElem?_eq_getElem (by exact hat), Option.some_inj]
            exact Iff.rfl)
          have HDI : Hid (DL t F0 i ↔ t[A] = 32 ∧ (unhex (t.extract (A + 1) (A + 17))).isSome = true) := Lib.hid (by unfold DL; rw [HBY.out, ← HA.out])
          have HUS := Lib.hid (rfl : (unhex (t.extract (A + 1) (A + 17))).isSome = (unhex (t.extract (A + 1) (A + 17))).isSome)
          clear hwu
          generalize hus : (unhex (t.extract (A + 1) (A + 17))).isSome = us at *
          clear HUS hus
          have hx : ((t[A].toNat : Int) != 32) = !decide (t[A] = 32) := by
            by_cases e : t[A] = 32
            · rw [e]; rfl
            · have : (t[A].toNat : Int) ≠ 32 := fun h => e (UInt8.toNat_inj.1 (by show _ = 32; omega))
              rw [decide_eq_false e, bne_iff_ne.2 this]; rfl
          by_cases hD : DL t F0 i
          · obtain ⟨d1, d2⟩ := HDI.out.1 hD
            rw [d1] at hx
            rw [d2] at HUH
            have HD2 : Hid (∀ x, x < i + 1 → DL t F0 x) := Lib.hid (fun x hx => by
              by_cases e : x = i
              · subst e; exact hD
              · exact HD.out x (by omega))
            have hx2 : ((t[A].toNat : Int) != 32) = false := by rw [d1]; rfl
            have HS9 := Lib.hid (heap_setCell_same _ (w.heap.size + 1) (1 + i) _ _ (.int .u64 (W64 (wL (uG t F0 m) i))) HBI.out)
            have HQS := Lib.hid (qL_set (uG t F0 m) (kdL F0) i (by omega))
            have HO := Lib.hid ((heap_setCell_other wp ⟨w.heap.size + 1, 1 + i, none⟩ w.heap.size (.int .u64 (W64 (wL (uG t F0 m) i))) (by show w.heap.size ≠ w.heap.size + 1; omega)).trans HBR.out)
            have HNS := Lib.hid (HNI.out.setCell (p := ⟨w.heap.size + 1, 1 + i, none⟩) (by show w.heap.size ≤ w.heap.size + 1; omega) (.int .u64 (W64 (wL (uG t F0 m) i))))
            have f1 := ok_row (kdL F0) (qL (uG t F0 m) i) 27 wp wp (w.heap.size + 1) HBI.out (New.refl _) i (by omega)
            have f2 := frozen_of_row _ _ (1 + i) _ _ HBI.out
            have HA2 : Hid (A + 17 = atL F0 (i + 1)) := Lib.hid (by have h9 := HA.out; unfold atL at h9 ⊢; omega)
            generalize wL (uG t F0 m) i = x at *
            clear hx hD d1 d2 HDI HBY
            go_wp2_with fail
            refine HUH.out.mono ?_
            rintro e wB ⟨rfl, rfl⟩
            go_wp2
            exact ⟨⟨i + 1, A + 17, by omega, by go_num, by go_num, HA2, HD2, Lib.hid (by rw [← HQS.out]; exact HS9.out), HO, HNS⟩, by simp [intOf]; omega⟩
          · have HNO : Hid (¬ (∀ i, i < m → DL t F0 i)) := Lib.hid (fun h => hD (h i (by omega)))
            have hb := HBR.out
            have k0 := cell_of_row _ _ 0 _ _ _ hb
            have k1 := cell_of_row _ _ 1 _ _ _ hb
            have k2 := cell_of_row _ _ 2 _ _ _ hb
            have k3 := cell_of_row _ _ 3 _ _ _ hb
            have k4 := cell_of_row _ _ 4 _ _ _ hb
            have kf := fun i => frozen_of_row _ _ i _ _ hb
            clear hb
            by_cases e32 : t[A] = 32
            · have hus : us = false := by
                cases us
                · rfl
                · exact absurd (HDI.out.2 ⟨e32, rfl⟩) hD
              subst hus
              have hx2 : ((t[A].toNat : Int) != 32) = false := by rw [e32]; rfl
              clear hx hD HDI HBY e32
              go_wp2_with fail
              refine HUH.out.mono ?_
              rintro e wB ⟨rfl, rfl⟩
              go_wp2_with fail
              refine bodyPost_ret (by simp [results, Tryz.results12, go_sem, k0, k1, k2, k3, k4]; try rfl) rfl ?_
              exact ⟨.inr ⟨HNO.out, rfl⟩, set5 HNI.out (by exact Nat.le_refl _) _ _ _ _ _⟩
            · have hx2 : ((t[A].toNat : Int) != 32) = true := by rw [hx, decide_eq_false e32]; rfl
              clear hx hD HDI HBY e32
              go_wp2_with fail
              refine HUH.out.mono ?_
              rintro e wB ⟨rfl, rfl⟩
              go_wp2_with fail
              refine bodyPost_ret (by simp [results, Tryz.results12, go_sem, k0, k1, k2, k3, k4]; try rfl) rfl ?_
              exact ⟨.inr ⟨HNO.out, rfl⟩, set5 HNI.out (by exact Nat.le_refl _) _ _ _ _ _⟩
        · obtain rfl : i = m := by omega
          have e0 := cell_of_row _ _ 0 _ _ _ HBI.out
          have e1 := cell_of_row _ _ 1 _ _ _ HBI.out
          have e2 := cell_of_row _ _ 2 _ _ _ HBI.out
          have e3 := cell_of_row _ _ 3 _ _ _ HBI.out
          have e4 := cell_of_row _ _ 4 _ _ _ HBI.out
          clear hlt
          go_wp2_with fail
          refine (rcheck_any (kdL F0) (qL (uG t F0 i) i) _).mono ?_
          rintro e w8 ⟨rfl, hn8⟩
          have hb := (hn8.block _ (lt_of_block HBR.out)).trans HBR.out
          have k0 := cell_of_row _ _ 0 _ _ _ hb
          have k1 := cell_of_row _ _ 1 _ _ _ hb
          have k2 := cell_of_row _ _ 2 _ _ _ hb
          have k3 := cell_of_row _ _ 3 _ _ _ hb
          have k4 := cell_of_row _ _ 4 _ _ _ hb
          have kf := fun i => frozen_of_row _ _ i _ _ hb
          have HB8 := Lib.hid ((hn8.block _ (lt_of_block HBI.out)).trans HBI.out)
          have HN8 := Lib.hid (HNI.out.trans hn8)
          clear hb hn8 e0 e1 e2 e3 e4
          by_cases hck : chkK (kdL F0) (qL (uG t F0 i) i) = 0
          · rw [hck]
            have g0 := cell_of_row _ _ 0 _ _ _ HB8.out
            have g1 := cell_of_row _ _ 1 _ _ _ HB8.out
            have g2 := cell_of_row _ _ 2 _ _ _ HB8.out
            have g3 := cell_of_row _ _ 3 _ _ _ HB8.out
            have g4 := cell_of_row _ _ 4 _ _ _ HB8.out
            have HCK := Lib.hid hck
            clear hck
            go_wp2_with fail
            refine bodyPost_ret (by simp [results, Tryz.results12, go_sem, k0, k1, k2, k3, k4]; try rfl) rfl ?_
            exact ⟨.inl ⟨HD.out, .inl ⟨HCK.out, rfl⟩⟩, set5 HN8.out (by exact Nat.le_refl _) _ _ _ _ _⟩
          · have hcb : (chkK (kdL F0) (qL (uG t F0 i) i) != 0) = true := by rw [bne_iff_ne]; exact hck
            have HCK := Lib.hid hck
            clear hck
            go_wp2_with fail
            refine bodyPost_ret (by simp [results, Tryz.results12, go_sem, k0, k1, k2, k3, k4]; try rfl) rfl ?_
            exact ⟨.inl ⟨HD.out, .inr ⟨HCK.out, rfl⟩⟩, set5 HN8.out (by exact Nat.le_refl _) _ _ _ _ _⟩
end Go.Proofs.YtjmnhooenampkaaGreatDoor
namespace Go.Proofs.YtjmnhooenampkaaGreatDoor
open Go Go.RowKit Go.Bv
set_option linter.unusedVariables false
set_option maxRecDepth 100000
theorem rl_any (t F0 : ByteArray) (Gs : List ByteArray) (hp : LnP t F0 Gs) (hsz : t.size ≤ 300) (w : World) :
    Calls Tryz.prog 12 #[.string t] w fun e w' => e = .returned (.tuple #[.agg (stc (lnK t F0 Gs) (lnQ t F0 Gs)), .int .i64 (lnE t F0 Gs)]) ∧ New w w' := by
  by_cases h1 : t.size = 0
  · have hE : lnE t F0 Gs = 3 := by unfold lnE; rw [if_pos h1]
    unfold lnK lnQ
    rw [hE, if_neg (by decide), if_neg (by decide), ← zStc_is]
    exact un_short t h1 w
  by_cases h2 : kdL F0 = 0
  · have hE : lnE t F0 Gs = 6 := by unfold lnE; rw [if_neg h1, if_pos h2]
    unfold lnK lnQ
    rw [hE, if_neg (by decide), if_neg (by decide), ← zStc_is]
    exact un_kind t F0 Gs hp hsz h1 h2 w
  obtain ⟨z1, z2, z3, _, _⟩ := szK_n (kdL_yes h2).1
  have h5 : (¬ Gs.length = nK (kdL F0) ∨ ¬ (∀ g ∈ Gs, (unhex g).isSome = true)) → lnE t F0 Gs = 5 := fun h => by
    unfold lnE
    rw [if_neg h1, if_neg h2]
    rcases h with h | h
    · rw [if_pos h]
    · by_cases h3 : Gs.length = nK (kdL F0)
      · rw [if_neg (not_not_intro h3), if_pos h]
      · rw [if_pos h3]
  by_cases hl : t.size = F0.size + 17 * nK (kdL F0)
  case neg =>
    have hE := h5 (by
      by_cases h3 : Gs.length = nK (kdL F0)
      · refine .inr (fun hu => hl ?_)
        rw [← h3]; exact (hp.right hu).1
      · exact .inl h3)
    unfold lnK lnQ
    rw [hE, if_neg (by decide), if_neg (by decide), ← zStc_is]
    exact un_len t F0 Gs hp hsz h1 h2 _ z1 z2 z3 hl w
  refine (un_words t F0 Gs hp hsz h1 h2 _ z1 z2 z3 hl w).mono ?_
  rintro e w' ⟨hc | hc, hn⟩
  · obtain ⟨hd, hc⟩ := hc
    have hG : Gs = uG t F0 (nK (kdL F0)) := hp.doc hl (fun i hi => (hd i hi).1) (fun i hi => (hd i hi).2)
    have hlen : Gs.length = nK (kdL F0) := by rw [hG]; unfold uG; simp
    have hall : ∀ g ∈ Gs, (unhex g).isSome = true := fun g hg => by
      rw [hG] at hg
      obtain ⟨i, hi, rfl⟩ := List.mem_map.1 hg
      exact (hd i (List.mem_range.1 hi)).2
    have hE : lnE t F0 Gs = chkK (kdL F0) (qL Gs (nK (kdL F0))) := by unfold lnE; rw [if_neg h1, if_neg h2, if_neg (not_not_intro hlen), if_neg (not_not_intro hall)]
    rw [← hG] at hc
    refine ⟨?_, hn⟩
    unfold lnK lnQ
    rcases hc with ⟨h0, rfl⟩ | ⟨h0, rfl⟩
    · rw [hE, h0, if_pos rfl, if_pos rfl]
    · rw [hE, if_neg h0, if_neg h0, ← zStc_is]
  · obtain ⟨hd, rfl⟩ := hc
    have hE := h5 (by
      by_cases h3 : Gs.length = nK (kdL F0)
      · refine .inr (fun hu => hd (fun i hi => ?_))
        obtain ⟨a1, a2⟩ := (hp.right hu).2 i (by omega)
        refine ⟨a1, ?_⟩
        rw [a2, List.getD_eq_getElem?_getD, List.getElem?_eq_getElem (by omega), Option.getD_some]
        exact hu _ (List.getElem_mem _)
      · exact .inl h3)
    unfold lnK lnQ
    rw [hE, if_neg (by decide), if_neg (by decide), ← zStc_is]
    exact ⟨rfl, hn⟩
/-! ## what is read is told as it was -/
theorem hv_lt {c d : Nat} (h : hv c = some d) : d < 16 := by
  unfold hv at h
  by_cases h1 : 48 ≤ c ∧ c ≤ 57
  · rw [if_pos h1] at h; cases h; omega
  · rw [if_neg h1] at h
    by_cases h2 : 97 ≤ c ∧ c ≤ 102
    · rw [if_pos h2] at h; cases h; omega
    · rw [if_neg h2] at h; cases h
theorem hv_inj {c c' d : Nat} (h : hv c = some d) (h' : hv c' = some d) : c = c' := by
  unfold hv at h h'
  by_cases h1 : 48 ≤ c ∧ c ≤ 57 <;> by_cases h2 : 48 ≤ c' ∧ c' ≤ 57
  · rw [if_pos h1] at h; rw [if_pos h2] at h'; cases h; injection h'; omega
  · rw [if_pos h1] at h; rw [if_neg h2] at h'; cases h
    by_cases h3 : 97 ≤ c' ∧ c' ≤ 102
    · rw [if_pos h3] at h'; injection h'; omega
    · rw [if_neg h3] at h'; cases h'
  · rw [if_neg h1] at h; rw [if_pos h2] at h'; cases h'
    by_cases h3 : 97 ≤ c ∧ c ≤ 102
    · rw [if_pos h3] at h; injection h; omega
    · rw [if_neg h3] at h; cases h
  · rw [if_neg h1] at h; rw [if_neg h2] at h'
    by_cases h3 : 97 ≤ c ∧ c ≤ 102 <;> by_cases h4 : 97 ≤ c' ∧ c' ≤ 102
    · rw [if_pos h3] at h; rw [if_pos h4] at h'; cases h; injection h'; omega
    · rw [if_neg h4] at h'; cases h'
    · rw [if_neg h3] at h; cases h
    · rw [if_neg h3] at h; cases h
theorem uhTo_inv (s : ByteArray) : ∀ k (y : BitVec 64), k ≤ 16 → uhTo s k = some y → y.toNat < 16 ^ k ∧ ∀ i, i < k → hv (s.data.toList.getD i 0).toNat = some (y.toNat / 16 ^ (k - 1 - i) % 16)
  | 0, y, _, h => by
    simp only [uhTo] at h
    cases h
    exact ⟨by decide, fun i hi => absurd hi (Nat.not_lt_zero _)⟩
  | k + 1, y, hk, h => by
    simp only [uhTo] at h
    obtain ⟨n, hn, h⟩ := Option.bind_eq_some_iff.1 h
    obtain ⟨d, hd, rfl⟩ := Option.map_eq_some_iff.1 h
    obtain ⟨i1, i2⟩ := uhTo_inv s k n (by omega) hn
    have hd16 := hv_lt hd
    have hp : 16 ^ k ≤ 16 ^ 15 := Nat.pow_le_pow_right (by decide) (by omega)
    have h15 : (16 : Nat) ^ 15 = 1152921504606846976 := by decide
    have hv1 : (n * 16#64 + BitVec.ofNat 64 d).toNat = n.toNat * 16 + d := by
      rw [BitVec.toNat_add, BitVec.toNat_mul, BitVec.toNat_ofNat, BitVec.toNat_ofNat]
      omega
    rw [hv1]
    refine ⟨by rw [Nat.pow_succ]; omega, fun i hi => ?_⟩
    by_cases e : i = k
    · subst e
      rw [hd, Nat.add_sub_cancel, Nat.sub_self, Nat.pow_zero, Nat.div_one]
      congr 1; omega
    · rw [i2 i (by omega), show k + 1 - 1 - i = (k - 1 - i) + 1 by omega, Nat.pow_succ, Nat.mul_comm (16 ^ (k - 1 - i)) 16, ← Nat.div_div_eq_div_mul, show (n.toNat * 16 + d) / 16 = n.toNat by omega]
theorem hex_unhex {s : ByteArray} {x : BitVec 64} (h : unhex s = some x) : hexStr x = s := by
  have h16 := (unhex_no (by rw [h]; rfl)).1
  unfold unhex at h
  rw [if_pos h16] at h
  have hi := (uhTo_inv s 16 x (Nat.le_refl _) h).2
  apply ByteArray.ext
  apply Array.toList_inj.1
  have hl1 : (hexStr x).data.toList.length = 16 := hexStr_size x
  have hl2 : s.data.toList.length = 16 := h16
  apply List.ext_getElem (by rw [hl1, hl2])
  intro i h1 h2
  have hlt : i < 16 := by omega
  have b1 := hv_dig (x >>> (4 * (15 - i)) &&& 15#64) (low15 _)
  rw [← hex_byte x i hlt] at b1
  have b2 := hi i hlt
  have e : (x >>> (4 * (15 - i)) &&& 15#64).toNat = x.toNat / 16 ^ (16 - 1 - i) % 16 := by
    rw [BitVec.toNat_and, BitVec.toNat_ushiftRight, Nat.shiftRight_eq_div_pow, show (15#64).toNat = 2 ^ 4 - 1 from rfl, Nat.and_two_pow_sub_one_eq_mod, Nat.pow_mul]
  rw [e] at b1
  have := hv_inj b1 b2
  rw [List.getD_eq_getElem?_getD, List.getD_eq_getElem?_getD, List.getElem?_eq_getElem h1, List.getElem?_eq_getElem h2, Option.getD_some, Option.getD_some] at this
  exact UInt8.toNat_inj.1 this
theorem wAt_qL (Gs : List ByteArray) (n i : Nat) (hi : i < n) (hn : n ≤ 4) : wAt (qL Gs n) i = wL Gs i := by
  rcases (show i = 0 ∨ i = 1 ∨ i = 2 ∨ i = 3 by omega) with rfl | rfl | rfl | rfl
  · show (if 0 < n then wL Gs 0 else 0#64) = _; rw [if_pos hi]
  · show (if 1 < n then wL Gs 1 else 0#64) = _; rw [if_pos hi]
  · show (if 2 < n then wL Gs 2 else 0#64) = _; rw [if_pos hi]
  · show (if 3 < n then wL Gs 3 else 0#64) = _; rw [if_pos hi]
theorem ln_back {t F0 : ByteArray} {Gs : List ByteArray} (hp : LnP t F0 Gs) (h : lnE t F0 Gs = 0) : chkK (lnK t F0 Gs) (lnQ t F0 Gs) = 0 ∧ tG (lnK t F0 Gs) (lnQ t F0 Gs) (nK (lnK t F0 Gs)) = t := by
  have hk : lnK t F0 Gs = kdL F0 := by unfold lnK; rw [if_pos h]
  have hq : lnQ t F0 Gs = qL Gs (nK (kdL F0)) := by unfold lnQ; rw [if_pos h]
  rw [hk, hq]
  by_cases h1 : t.size = 0
  · unfold lnE at h; rw [if_pos h1] at h; exact absurd h (by decide)
  by_cases h2 : kdL F0 = 0
  · unfold lnE at h; rw [if_neg h1, if_pos h2] at h; exact absurd h (by decide)
  by_cases h3 : Gs.length = nK (kdL F0)
  case neg => unfold lnE at h; rw [if_neg h1, if_neg h2, if_pos h3] at h; exact absurd h (by decide)
  by_cases h4 : ∀ g ∈ Gs, (unhex g).isSome = true
  case neg => unfold lnE at h; rw [if_neg h1, if_neg h2, if_neg (not_not_intro h3), if_pos h4] at h; exact absurd h (by decide)
  unfold lnE at h
  rw [if_neg h1, if_neg h2, if_neg (not_not_intro h3), if_neg (not_not_intro h4)] at h
  refine ⟨h, ?_⟩
  obtain ⟨z1, z2, z3, _, _⟩ := szK_n (kdL_yes h2).1
  apply ByteArray.ext
  apply Array.toList_inj.1
  rw [tG_ln, (kdL_yes h2).2, hp.eq]
  suffices hx : hxL (qL Gs (nK (kdL F0))) (nK (kdL F0)) = Gs by rw [hx]
  unfold hxL
  apply List.ext_getElem
  · simp [h3]
  · intro i a1 a2
    have hi : i < nK (kdL F0) := by omega
    rw [List.getElem_map, List.getElem_range, wAt_qL _ _ _ hi z3]
    unfold wL
    rw [List.getD_eq_getElem?_getD, List.getElem?_eq_getElem a2, Option.getD_some]
    have hs := h4 _ (List.getElem_mem a2)
    obtain ⟨x, hx⟩ := Option.isSome_iff_exists.1 hs
    rw [hx, Option.getD_some]
    exact hex_unhex hx
set_option maxHeartbeats 2000000 in
theorem lines_walk (W : World) (t : ByteArray) (S F L K : Addr) (hs : SenD S F L K W) (hg : EtD 8 45 155 W) (hm : MaxL W) : Calls Tryz.prog 4 #[.string t] W fun e w' => e = .returned (.bool true) ∧ New W w' := by
  have HA := Lib.hid awake17
  by_cases h300 : (300 : Int) < (t.size : Int)
  · clear hs hg hm
    go_enter Tryz.func4, Tryz.ntmps4
    go_wp2_with fail
    refine (HA.out _).mono ?_
    rintro e wA ⟨rfl, hn⟩
    go_wp2
    go_ret
    exact ⟨rfl, hn⟩
  have hsz : t.size ≤ 300 := by omega
  obtain ⟨F0, Gs, hp⟩ := ex_LnP t
  have HU := Lib.hid (fun (w' : World) (h : New W w') => read_any S F L K t F0 Gs hp hsz w' (hs.stay h) (hg.stay h) (hm.stay h))
  have HR := Lib.hid (fun (w' : World) (h : New W w') => rl_any t F0 Gs hp hsz w')
  have HEQ := Lib.hid (fun w => eqSt_selfr w (lnK t F0 Gs) (lnQ t F0 Gs))
  have HB0 := Lib.hid (fun h : lnE t F0 Gs = 0 => ln_back hp h)
  have HK1 := Lib.hid (fun h : ¬ lnE t F0 Gs = 0 => show chkK (lnK t F0 Gs) (lnQ t F0 Gs) ≠ 0 by
    unfold lnK lnQ; rw [if_neg h, if_neg h]; decide)
  clear hs hg hm hp hsz
  obtain ⟨K1, hK1⟩ : ∃ k, lnK t F0 Gs = k := ⟨_, rfl⟩
  obtain ⟨Q1, hQ1⟩ : ∃ q, lnQ t F0 Gs = q := ⟨_, rfl⟩
  obtain ⟨E1, hE1⟩ : ∃ e, lnE t F0 Gs = e := ⟨_, rfl⟩
  rw [hK1, hQ1] at HU HR HEQ HB0 HK1
  rw [hE1] at HU HR HB0 HK1
  clear hK1 hQ1 hE1
  have hee := HEQ.out
  go_enter Tryz.func4, Tryz.ntmps4
  go_wp2_with fail
  refine (HA.out _).mono ?_
  rintro e wA ⟨rfl, hn⟩
  have HNA := Lib.hid hn
  clear hn HA
  go_wp2_with fail
  refine (HU.out _ HNA.out).mono ?_
  rintro e wB ⟨rfl, hn⟩
  obtain ⟨wC, hC, hbC, hnC⟩ := box5 wB (stc K1 Q1)
  have HALC := Lib.hid hC
  have HNC := Lib.hid ((HNA.out.trans hn).trans hnC)
  have HBC := Lib.hid hbC
  clear hC hbC hnC hn
  go_wp2_with fail
  rw [HALC.out]
  refine (HR.out _ HNC.out).mono ?_
  rintro e wD ⟨rfl, hn⟩
  obtain ⟨wE, hE, hbE, hnE⟩ := box5 wD (stc K1 Q1)
  have HALE := Lib.hid hE
  have HND := Lib.hid (HNC.out.trans hn)
  have HNE := Lib.hid ((HNC.out.trans hn).trans hnE)
  have HBE1 := Lib.hid (((hn.trans hnE).block _ (lt_of_block HBC.out)).trans HBC.out)
  have HBE2 := Lib.hid hbE
  have c0 := cell_of_row _ _ 0 _ _ _ HBE1.out
  have c1 := cell_of_row _ _ 1 _ _ _ HBE1.out
  have c2 := cell_of_row _ _ 2 _ _ _ HBE1.out
  have c3 := cell_of_row _ _ 3 _ _ _ HBE1.out
  have c4 := cell_of_row _ _ 4 _ _ _ HBE1.out
  have d0 := cell_of_row _ _ 0 _ _ _ HBE2.out
  have d1 := cell_of_row _ _ 1 _ _ _ HBE2.out
  have d2 := cell_of_row _ _ 2 _ _ _ HBE2.out
  have d3 := cell_of_row _ _ 3 _ _ _ HBE2.out
  have d4 := cell_of_row _ _ 4 _ _ _ HBE2.out
  rw [← HALE.out] at c0 c1 c2 c3 c4 d0 d1 d2 d3 d4
  clear hE hbE hnE hn HALC
  by_cases h0 : E1 = 0
  · subst h0
    obtain ⟨b1, b3⟩ := HB0.out rfl
    have HM := Lib.hid (fun w => line_yes K1 Q1 w b1)
    rw [b3] at HM
    clear b1 b3 HK1 HB0
    go_wp2_with fail
    rw [HALE.out]
    refine (HM.out _).mono ?_
    rintro e wF ⟨rfl, hn⟩
    have HNF := Lib.hid (HNE.out.trans hn)
    clear hn c0 c1 c2 c3 c4 d0 d1 d2 d3 d4
    go_wp2
    go_ret
    exact ⟨rfl, HNF.out⟩
  · have hb : (E1 != 0) = true := by rw [bne_iff_ne]; exact h0
    clear h0 HK1 HB0
    go_wp2_with fail
    rw [HALE.out]
    go_ret
    exact ⟨rfl, HNE.out⟩
theorem GcodeLines_walk (W : World) (a0 : ByteArray) (w0 : a0.size ≤ 140737488351232) (hE : EtD 8 45 155 W) (hS : ∃ S F L K, SenD S F L K W) (hM : MaxL W) :
    Calls Tryz.prog 4 #[.string a0] W fun e w' => e = .returned (.bool true) ∧ Below W.heap.size W w' := by
  obtain ⟨S, F, L, K, hs⟩ := hS
  exact lines_walk W a0 S F L K hs hE hM
end Go.Proofs.YtjmnhooenampkaaGreatDoor
