/- gcode.fromBytes to its end; Unmarshal. -/
import Derived.Test.YtjmnhooenampkaaGreatDoorRdsE
import Derived.Deep.RegionHeld3
namespace Go.Proofs.YtjmnhooenampkaaGreatDoor
open Go.RowKit Go.Bv
set_option linter.unusedVariables false
set_option maxRecDepth 100000
theorem rd_take17 (l : List (BitVec 8)) (n k m : Nat) (h : k + m ≤ n) : rd (l.take n) k m = rd l k m := by
  unfold rd
  apply num_congr
  intro i hi
  rw [List.getD_eq_getElem?_getD, List.getElem?_take, if_pos (by omega), ← List.getD_eq_getElem?_getD]
theorem qd_zero (l : List (BitVec 8)) (k : Int) : stc k (qd17 l 0) = #[.int .i64 k, .int .u64 0, .int .u64 0, .int .u64 0, .int .u64 0] := by
  have e : W64 0#64 = 0 := by decide
  show #[Value.int .i64 k, .int .u64 (W64 0#64), .int .u64 (W64 0#64), .int .u64 (W64 0#64), .int .u64 (W64 0#64)] = _
  rw [e]
theorem qd_set (l : List (BitVec 8)) (k : Int) (i : Nat) (h : i < 4) : (stc k (qd17 l i)).setIfInBounds (1 + i) (.int .u64 (W64 (rd l (2 + 8 * i) 8))) = stc k (qd17 l (i + 1)) := by
  rcases (show i = 0 ∨ i = 1 ∨ i = 2 ∨ i = 3 by omega) with rfl | rfl | rfl | rfl <;> rfl
/-- all blocks of old but one are as they were -/
def Kb17 (W : World) (r : Nat) (w : World) : Prop := W.heap.size ≤ w.heap.size ∧ ∀ j, j < W.heap.size → j ≠ r → w.heap[j]? = W.heap[j]?
theorem Kb17.refl (W : World) (r : Nat) : Kb17 W r W := ⟨Nat.le_refl _, fun _ _ _ => rfl⟩
theorem Kb17.drew {W w : World} {r : Nat} (h : Kb17 W r w) : Kb17 W r w.drew := h
theorem Kb17.new {W w w' : World} {r : Nat} (h : Kb17 W r w) (hn : New w w') : Kb17 W r w' := ⟨Nat.le_trans h.1 hn.le, fun j hj hr => (hn.block j (Nat.lt_of_lt_of_le hj h.1)).trans (h.2 j hj hr)⟩
theorem Kb17.set {W w : World} {r : Nat} (h : Kb17 W r w) (i : Nat) (v : Value) : Kb17 W r (w.setCell ⟨r, i, none⟩ v) := ⟨by simpa using h.1, fun j hj hr => (heap_setCell_other _ _ _ _ hr).trans (h.2 j hj hr)⟩
theorem Kb17.row {W w : World} {r p : Nat} {k : Int} {q : W4} {T : TypeId} (h : Kb17 W r w) (hp : W.heap[p]? = some (.cells (stc k q) T (0, 0))) (hne : p ≠ r) : w.heap[p]? = some (.cells (stc k q) T (0, 0)) := (h.2 p (lt_of_block hp) hne).trans hp
set_option maxHeartbeats 2000000 in
theorem fb_end (k : Int) (m : Nat) (hm : szK k = (m : Int)) (hm4 : m ≤ 4) (a : Option Addr) (n c : Nat) (l : List (BitVec 8)) (w : World) (hn : n = 6 + 8 * m) (hln : l.length = n)
    (HH : ∀ w2, New w w2 → Calls Tryz.prog 31 #[.slice a n c] w2 fun e w3 => e = .returned (.tuple #[.int .i64 k, .nilIface]) ∧ New w2 w3)
    (HF : ∀ w2, New w w2 → Calls Tryz.prog 32 #[.int .i64 (n : Int), .int .i64 (2 + 8 * (m : Int) + 4)] w2 fun e w3 => e = .returned .nilIface ∧ w3 = w2)
    (HO : ∀ w2, New w w2 → Calls Tryz.prog 33 #[.slice a n c] w2 fun e w3 => ∃ a' c', e = .returned (.tuple #[.slice a' (n - 4 : Nat) c', .int .i64 0]) ∧ BRow w3 a' (n - 4) c' (l.take (n - 4)) ∧ New w2 w3) :
    Calls Tryz.prog 16 #[.slice a n c] w fun e w' => e = .returned (.tuple #[.agg (stc k (qd17 l m)), if chkK k (qd17 l m) = 0 then .nilIface else inV sState (refV (chkK k (qd17 l m)))]) ∧ New w w' := by
  obtain ⟨w0, hw0, hb0, hn0⟩ := box5 w zStc
  have HAL := Lib.hid hw0
  have HB := Lib.hid hb0
  have H0 := Lib.hid hn0
  have HW1 : Hid (wrap64 (8 * (m : Int)) = 8 * (m : Int)) := Lib.hid (by unfold wrap64; omega)
  have HW2 : Hid (wrap64 (2 + 8 * (m : Int)) = 2 + 8 * (m : Int)) := Lib.hid (by unfold wrap64; omega)
  have HW3 : Hid (wrap64 (2 + 8 * (m : Int) + 4) = 2 + 8 * (m : Int) + 4) := Lib.hid (by unfold wrap64; omega)
  have HH' := Lib.hid HH
  have HF' := Lib.hid HF
  have HO' := Lib.hid HO
  have HM := Lib.hid hm
  have HCH := Lib.hid (fun w => checked_any k (qd17 l m) w)
  generalize (if chkK k (qd17 l m) = 0 then Value.nilIface else inV sState (refV (chkK k (qd17 l m)))) = V at *
  have hn100 : n ≤ 100 := by omega
  have HNM : Hid (n = 6 + 8 * m ∧ l.length = n) := Lib.hid ⟨hn, hln⟩
  clear hw0 hb0 hn0 HH HF HO hm hn hln
  go_enter Tryz.func16, Tryz.ntmps16
  go_wp2_with fail
  rw [HAL.out]
  refine (HH'.out _ H0.out).mono ?_
  rintro e w1 ⟨rfl, hn1⟩
  have HB1 := Lib.hid ((hn1.block _ (lt_of_block HB.out)).trans HB.out)
  have HN1 := Lib.hid (H0.out.trans hn1)
  clear hn1 HAL HB
  go_wp2_with fail
  refine (size_any k _).mono ?_
  rintro e w2 ⟨rfl, hn2⟩
  rw [HM.out]
  have hw1 := HW1.out
  have hw2 := HW2.out
  have hw3 := HW3.out
  have HB2 := Lib.hid ((hn2.block _ (lt_of_block HB1.out)).trans HB1.out)
  have HN2 := Lib.hid (HN1.out.trans hn2)
  clear hn2 HB1
  go_wp2_with fail
  refine (HF'.out _ HN2.out).mono ?_
  rintro e w3 ⟨rfl, rfl⟩
  clear hw1 hw2 hw3
  go_wp2_with fail
  refine (HO'.out _ HN2.out).mono ?_
  rintro e w4 ⟨a', c', rfl, hrow, hn4⟩
  have HB4 := Lib.hid ((hn4.block _ (lt_of_block HB2.out)).trans HB2.out)
  have HN4 := Lib.hid (HN2.out.trans hn4)
  have HR4 := Lib.hid hrow
  obtain ⟨w5, hw5, hb5, hn5⟩ := box5 w4 #[.int .i64 k, .int .u64 0, .int .u64 0, .int .u64 0, .int .u64 0]
  have HAL5 := Lib.hid hw5
  have HB5 := Lib.hid hb5
  have HN5 := Lib.hid hn5
  clear hn4 HB2 hrow hw5 hb5 hn5
  obtain ⟨p9, hp9⟩ : ∃ p, w4.heap.size = p := ⟨_, rfl⟩
  have HP9 : Hid (w4.heap.size = p9) := Lib.hid hp9
  clear hp9
  go_wp2_with fail
  rw [HAL5.out]
  rw [HP9.out] at HB5 ⊢
  refine (size_any k _).mono ?_
  rintro e w6 ⟨rfl, hn6⟩
  rw [HM.out]
  have HB6 := Lib.hid ((hn6.block _ (lt_of_block HB5.out)).trans HB5.out)
  have HN6 := Lib.hid (HN5.out.trans hn6)
  clear hn6 HAL5 HB5 HN5
  go_wp2_with fail
  go_loopw [52] (fun iv wr => ∃ q : Nat, q ≤ m ∧ iv = .int .i64 (q : Int) ∧ Hid (wr.heap[p9]? = some (.cells (stc k (qd17 l q)) 27 (0, 0))) ∧ Hid (New w4 wr)) (fun iv _ => m - (intOf iv).toNat)
  case atStart => exact ⟨0, Nat.zero_le _, rfl, Lib.hid (by rw [qd_zero]; exact HB6.out), HN6⟩
  case round =>
    obtain ⟨q, hq, rfl, HBQ, HNQ⟩ := hrel
    obtain ⟨wq, hwq⟩ : ∃ z, z = wr := ⟨_, rfl⟩
    rw [← hwq] at HBQ HNQ ⊢
    clear hwq HB6 HN6
    by_cases hlt : (q : Int) < (m : Int)
    · have hq0 : (0 : Int) ≤ (q : Int) := by omega
      have hq4 : (q : Int) < 4 := by omega
      obtain ⟨b, off, rfl, _⟩ := HR4.out.addr (by have := HNM.out.1; omega)
      have HLE : Hid (Calls Tryz.prog 34 #[.slice (some ⟨b, off, none⟩) (n - 4 : Nat) c', .int .i64 (2 + 8 * (q : Int))] wq fun e w' => e = .returned (.tuple #[.int .u64 (W64 (rd l (2 + 8 * q) 8)), .bool true]) ∧ w' = wq) := Lib.hid (by
        have h := le64_yes b off (n - 4) c' (2 + 8 * q) (l.take (n - 4)) wq (HR4.out.stay HNQ.out) (by have := HNM.out.1; omega)
        rw [rd_take17 _ _ _ _ (by have := HNM.out.1; omega), show ((2 + 8 * q : Nat) : Int) = 2 + 8 * (q : Int) by omega] at h
        exact h)
      have HV1 : Hid (wrap64 (8 * (q : Int)) = 8 * (q : Int)) := Lib.hid (by unfold wrap64; omega)
      have HV2 : Hid (wrap64 (2 + 8 * (q : Int)) = 2 + 8 * (q : Int)) := Lib.hid (by unfold wrap64; omega)
      have hv1 := HV1.out
      have hv2 := HV2.out
      go_wp2_with fail
      refine HLE.out.mono ?_
      rintro e w' ⟨rfl, rfl⟩
      clear hv1 hv2
      have f1 := ok_row k (qd17 l q) 27 w' w' p9 HBQ.out (New.refl _) q (by omega)
      have f2 := frozen_of_row _ _ (1 + q) _ _ HBQ.out
      have HS := Lib.hid (heap_setCell_same _ p9 (1 + q) _ _ (.int .u64 (W64 (rd l (2 + 8 * q) 8))) HBQ.out)
      have HQS := Lib.hid (qd_set l k q (by omega))
      have HNS := Lib.hid (HNQ.out.setCell (p := ⟨p9, 1 + q, none⟩) (by show w4.heap.size ≤ p9; rw [HP9.out]; exact Nat.le_refl _) (.int .u64 (W64 (rd l (2 + 8 * q) 8))))
      generalize rd l (2 + 8 * q) 8 = x at *
      go_wp2
      exact ⟨⟨q + 1, by omega, by go_num, Lib.hid (by rw [← HQS.out]; exact HS.out), HNS⟩, by simp [intOf]; omega⟩
    · obtain rfl : q = m := by omega
      have HRB := Lib.hid ((HNQ.out.block _ (lt_of_block HB4.out)).trans HB4.out)
      have HNEQ : Hid (p9 ≠ w.heap.size) := Lib.hid (by have := lt_of_block HB4.out; have := HP9.out; omega)
      have HNF := Lib.hid (HN4.out.trans HNQ.out)
      clear HB4 HR4 HN4 hlt
      go_wp2_with fail
      obtain ⟨r, hr⟩ : ∃ r, w.heap.size = r := ⟨_, rfl⟩
      have HRR : Hid (w.heap.size ≤ r) := Lib.hid (by rw [hr]; exact Nat.le_refl _)
      rw [hr] at HRB HNEQ ⊢
      clear hr
      have SK : Hid (∀ w', Kb17 wq r w' → Kb17 wq r w' ∧ w'.cell? ⟨p9, 0, none⟩ = some (.int .i64 k) ∧ w'.cell? ⟨p9, 1, none⟩ = some (.int .u64 (W64 (qd17 l q).a)) ∧ w'.cell? ⟨p9, 2, none⟩ = some (.int .u64 (W64 (qd17 l q).b)) ∧ w'.cell? ⟨p9, 3, none⟩ = some (.int .u64 (W64 (qd17 l q).c)) ∧ w'.cell? ⟨p9, 4, none⟩ = some (.int .u64 (W64 (qd17 l q).d))) := Lib.hid (fun w' h => ⟨h, cell_of_row _ _ 0 _ _ _ (h.row HBQ.out HNEQ.out), cell_of_row _ _ 1 _ _ _ (h.row HBQ.out HNEQ.out), cell_of_row _ _ 2 _ _ _ (h.row HBQ.out HNEQ.out), cell_of_row _ _ 3 _ _ _ (h.row HBQ.out HNEQ.out), cell_of_row _ _ 4 _ _ _ (h.row HBQ.out HNEQ.out)⟩)
      obtain ⟨_, ce0, ce1, ce2, ce3, ce4⟩ := SK.out wq (Kb17.refl _ _)
      have hkb : Kb17 wq r wq := Kb17.refl _ _
      go_region_held3 (fun w' => Kb17 wq r w' ∧ w'.cell? ⟨p9, 0, none⟩ = some (.int .i64 k) ∧ w'.cell? ⟨p9, 1, none⟩ = some (.int .u64 (W64 (qd17 l q).a)) ∧ w'.cell? ⟨p9, 2, none⟩ = some (.int .u64 (W64 (qd17 l q).b)) ∧ w'.cell? ⟨p9, 3, none⟩ = some (.int .u64 (W64 (qd17 l q).c)) ∧ w'.cell? ⟨p9, 4, none⟩ = some (.int .u64 (W64 (qd17 l q).d)))
        ((refine SK.out _ ?_; repeat (first | with_reducible assumption | with_reducible exact Kb17.refl _ _ | with_reducible refine Kb17.drew ?_ | with_reducible refine Kb17.set ?_ _ _)))
        (first
        | (go_at_call 35
           refine (HCH.out _).mono ?_
           rintro e q1 ⟨rfl, hc1⟩
           have hg1 : New wq q1 := by first | with_reducible exact hc1 | with_reducible exact (New.refl wq).drew.trans hc1
           have hw1 : Kb17 wq r q1 := (Kb17.refl _ _).new hg1
           have hz1 := (hg1.block _ (lt_of_block HRB.out)).trans HRB.out
           have d0 := cell_of_row _ _ 0 _ _ _ hz1
           have d1 := cell_of_row _ _ 1 _ _ _ hz1
           have d2 := cell_of_row _ _ 2 _ _ _ hz1
           have d3 := cell_of_row _ _ 3 _ _ _ hz1
           have d4 := cell_of_row _ _ 4 _ _ _ hz1
           have df := fun i => frozen_of_row _ _ i _ _ hz1
           have HG := Lib.hid (HNF.out.trans hg1)
           clear hz1 hc1 hg1))
      all_goals
        clear SK ce0 ce1 ce2 ce3 ce4
        go_wp2
        refine bodyPost_ret (by simp [results, Tryz.results16, go_sem, d0, d1, d2, d3, d4]; try rfl) rfl ?_
        first | exact ⟨rfl, set5 HG.out HRR.out _ _ _ _ _⟩ | exact ⟨rfl, (set5 HG.out HRR.out _ _ _ _ _).drew⟩
end Go.Proofs.YtjmnhooenampkaaGreatDoor
