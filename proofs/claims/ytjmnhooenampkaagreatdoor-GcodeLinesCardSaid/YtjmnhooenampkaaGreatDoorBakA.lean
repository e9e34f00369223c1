/- gcode.Read of a right line. -/
import Derived.Test.YtjmnhooenampkaaGreatDoorBakM
import Derived.Test.YtjmnhooenampkaaGreatDoorShelf
namespace Go.Proofs.YtjmnhooenampkaaGreatDoor
open Go Go.RowKit Go.Bv
set_option linter.unusedVariables false
set_option maxRecDepth 100000
/-- so many of a state's words -/
def qp17 (q : W4) (i : Nat) : W4 := ⟨if 0 < i then q.a else 0#64, if 1 < i then q.b else 0#64, if 2 < i then q.c else 0#64, if 3 < i then q.d else 0#64⟩
theorem qp_zero (q : W4) (k : Int) : stc k (qp17 q 0) = #[.int .i64 k, .int .u64 0, .int .u64 0, .int .u64 0, .int .u64 0] := by
  have e : W64 0#64 = 0 := by decide
  show #[Value.int .i64 k, .int .u64 (W64 0#64), .int .u64 (W64 0#64), .int .u64 (W64 0#64), .int .u64 (W64 0#64)] = _
  rw [e]
theorem qp_set (q : W4) (k : Int) (i : Nat) (h : i < 4) : (stc k (qp17 q i)).setIfInBounds (1 + i) (.int .u64 (W64 (wAt q i))) = stc k (qp17 q (i + 1)) := by
  rcases (show i = 0 ∨ i = 1 ∨ i = 2 ∨ i = 3 by omega) with rfl | rfl | rfl | rfl <;> rfl
theorem qp_all (q : W4) (m : Nat) (h : ∀ i, m ≤ i → i < 4 → wAt q i = 0#64) : qp17 q m = q := by
  have hw : ∀ i, i < 4 → (if i < m then wAt q i else 0#64) = wAt q i := fun i hi => by
    by_cases e : i < m
    · rw [if_pos e]
    · rw [if_neg e, h i (by omega) hi]
  have h0 := hw 0 (by omega)
  have h1 := hw 1 (by omega)
  have h2 := hw 2 (by omega)
  have h3 := hw 3 (by omega)
  show W4.mk (if 0 < m then wAt q 0 else 0#64) (if 1 < m then wAt q 1 else 0#64) (if 2 < m then wAt q 2 else 0#64) (if 3 < m then wAt q 3 else 0#64) = q
  rw [h0, h1, h2, h3]
  rfl
theorem nm_ne {j k : Int} (h1 : 1 ≤ j) (h2 : j < k) (h3 : k ≤ 8) : nmK j ≠ nmK k := by
  have hj : j = 1 ∨ j = 2 ∨ j = 3 ∨ j = 4 ∨ j = 5 ∨ j = 6 ∨ j = 7 := by omega
  have hk : k = 2 ∨ k = 3 ∨ k = 4 ∨ k = 5 ∨ k = 6 ∨ k = 7 ∨ k = 8 := by omega
  rcases hj with rfl | rfl | rfl | rfl | rfl | rfl | rfl <;> rcases hk with rfl | rfl | rfl | rfl | rfl | rfl | rfl <;> first | omega | decide
set_option maxHeartbeats 1000000 in
theorem named_ok (k : Int) (hk : okK k = true) (w : World) : Calls Tryz.prog 43 #[.string (nmK k)] w fun e w' => e = .returned (.tuple #[.int .i64 k, .nilIface]) ∧ New w w' := by
  obtain ⟨_, _, _, hk1, hk8⟩ := szK_n hk
  obtain ⟨m, rfl⟩ : ∃ m : Nat, k = (m : Int) := ⟨k.toNat, by omega⟩
  have HNM := Lib.hid (fun (j : Nat) (h1 : 1 ≤ j) (h2 : j < m) => nm_ne (j := (j : Int)) (k := (m : Int)) (by omega) (by omega) hk8)
  clear hk
  generalize hg : nmK (m : Int) = nm at *
  have HG := Lib.hid hg
  clear hg
  go_enter Tryz.func43, Tryz.ntmps43
  go_wp2_with fail
  go_loopw [4] (fun iv wr => ∃ j : Nat, 1 ≤ j ∧ j ≤ m ∧ iv = .int .i64 (j : Int) ∧ Hid (New w wr)) (fun iv _ => m - (intOf iv).toNat)
  case atStart => exact ⟨1, Nat.le_refl _, by omega, rfl, Lib.hid (New.refl _)⟩
  case round =>
    obtain ⟨j, hj1, hjm, rfl, HN⟩ := hrel
    have hj8 : (j : Int) ≤ 8 := by omega
    go_wp2_with fail
    refine (name_any (j : Int) _).mono ?_
    rintro e w1 ⟨rfl, hn1⟩
    have HN1 := Lib.hid (HN.out.trans hn1)
    clear hn1
    by_cases hlt : j = m
    · subst hlt
      rw [HG.out]
      go_wp2
      go_ret2
      exact ⟨rfl, HN1.out⟩
    · have hne := HNM.out j hj1 (by omega)
      have hb : ((nmK (j : Int)).toList == nm.toList) = false := beq_eq_false_iff_ne.2 (fun e => hne (ByteArray.ext (Array.toList_inj.1 (by rw [← Lib.toList_data, ← Lib.toList_data]; exact e))))
      clear hne
      generalize nmK (j : Int) = nj at *
      go_wp2
      exact ⟨⟨j + 1, by omega, by omega, by go_num, HN1⟩, by simp [intOf]; omega⟩
set_option maxHeartbeats 2000000 in
theorem fl_ok (k : Int) (q : W4) (hck : chkK k q = 0) (m5 : Int) (w : World) (hm5 : w.cell? ⟨5, 0, none⟩ = some (.int .i64 m5)) :
    Calls Tryz.prog 24 #[.string (tG k q (nK k))] w fun e w' => e = .returned (.tuple #[.agg (stc k q), .nilIface]) ∧ New w w' := by
  have hk := chk_ok hck
  obtain ⟨z1, z2, z3, z4, z5⟩ := szK_n hk
  obtain ⟨hp1, hp2⟩ := parts_tG k q (nK k)
  have hsz := tG_size k q (nK k)
  have HSP : Hid (∀ w', New w w' → Calls Tryz.prog 42 #[.string (tG k q (nK k)), .string ⟨#[32]⟩] w' fun e w2 => e = .returned (.slice (some ⟨w'.heap.size, 0, none⟩) (nK k + 1) (nK k + 1)) ∧ w2 = w'.alloc (.cells ((nmK k :: hxL q (nK k)).map Value.string).toArray 9)) := Lib.hid (fun w' hn => by
    have h := Tryz.strings_Split (tG k q (nK k)) ⟨#[32]⟩ m5 w' (by omega) ((hn.cell (World.block_lt_of_cell? _ _ hm5)).trans hm5) (by decide)
    rw [hp1, hp2] at h
    exact h)
  have HQN := Lib.hid (fun i h1 h2 => form_zero hck i h1 h2)
  have HCH := Lib.hid (fun w => checked_any k q w)
  rw [hck, if_pos rfl] at HCH
  have HNM := Lib.hid (fun w => named_ok k hk w)
  have hne : (tG k q (nK k)).toList.isEmpty = false := by
    rw [Lib.toList_data]
    have hs : 1 ≤ (tG k q (nK k)).size := by
      obtain ⟨m, hm⟩ : ∃ m, nK k = m + 1 := ⟨nK k - 1, by omega⟩
      rw [hm, tG, ByteArray.size_append, ByteArray.size_append, hexStr_size]
      omega
    rw [List.isEmpty_eq_false_iff]
    intro e
    have : (tG k q (nK k)).data.toList.length = 0 := by rw [e]; rfl
    have h2 : (tG k q (nK k)).data.toList.length = (tG k q (nK k)).size := rfl
    omega
  generalize tG k q (nK k) = t at *
  obtain ⟨m, hm⟩ : ∃ m, nK k = m := ⟨_, rfl⟩
  rw [hm] at HSP HQN z1 z2 z3
  obtain ⟨w0, hw0, hb0, hn0⟩ := box5 w zStc
  have HAL := Lib.hid hw0
  have HB := Lib.hid hb0
  have H0 := Lib.hid hn0
  have HZ := Lib.hid z1
  clear hw0 hb0 hn0 hck hk hm5 hp1 hp2 hsz z1 hm
  go_enter Tryz.func24, Tryz.ntmps24
  go_wp2_with fail
  rw [HAL.out]
  refine (HSP.out _ H0.out).mono ?_
  rintro e w1 ⟨rfl, hw1⟩
  have hb1 := heap_alloc_new w0 (.cells ((nmK k :: hxL q m).map Value.string).toArray 9)
  have hn1 := (New.refl w0).alloc (.cells ((nmK k :: hxL q m).map Value.string).toArray 9)
  rw [← hw1] at hb1 hn1
  have HP1 := Lib.hid hb1
  have HN1 := Lib.hid hn1
  have c0 : w1.cell? ⟨w0.heap.size, 0, none⟩ = some (.string (nmK k)) := cell_of_row _ _ 0 _ _ _ hb1
  obtain ⟨g, hg⟩ : ∃ g, w0.heap.size = g := ⟨_, rfl⟩
  rw [hg] at HP1 c0 ⊢
  clear hw1 hb1 hn1 hg HAL HSP
  go_wp2_with fail
  refine (HNM.out _).mono ?_
  rintro e w2 ⟨rfl, hn2⟩
  have HP2 := Lib.hid ((hn2.block _ (lt_of_block HP1.out)).trans HP1.out)
  have HN2 := Lib.hid (HN1.out.trans hn2)
  clear hn2 c0 HP1 HN1 HNM
  go_wp2_with fail
  refine (size_any k _).mono ?_
  rintro e w3 ⟨rfl, hn3⟩
  rw [HZ.out]
  have HP3 := Lib.hid ((hn3.block _ (lt_of_block HP2.out)).trans HP2.out)
  have HN3 := Lib.hid (HN2.out.trans hn3)
  obtain ⟨w5, hw5, hb5, hn5⟩ := box5 w3 #[.int .i64 k, .int .u64 0, .int .u64 0, .int .u64 0, .int .u64 0]
  have HAL5 := Lib.hid hw5
  have HB5 := Lib.hid hb5
  have HN5 := Lib.hid hn5
  obtain ⟨p9, hp9⟩ : ∃ p, w3.heap.size = p := ⟨_, rfl⟩
  have HP9 : Hid (w3.heap.size = p9) := Lib.hid hp9
  have ha1 : ¬ m + 1 = 1 := by omega
  have ha2 : ¬ m = 0 := by omega
  have ha3 : (1 : Int) ≤ (m : Int) + 1 := by omega
  clear hn3 HP2 HN2 hw5 hb5 hn5 hp9
  go_wp2_with fail
  rw [HAL5.out]
  rw [HP9.out] at HB5 ⊢
  clear HAL5
  go_loopw [46] (fun iv wr => ∃ i : Nat, i ≤ m ∧ iv = .int .i64 (i : Int) ∧ Hid (wr.heap[p9]? = some (.cells (stc k (qp17 q i)) 27 (0, 0))) ∧ Hid (New w3 wr)) (fun iv _ => m - (intOf iv).toNat)
  case atStart => exact ⟨0, Nat.zero_le _, rfl, Lib.hid (by rw [qp_zero]; exact HB5.out), HN5⟩
  case round =>
    obtain ⟨i, hi, rfl, HBQ, HNQ⟩ := hrel
    obtain ⟨wq, hwq⟩ : ∃ z, z = wr := ⟨_, rfl⟩
    rw [← hwq] at HBQ HNQ ⊢
    clear hwq HB5 HN5
    by_cases hlt : (i : Int) < (m : Int)
    · have hi0 : (0 : Int) ≤ (i : Int) := by omega
      have hi4 : (i : Int) < 4 := by omega
      have hrow := (HNQ.out.block _ (lt_of_block HP3.out)).trans HP3.out
      have hcell : wq.cell? ⟨g, 1 + i, none⟩ = some (.string (hexStr (wAt q i))) := by
        rw [cell_of_row _ _ (1 + i) _ _ _ hrow]
        rw [List.getElem?_toArray, List.getElem?_map, Nat.add_comm, List.getElem?_cons_succ]
        unfold hxL
        rw [List.getElem?_map, List.getElem?_range (by omega)]; rfl
      have HUH := Lib.hid (unhex_any (hexStr (wAt q i)) (by rw [hexStr_size]; omega) wq)
      rw [unhex_hex] at HUH
      simp only [Option.getD_some, Option.isSome_some] at HUH
      have HS := Lib.hid (heap_setCell_same _ p9 (1 + i) _ _ (.int .u64 (W64 (wAt q i))) HBQ.out)
      have HQS := Lib.hid (qp_set q k i (by omega))
      have HNS := Lib.hid (HNQ.out.setCell (p := ⟨p9, 1 + i, none⟩) (by show w3.heap.size ≤ p9; rw [HP9.out]; exact Nat.le_refl _) (.int .u64 (W64 (wAt q i))))
      have f1 := ok_row k (qp17 q i) 27 wq wq p9 HBQ.out (New.refl _) i (by omega)
      have f2 := frozen_of_row _ _ (1 + i) _ _ HBQ.out
      generalize wAt q i = x at *
      generalize hexStr x = hx at *
      clear hrow
      go_wp2_with fail
      refine HUH.out.mono ?_
      rintro e w' ⟨rfl, rfl⟩
      go_wp2
      exact ⟨⟨i + 1, by omega, by go_num, Lib.hid (by rw [← HQS.out]; exact HS.out), HNS⟩, by simp [intOf]; omega⟩
    · obtain rfl : i = m := by omega
      have HRB := Lib.hid ((HNQ.out.block _ (lt_of_block ((HN3.out.block _ (lt_of_block HB.out)).trans HB.out))).trans ((HN3.out.block _ (lt_of_block HB.out)).trans HB.out))
      have HNEQ : Hid (p9 ≠ w.heap.size) := Lib.hid (by have := lt_of_block ((HN3.out.block _ (lt_of_block HB.out)).trans HB.out); have := HP9.out; omega)
      have HNF := Lib.hid ((H0.out.trans HN3.out).trans HNQ.out)
      have hqq : qp17 q i = q := qp_all q i HQN.out
      rw [hqq] at HBQ
      clear HB HP3 HN3 hlt hqq HQN
      go_wp2_with fail
      obtain ⟨r, hr⟩ : ∃ r, w.heap.size = r := ⟨_, rfl⟩
      have HRR : Hid (w.heap.size ≤ r) := Lib.hid (by rw [hr]; exact Nat.le_refl _)
      rw [hr] at HRB HNEQ ⊢
      clear hr
      have SK : Hid (∀ w', Kb17 wq r w' → Kb17 wq r w' ∧ w'.cell? ⟨p9, 0, none⟩ = some (.int .i64 k) ∧ w'.cell? ⟨p9, 1, none⟩ = some (.int .u64 (W64 q.a)) ∧ w'.cell? ⟨p9, 2, none⟩ = some (.int .u64 (W64 q.b)) ∧ w'.cell? ⟨p9, 3, none⟩ = some (.int .u64 (W64 q.c)) ∧ w'.cell? ⟨p9, 4, none⟩ = some (.int .u64 (W64 q.d))) := Lib.hid (fun w' h => ⟨h, cell_of_row _ _ 0 _ _ _ (h.row HBQ.out HNEQ.out), cell_of_row _ _ 1 _ _ _ (h.row HBQ.out HNEQ.out), cell_of_row _ _ 2 _ _ _ (h.row HBQ.out HNEQ.out), cell_of_row _ _ 3 _ _ _ (h.row HBQ.out HNEQ.out), cell_of_row _ _ 4 _ _ _ (h.row HBQ.out HNEQ.out)⟩)
      obtain ⟨_, ce0, ce1, ce2, ce3, ce4⟩ := SK.out wq (Kb17.refl _ _)
      have hkb : Kb17 wq r wq := Kb17.refl _ _
      go_region_held3 (fun w' => Kb17 wq r w' ∧ w'.cell? ⟨p9, 0, none⟩ = some (.int .i64 k) ∧ w'.cell? ⟨p9, 1, none⟩ = some (.int .u64 (W64 q.a)) ∧ w'.cell? ⟨p9, 2, none⟩ = some (.int .u64 (W64 q.b)) ∧ w'.cell? ⟨p9, 3, none⟩ = some (.int .u64 (W64 q.c)) ∧ w'.cell? ⟨p9, 4, none⟩ = some (.int .u64 (W64 q.d)))
        ((refine SK.out _ ?_; repeat (first | with_reducible assumption | with_reducible exact Kb17.refl _ _ | with_reducible refine Kb17.drew ?_ | with_reducible refine Kb17.set ?_ _ _)))
        (first
        | (go_at_call 35
           refine (HCH.out _).mono ?_
           rintro e q1 ⟨rfl, hc1⟩
           have hg1 : New wq q1 := by first | with_reducible exact hc1 | with_reducible exact (New.refl wq).drew.trans hc1
           have hw1 : Kb17 wq r q1 := (Kb17.refl _ _).new hg1
           have hz1 := (hg1.block _ (lt_of_block HRB.out)).trans HRB.out
           have d0 := cell_of_row _ _ 0 _ _ _ hz1
           have d1 := cell_of_row _ _ 1 _ _ _ hz1
           have d2 := cell_of_row _ _ 2 _ _ _ hz1
           have d3 := cell_of_row _ _ 3 _ _ _ hz1
           have d4 := cell_of_row _ _ 4 _ _ _ hz1
           have df := fun i => frozen_of_row _ _ i _ _ hz1
           have HG := Lib.hid (HNF.out.trans hg1)
           clear hz1 hc1 hg1))
      all_goals
        clear SK ce0 ce1 ce2 ce3 ce4
        go_wp2
        refine bodyPost_ret (by simp [results, Tryz.results24, go_sem, d0, d1, d2, d3, d4]; try rfl) rfl ?_
        first | exact ⟨rfl, set5 HG.out HRR.out _ _ _ _ _⟩ | exact ⟨rfl, (set5 HG.out HRR.out _ _ _ _ _).drew⟩
end Go.Proofs.YtjmnhooenampkaaGreatDoor
