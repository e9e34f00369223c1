/- Contracts of layer 20: near. -/
import Derived.Test.YtobmgigmoppkkaaDoorMsB
import Derived.Deep.DeepCutAuto
namespace Go.Proofs.YtobmgigmoppkkaaDoor
open Go.RowKit Go.Bv
set_option linter.unusedVariables false
set_option maxHeartbeats 1000000 in
theorem near_one (x y a d m L q q' : BitVec 64) (j s : Nat) (hs : s < 64) (hm : a * d = m) (hq : lowM m s = q) (hq' : lowM (-m) s = q') (hlt : decide (W64 L ≤ W64 q) = false) (w : World)
    (HG : Hid (∀ w' : World, New w w' → Calls Tryd.prog 23 #[.agg #[.int .u64 (W64 x), .int .u64 (W64 y)]] w' fun e w'' => e = .returned (.tuple #[.int .u64 (W64 d), .int .i64 (s : Int)]) ∧ New w' w''))
    (HL : Hid (∀ w' : World, New w w' → Calls Tryd.prog 25 #[.agg #[.int .u64 (W64 x), .int .u64 (W64 y)], .int .i64 (j : Int)] w' fun e w'' => e = .returned (.int .u64 (W64 L)) ∧ New w' w'')) :
    Calls Tryd.prog 22 #[.agg #[.int .u64 (W64 x), .int .u64 (W64 y)], .int .u64 (W64 a), .int .i64 (j : Int)] w fun e w' => e = .returned (.tuple #[.agg #[.int .u64 (W64 q), .int .u64 0, .int .u64 (W64 (m >>> (64 - s)))], .bool true]) ∧ New w w' := by
  subst hm
  have hw : wrap64 (64 - (s : Int)) = ((64 - s : Nat) : Int) := by unfold wrap64; omega
  have hw2 : IntKind.i64.wrap (64 - (s : Int)) = ((64 - s : Nat) : Int) := by first | (rw [IntKind.wrap_i64]; exact hw) | (simp [IntKind.wrap, IntKind.signed, IntKind.bits]; omega)
  have hx := (two_blocks2 w (.cells #[.int .u64 (W64 x), .int .u64 (W64 y)] 41) (.cells #[.int .u64 0, .int .u64 0, .int .u64 0] 45)).1
  have hz := (two_blocks2 w (.cells #[.int .u64 (W64 x), .int .u64 (W64 y)] 41) (.cells #[.int .u64 0, .int .u64 0, .int .u64 0] 45)).2.1
  have HN := Lib.hid (two_blocks2 w (.cells #[.int .u64 (W64 x), .int .u64 (W64 y)] 41) (.cells #[.int .u64 0, .int .u64 0, .int .u64 0] 45)).2.2
  have hsz : ((w.alloc (.cells #[.int .u64 (W64 x), .int .u64 (W64 y)] 41)).alloc (.cells #[.int .u64 0, .int .u64 0, .int .u64 0] 45)).heap.size = w.heap.size + 1 + 1 := by simp
  obtain ⟨w0, hw0⟩ : ∃ w0, (w.alloc (.cells #[.int .u64 (W64 x), .int .u64 (W64 y)] 41)).alloc (.cells #[.int .u64 0, .int .u64 0, .int .u64 0] 45) = w0 := ⟨_, rfl⟩
  rw [hw0] at HN hx hz hsz
  have HN0 := Lib.hid (New.refl w0)
  have HSZ := Lib.hid hsz
  have HW0 := Lib.hid hw0
  have HX := Lib.hid hx
  have HZ := Lib.hid hz
  have x0 := cell_of_row _ _ 0 _ _ _ hx
  have x1 := cell_of_row _ _ 1 _ _ _ hx
  clear hw0 hx hz hsz
  go_enter Tryd.func22, Tryd.ntmps22
  go_wp2_with (rw [HW0.out])
  refine (HG.out _ HN.out).mono ?_
  rintro e w9 ⟨rfl, hn⟩
  replace HN := Lib.hid (HN.out.trans hn)
  replace HN0 := Lib.hid (HN0.out.trans hn)
  replace HX := Lib.hid ((hn.block _ (lt_of_block HX.out)).trans HX.out)
  replace HZ := Lib.hid ((hn.block _ (lt_of_block HZ.out)).trans HZ.out)
  clear hn x0 x1
  have x0 := cell_of_row _ _ 0 _ _ _ HX.out
  have x1 := cell_of_row _ _ 1 _ _ _ HX.out
  go_wp2_with fail
  refine (HL.out _ HN.out).mono ?_
  rintro e w9 ⟨rfl, hn⟩
  replace HN := Lib.hid (HN.out.trans hn)
  replace HN0 := Lib.hid (HN0.out.trans hn)
  replace HZ := Lib.hid ((hn.block _ (lt_of_block HZ.out)).trans HZ.out)
  clear hn x0 x1
  go_wp2_with fail
  have HLO := Lib.hid (fun w' => low_m (a * d) s w')
  have HLN := Lib.hid (fun w' => low_m (-(a * d)) s w')
  rw [hq] at HLO
  rw [hq'] at HLN
  clear hq hq'
  go_cut [12] (fun u wx => ∃ b, u = .pointer (some ⟨b, 0, none⟩) ∧ w9.heap.size ≤ b ∧ wx.heap[b]? = some (.cells #[.int .u64 (W64 q), .int .u64 0, .int .u64 (W64 ((a * d) >>> (64 - s)))] 45) ∧ New w9 wx)
  case first =>
    go_region_held3 (fun w' => New w9 w')
      ((first | with_reducible assumption | with_reducible exact (New.refl _).drew | with_reducible exact New.drew (by assumption) | with_reducible exact ((New.refl _).alloc _).drew | with_reducible exact (((New.refl _).drew).alloc _).drew | with_reducible exact ((New.refl _).drew).alloc _ | with_reducible exact New.alloc (by assumption) _))
      (first
      | (go_at_call 26
         refine (HLO.out _).mono ?_
         rintro e w4 ⟨rfl, rfl⟩))
    all_goals (
      go_wp2_with fail
      go_meet
      case rel => exact ⟨_, rfl, Nat.le_refl _, heap_alloc_new _ _, ((New.refl _).alloc _).drew⟩)
  case rest =>
    obtain ⟨b, rfl, hb, hbox, hn⟩ := hcut
    have HB := Lib.hid hbox
    have HNE := Lib.hid (show ¬ b = w.heap.size + 1 ∧ ¬ w.heap.size + 1 = b ∧ w.heap.size ≤ b from by have := HSZ.out; have := HN0.out.le; omega)
    replace HN := Lib.hid (HN.out.trans hn)
    replace HZ := Lib.hid ((hn.block _ (lt_of_block HZ.out)).trans HZ.out)
    clear hn hb hbox
    have b0 := cell_of_row _ _ 0 _ _ _ HB.out
    have b1 := cell_of_row _ _ 1 _ _ _ HB.out
    have b2 := cell_of_row _ _ 2 _ _ _ HB.out
    have c0 := cell_of_row _ _ 0 _ _ _ HZ.out
    have c1 := cell_of_row _ _ 1 _ _ _ HZ.out
    have c2 := cell_of_row _ _ 2 _ _ _ HZ.out
    have cf := fun i => frozen_of_row _ _ i _ _ HZ.out
    have bf := fun i => frozen_of_row _ _ i _ _ HB.out
    have hne1 := HNE.out.1
    have hne2 := HNE.out.2.1
    go_wp2
    refine bodyPost_ret (by simp [results, Tryd.results22, go_sem, c0, c1, c2]; try rfl) rfl ?_
    exact ⟨rfl, ((HN.out.setCell (Nat.le_succ _) _).setCell (Nat.le_succ _) _).setCell (Nat.le_succ _) _⟩
set_option maxHeartbeats 1000000 in
theorem near_two (x y a d m L q q' : BitVec 64) (j s : Nat) (hs : s < 64) (hm : a * d = m) (hq : lowM m s = q) (hq' : lowM (-m) s = q') (hlt : decide (W64 L ≤ W64 q) = true) (hlt2 : decide (W64 L ≤ W64 q') = false) (w : World)
    (HG : Hid (∀ w' : World, New w w' → Calls Tryd.prog 23 #[.agg #[.int .u64 (W64 x), .int .u64 (W64 y)]] w' fun e w'' => e = .returned (.tuple #[.int .u64 (W64 d), .int .i64 (s : Int)]) ∧ New w' w''))
    (HL : Hid (∀ w' : World, New w w' → Calls Tryd.prog 25 #[.agg #[.int .u64 (W64 x), .int .u64 (W64 y)], .int .i64 (j : Int)] w' fun e w'' => e = .returned (.int .u64 (W64 L)) ∧ New w' w'')) :
    Calls Tryd.prog 22 #[.agg #[.int .u64 (W64 x), .int .u64 (W64 y)], .int .u64 (W64 a), .int .i64 (j : Int)] w fun e w' => e = .returned (.tuple #[.agg #[.int .u64 (W64 q'), .int .u64 1, .int .u64 (W64 (m >>> (64 - s)))], .bool true]) ∧ New w w' := by
  subst hm
  have hw : wrap64 (64 - (s : Int)) = ((64 - s : Nat) : Int) := by unfold wrap64; omega
  have hw2 : IntKind.i64.wrap (64 - (s : Int)) = ((64 - s : Nat) : Int) := by first | (rw [IntKind.wrap_i64]; exact hw) | (simp [IntKind.wrap, IntKind.signed, IntKind.bits]; omega)
  have hx := (two_blocks2 w (.cells #[.int .u64 (W64 x), .int .u64 (W64 y)] 41) (.cells #[.int .u64 0, .int .u64 0, .int .u64 0] 45)).1
  have hz := (two_blocks2 w (.cells #[.int .u64 (W64 x), .int .u64 (W64 y)] 41) (.cells #[.int .u64 0, .int .u64 0, .int .u64 0] 45)).2.1
  have HN := Lib.hid (two_blocks2 w (.cells #[.int .u64 (W64 x), .int .u64 (W64 y)] 41) (.cells #[.int .u64 0, .int .u64 0, .int .u64 0] 45)).2.2
  have hsz : ((w.alloc (.cells #[.int .u64 (W64 x), .int .u64 (W64 y)] 41)).alloc (.cells #[.int .u64 0, .int .u64 0, .int .u64 0] 45)).heap.size = w.heap.size + 1 + 1 := by simp
  obtain ⟨w0, hw0⟩ : ∃ w0, (w.alloc (.cells #[.int .u64 (W64 x), .int .u64 (W64 y)] 41)).alloc (.cells #[.int .u64 0, .int .u64 0, .int .u64 0] 45) = w0 := ⟨_, rfl⟩
  rw [hw0] at HN hx hz hsz
  have HN0 := Lib.hid (New.refl w0)
  have HSZ := Lib.hid hsz
  have HW0 := Lib.hid hw0
  have HX := Lib.hid hx
  have HZ := Lib.hid hz
  have x0 := cell_of_row _ _ 0 _ _ _ hx
  have x1 := cell_of_row _ _ 1 _ _ _ hx
  clear hw0 hx hz hsz
  go_enter Tryd.func22, Tryd.ntmps22
  go_wp2_with (rw [HW0.out])
  refine (HG.out _ HN.out).mono ?_
  rintro e w9 ⟨rfl, hn⟩
  replace HN := Lib.hid (HN.out.trans hn)
  replace HN0 := Lib.hid (HN0.out.trans hn)
  replace HX := Lib.hid ((hn.block _ (lt_of_block HX.out)).trans HX.out)
  replace HZ := Lib.hid ((hn.block _ (lt_of_block HZ.out)).trans HZ.out)
  clear hn x0 x1
  have x0 := cell_of_row _ _ 0 _ _ _ HX.out
  have x1 := cell_of_row _ _ 1 _ _ _ HX.out
  go_wp2_with fail
  refine (HL.out _ HN.out).mono ?_
  rintro e w9 ⟨rfl, hn⟩
  replace HN := Lib.hid (HN.out.trans hn)
  replace HN0 := Lib.hid (HN0.out.trans hn)
  replace HZ := Lib.hid ((hn.block _ (lt_of_block HZ.out)).trans HZ.out)
  clear hn x0 x1
  go_wp2_with fail
  have HLO := Lib.hid (fun w' => low_m (a * d) s w')
  have HLN := Lib.hid (fun w' => low_m (-(a * d)) s w')
  rw [hq] at HLO
  rw [hq'] at HLN
  clear hq hq'
  go_cut [12] (fun u wx => ∃ b, u = .pointer (some ⟨b, 0, none⟩) ∧ w9.heap.size ≤ b ∧ wx.heap[b]? = some (.cells #[.int .u64 (W64 q), .int .u64 0, .int .u64 (W64 ((a * d) >>> (64 - s)))] 45) ∧ New w9 wx)
  case first =>
    go_region_held3 (fun w' => New w9 w')
      ((first | with_reducible assumption | with_reducible exact (New.refl _).drew | with_reducible exact New.drew (by assumption) | with_reducible exact ((New.refl _).alloc _).drew | with_reducible exact (((New.refl _).drew).alloc _).drew | with_reducible exact ((New.refl _).drew).alloc _ | with_reducible exact New.alloc (by assumption) _))
      (first
      | (go_at_call 26
         refine (HLO.out _).mono ?_
         rintro e w4 ⟨rfl, rfl⟩))
    all_goals (
      go_wp2_with fail
      go_meet
      case rel => exact ⟨_, rfl, Nat.le_refl _, heap_alloc_new _ _, ((New.refl _).alloc _).drew⟩)
  case rest =>
    obtain ⟨b, rfl, hb, hbox, hn⟩ := hcut
    have HB := Lib.hid hbox
    have HNE := Lib.hid (show ¬ b = w.heap.size + 1 ∧ ¬ w.heap.size + 1 = b ∧ w.heap.size ≤ b from by have := HSZ.out; have := HN0.out.le; omega)
    replace HN := Lib.hid (HN.out.trans hn)
    replace HZ := Lib.hid ((hn.block _ (lt_of_block HZ.out)).trans HZ.out)
    clear hn hb hbox
    have b0 := cell_of_row _ _ 0 _ _ _ HB.out
    have b1 := cell_of_row _ _ 1 _ _ _ HB.out
    have b2 := cell_of_row _ _ 2 _ _ _ HB.out
    have c0 := cell_of_row _ _ 0 _ _ _ HZ.out
    have c1 := cell_of_row _ _ 1 _ _ _ HZ.out
    have c2 := cell_of_row _ _ 2 _ _ _ HZ.out
    have cf := fun i => frozen_of_row _ _ i _ _ HZ.out
    have bf := fun i => frozen_of_row _ _ i _ _ HB.out
    have hne1 := HNE.out.1
    have hne2 := HNE.out.2.1
    go_wp2_with fail
    refine (HLN.out _).mono ?_
    rintro e w4 ⟨rfl, rfl⟩
    go_wp2
    refine bodyPost_ret (by simp [results, Tryd.results22, go_sem, c0, c1, c2]; try rfl) rfl ?_
    have hb := HNE.out.2.2
    exact ⟨rfl, ((((HN.out.setCell hb _).setCell hb _).setCell (Nat.le_succ _) _).setCell (Nat.le_succ _) _).setCell (Nat.le_succ _) _⟩
set_option maxHeartbeats 1000000 in
theorem near_no (x y a d m L q q' : BitVec 64) (j s : Nat) (hs : s < 64) (hm : a * d = m) (hq : lowM m s = q) (hq' : lowM (-m) s = q') (hlt : decide (W64 L ≤ W64 q) = true) (hlt2 : decide (W64 L ≤ W64 q') = true) (w : World)
    (HG : Hid (∀ w' : World, New w w' → Calls Tryd.prog 23 #[.agg #[.int .u64 (W64 x), .int .u64 (W64 y)]] w' fun e w'' => e = .returned (.tuple #[.int .u64 (W64 d), .int .i64 (s : Int)]) ∧ New w' w''))
    (HL : Hid (∀ w' : World, New w w' → Calls Tryd.prog 25 #[.agg #[.int .u64 (W64 x), .int .u64 (W64 y)], .int .i64 (j : Int)] w' fun e w'' => e = .returned (.int .u64 (W64 L)) ∧ New w' w'')) :
    Calls Tryd.prog 22 #[.agg #[.int .u64 (W64 x), .int .u64 (W64 y)], .int .u64 (W64 a), .int .i64 (j : Int)] w fun e w' => e = .returned (.tuple #[.agg #[.int .u64 0, .int .u64 0, .int .u64 0], .bool false]) ∧ New w w' := by
  subst hm
  have hw : wrap64 (64 - (s : Int)) = ((64 - s : Nat) : Int) := by unfold wrap64; omega
  have hw2 : IntKind.i64.wrap (64 - (s : Int)) = ((64 - s : Nat) : Int) := by first | (rw [IntKind.wrap_i64]; exact hw) | (simp [IntKind.wrap, IntKind.signed, IntKind.bits]; omega)
  have hx := (two_blocks2 w (.cells #[.int .u64 (W64 x), .int .u64 (W64 y)] 41) (.cells #[.int .u64 0, .int .u64 0, .int .u64 0] 45)).1
  have hz := (two_blocks2 w (.cells #[.int .u64 (W64 x), .int .u64 (W64 y)] 41) (.cells #[.int .u64 0, .int .u64 0, .int .u64 0] 45)).2.1
  have HN := Lib.hid (two_blocks2 w (.cells #[.int .u64 (W64 x), .int .u64 (W64 y)] 41) (.cells #[.int .u64 0, .int .u64 0, .int .u64 0] 45)).2.2
  have hsz : ((w.alloc (.cells #[.int .u64 (W64 x), .int .u64 (W64 y)] 41)).alloc (.cells #[.int .u64 0, .int .u64 0, .int .u64 0] 45)).heap.size = w.heap.size + 1 + 1 := by simp
  obtain ⟨w0, hw0⟩ : ∃ w0, (w.alloc (.cells #[.int .u64 (W64 x), .int .u64 (W64 y)] 41)).alloc (.cells #[.int .u64 0, .int .u64 0, .int .u64 0] 45) = w0 := ⟨_, rfl⟩
  rw [hw0] at HN hx hz hsz
  have HN0 := Lib.hid (New.refl w0)
  have HSZ := Lib.hid hsz
  have HW0 := Lib.hid hw0
  have HX := Lib.hid hx
  have HZ := Lib.hid hz
  have x0 := cell_of_row _ _ 0 _ _ _ hx
  have x1 := cell_of_row _ _ 1 _ _ _ hx
  clear hw0 hx hz hsz
  go_enter Tryd.func22, Tryd.ntmps22
  go_wp2_with (rw [HW0.out])
  refine (HG.out _ HN.out).mono ?_
  rintro e w9 ⟨rfl, hn⟩
  replace HN := Lib.hid (HN.out.trans hn)
  replace HN0 := Lib.hid (HN0.out.trans hn)
  replace HX := Lib.hid ((hn.block _ (lt_of_block HX.out)).trans HX.out)
  replace HZ := Lib.hid ((hn.block _ (lt_of_block HZ.out)).trans HZ.out)
  clear hn x0 x1
  have x0 := cell_of_row _ _ 0 _ _ _ HX.out
  have x1 := cell_of_row _ _ 1 _ _ _ HX.out
  go_wp2_with fail
  refine (HL.out _ HN.out).mono ?_
  rintro e w9 ⟨rfl, hn⟩
  replace HN := Lib.hid (HN.out.trans hn)
  replace HN0 := Lib.hid (HN0.out.trans hn)
  replace HZ := Lib.hid ((hn.block _ (lt_of_block HZ.out)).trans HZ.out)
  clear hn x0 x1
  go_wp2_with fail
  have HLO := Lib.hid (fun w' => low_m (a * d) s w')
  have HLN := Lib.hid (fun w' => low_m (-(a * d)) s w')
  rw [hq] at HLO
  rw [hq'] at HLN
  clear hq hq'
  go_cut [12] (fun u wx => ∃ b, u = .pointer (some ⟨b, 0, none⟩) ∧ w9.heap.size ≤ b ∧ wx.heap[b]? = some (.cells #[.int .u64 (W64 q), .int .u64 0, .int .u64 (W64 ((a * d) >>> (64 - s)))] 45) ∧ New w9 wx)
  case first =>
    go_region_held3 (fun w' => New w9 w')
      ((first | with_reducible assumption | with_reducible exact (New.refl _).drew | with_reducible exact New.drew (by assumption) | with_reducible exact ((New.refl _).alloc _).drew | with_reducible exact (((New.refl _).drew).alloc _).drew | with_reducible exact ((New.refl _).drew).alloc _ | with_reducible exact New.alloc (by assumption) _))
      (first
      | (go_at_call 26
         refine (HLO.out _).mono ?_
         rintro e w4 ⟨rfl, rfl⟩))
    all_goals (
      go_wp2_with fail
      go_meet
      case rel => exact ⟨_, rfl, Nat.le_refl _, heap_alloc_new _ _, ((New.refl _).alloc _).drew⟩)
  case rest =>
    obtain ⟨b, rfl, hb, hbox, hn⟩ := hcut
    have HB := Lib.hid hbox
    have HNE := Lib.hid (show ¬ b = w.heap.size + 1 ∧ ¬ w.heap.size + 1 = b ∧ w.heap.size ≤ b from by have := HSZ.out; have := HN0.out.le; omega)
    replace HN := Lib.hid (HN.out.trans hn)
    replace HZ := Lib.hid ((hn.block _ (lt_of_block HZ.out)).trans HZ.out)
    clear hn hb hbox
    have b0 := cell_of_row _ _ 0 _ _ _ HB.out
    have b1 := cell_of_row _ _ 1 _ _ _ HB.out
    have b2 := cell_of_row _ _ 2 _ _ _ HB.out
    have c0 := cell_of_row _ _ 0 _ _ _ HZ.out
    have c1 := cell_of_row _ _ 1 _ _ _ HZ.out
    have c2 := cell_of_row _ _ 2 _ _ _ HZ.out
    have cf := fun i => frozen_of_row _ _ i _ _ HZ.out
    have bf := fun i => frozen_of_row _ _ i _ _ HB.out
    have hne1 := HNE.out.1
    have hne2 := HNE.out.2.1
    go_wp2_with fail
    refine (HLN.out _).mono ?_
    rintro e w4 ⟨rfl, rfl⟩
    go_wp2
    refine bodyPost_ret (by simp [results, Tryd.results22, go_sem, c0, c1, c2]; try rfl) rfl ?_
    have hb := HNE.out.2.2
    exact ⟨rfl, ((((HN.out.setCell hb _).setCell hb _).setCell (Nat.le_succ _) _).setCell (Nat.le_succ _) _).setCell (Nat.le_succ _) _⟩
end Go.Proofs.YtobmgigmoppkkaaDoor
