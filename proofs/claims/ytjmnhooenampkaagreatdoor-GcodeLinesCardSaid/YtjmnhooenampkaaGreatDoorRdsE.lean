/- gcode.head, fits, checked, told. -/
import Derived.Test.YtjmnhooenampkaaGreatDoorRdsD
import Derived.Test.YtjmnhooenampkaaGreatDoorRdsM
import Derived.BigQuiet
import Derived.Handy
namespace Go.Proofs.YtjmnhooenampkaaGreatDoor
open Go.RowKit Go.Bv
set_option linter.unusedVariables false
set_option maxRecDepth 100000
theorem head_short (S F L K : Addr) (a : Option Addr) (n c : Nat) (l : List (BitVec 8)) (w : World) (hl : BRow w a n c l) (hs : SenD S F L K w) (hn : n < 2) : Calls Tryz.prog 31 #[.slice a n c] w fun e w' => e = .returned (.tuple #[.int .i64 0, senV S]) ∧ New w w' := by
  have g0 := hs.s
  clear hl hs
  rcases (show n = 0 ∨ n = 1 by omega) with rfl | rfl
  · go_enter Tryz.func31, Tryz.ntmps31
    go_wp2
    go_quiet (fail)
    go_wp2
    go_ret2
    exact ⟨rfl, (New.refl w).drewN nq⟩
  · go_enter Tryz.func31, Tryz.ntmps31
    go_wp2
    go_quiet (fail)
    go_wp2
    go_ret2
    exact ⟨rfl, (New.refl w).drewN nq⟩
theorem head_form (S F L K : Addr) (a : Option Addr) (n c : Nat) (l : List (BitVec 8)) (w : World) (hl : BRow w a n c l) (hs : SenD S F L K w) (hn : 2 ≤ n) (h0 : ¬ l.getD 0 0 = 103#8) : Calls Tryz.prog 31 #[.slice a n c] w fun e w' => e = .returned (.tuple #[.int .i64 0, senV F]) ∧ New w w' := by
  have g0 := hs.f
  obtain ⟨b, off, rfl, hc⟩ := hl.addr (by omega)
  have c0 := hc 0 (by omega)
  rw [Nat.add_zero] at c0
  have hb : (W8 (l.getD 0 0) != 103) = true := by
    rw [bne_iff_ne]
    intro e
    exact h0 (W8_inj.1 (e.trans (by decide : (103 : Int) = W8 103#8)))
  have z0 : ¬ n = 0 := by omega
  have z1 : ¬ n = 1 := by omega
  have z2 : 0 < n := by omega
  clear hl hs hc h0
  generalize l.getD 0 0 = x at *
  go_enter Tryz.func31, Tryz.ntmps31
  go_wp2
  go_quiet (fail)
  go_wp2
  go_ret2
  exact ⟨rfl, (New.refl w).drewN nq⟩
theorem head_kind (S F L K : Addr) (a : Option Addr) (n c : Nat) (l : List (BitVec 8)) (w : World) (hl : BRow w a n c l) (hs : SenD S F L K w) (hn : 2 ≤ n) (h0 : l.getD 0 0 = 103#8) (hk : okK (kd17 l) = false) : Calls Tryz.prog 31 #[.slice a n c] w fun e w' => e = .returned (.tuple #[.int .i64 0, senV K]) ∧ New w w' := by
  obtain ⟨b, off, rfl, hc⟩ := hl.addr (by omega)
  have c0 := hc 0 (by omega)
  rw [Nat.add_zero, h0] at c0
  have c1 := hc 1 (by omega)
  have HZ := Lib.hid (fun w => size_any (kd17 l) w)
  have hz : szK (kd17 l) = 0 := by
    unfold okK at hk
    have hk' : ¬ (1 ≤ kd17 l ∧ kd17 l ≤ 8) := by simpa using hk
    unfold szK
    rw [if_neg (by omega), if_neg (by omega), if_neg (by omega)]
  rw [hz] at HZ
  have e1 : kd17 l = W8 (l.getD 1 0) := rfl
  rw [e1] at HZ
  have HS := Lib.hid hs
  have z0 : ¬ n = 0 := by omega
  have z1 : ¬ n = 1 := by omega
  have z2 : 0 < n := by omega
  have z3 : 1 < n := by omega
  clear hl hs hc h0 hk hz e1
  generalize l.getD 1 0 = x at *
  go_enter Tryz.func31, Tryz.ntmps31
  go_wp2_with fail
  refine (HZ.out _).mono ?_
  rintro e w1 ⟨rfl, hn1⟩
  have g0 := (HS.out.stay hn1).k
  have HN := Lib.hid hn1
  clear hn1 c0 c1
  go_wp2_with fail
  go_quiet (fail)
  go_wp2
  go_ret2
  exact ⟨rfl, HN.out.drewN nq⟩
theorem head_ok (S F L K : Addr) (a : Option Addr) (n c : Nat) (l : List (BitVec 8)) (w : World) (hl : BRow w a n c l) (hs : SenD S F L K w) (hn : 2 ≤ n) (h0 : l.getD 0 0 = 103#8) (hk : okK (kd17 l) = true) : Calls Tryz.prog 31 #[.slice a n c] w fun e w' => e = .returned (.tuple #[.int .i64 (kd17 l), .nilIface]) ∧ New w w' := by
  obtain ⟨b, off, rfl, hc⟩ := hl.addr (by omega)
  have c0 := hc 0 (by omega)
  rw [Nat.add_zero, h0] at c0
  have c1 := hc 1 (by omega)
  have HZ := Lib.hid (fun w => size_any (kd17 l) w)
  obtain ⟨hz, hz1, _⟩ := szK_n hk
  have hz2 : (szK (kd17 l) == 0) = false := beq_eq_false_iff_ne.2 (by omega)
  have e1 : kd17 l = W8 (l.getD 1 0) := rfl
  rw [e1] at HZ hz2 ⊢
  have z0 : ¬ n = 0 := by omega
  have z1 : ¬ n = 1 := by omega
  have z2 : 0 < n := by omega
  have z3 : 1 < n := by omega
  clear hl hs hc h0 hk hz hz1 e1
  generalize l.getD 1 0 = x at *
  go_enter Tryz.func31, Tryz.ntmps31
  go_wp2_with fail
  refine (HZ.out _).mono ?_
  rintro e w1 ⟨rfl, hn1⟩
  generalize szK (W8 x) = sz at *
  clear c0 c1 HZ
  go_wp2
  go_ret2
  exact ⟨rfl, hn1⟩
theorem fits_less (S F L K : Addr) (x y : Int) (w : World) (hs : SenD S F L K w) (h : x < y) : Calls Tryz.prog 32 #[.int .i64 x, .int .i64 y] w fun e w' => e = .returned (senV S) ∧ w' = w := by
  have g0 := hs.s
  clear hs
  go_enter Tryz.func32, Tryz.ntmps32
  go_wp2
  go_ret
  exact ⟨rfl, rfl⟩
theorem fits_more (S F L K : Addr) (x y : Int) (w : World) (hs : SenD S F L K w) (h : y < x) : Calls Tryz.prog 32 #[.int .i64 x, .int .i64 y] w fun e w' => e = .returned (senV L) ∧ w' = w := by
  have g0 := hs.l
  have h2 : ¬ x < y := by omega
  clear hs
  go_enter Tryz.func32, Tryz.ntmps32
  go_wp2
  go_ret
  exact ⟨rfl, rfl⟩
theorem fits_yes (x : Int) (w : World) : Calls Tryz.prog 32 #[.int .i64 x, .int .i64 x] w fun e w' => e = .returned .nilIface ∧ w' = w := by
  go_enter Tryz.func32, Tryz.ntmps32
  go_wp2
  go_ret
  exact ⟨rfl, rfl⟩
abbrev sState : ByteArray := ⟨#[115, 116, 97, 116, 101]⟩
theorem checked_any (k : Int) (q : W4) (w : World) : Calls Tryz.prog 35 #[.agg (stc k q)] w fun e w' => e = .returned (if chkK k q = 0 then .nilIface else inV sState (refV (chkK k q))) ∧ New w w' := by
  have HC := Lib.hid (fun w => check_any k q w)
  by_cases h : chkK k q = 0
  · rw [if_pos h]
    rw [h] at HC
    clear h
    go_enter Tryz.func35, Tryz.ntmps35
    go_wp2_with fail
    refine (HC.out _).mono ?_
    rintro e w1 ⟨rfl, hn1⟩
    have HN := Lib.hid (((New.refl w).alloc (.cells (stc k q) 27)).trans hn1)
    clear hn1
    go_wp2
    go_ret
    exact ⟨rfl, HN.out⟩
  · rw [if_neg h]
    have hb : (chkK k q != 0) = true := by rw [bne_iff_ne]; exact h
    clear h
    generalize chkK k q = ck at *
    go_enter Tryz.func35, Tryz.ntmps35
    go_wp2_with fail
    refine (HC.out _).mono ?_
    rintro e w1 ⟨rfl, hn1⟩
    have HN := Lib.hid (((New.refl w).alloc (.cells (stc k q) 27)).trans hn1)
    clear hn1
    go_wp2
    go_ret
    exact ⟨rfl, HN.out⟩
def zW4 : W4 := ⟨0#64, 0#64, 0#64, 0#64⟩
/-- the empty state -/
abbrev zStc : Array Value := #[.int .i64 0, .int .u64 0, .int .u64 0, .int .u64 0, .int .u64 0]
theorem zStc_is : zStc = stc 0 zW4 := by
  have e : W64 0#64 = 0 := by decide
  show zStc = #[.int .i64 0, .int .u64 (W64 0#64), .int .u64 (W64 0#64), .int .u64 (W64 0#64), .int .u64 (W64 0#64)]
  rw [e]
set_option maxHeartbeats 1000000 in
theorem told_nil (k : Int) (q : W4) (w : World) : Calls Tryz.prog 15 #[.agg (stc k q), .nilIface] w fun e w' => e = .returned (.tuple #[.agg (stc k q), .int .i64 0]) ∧ New w w' := by
  go_enter Tryz.func15, Tryz.ntmps15
  go_wp2
  go_returns
  exact ⟨rfl, ((New.refl w).alloc _).alloc _⟩
theorem box5 (w : World) (cs : Array Value) : ∃ w2, w.alloc (.cells cs 27) = w2 ∧ w2.heap[w.heap.size]? = some (.cells cs 27 (0, 0)) ∧ New w w2 := ⟨_, rfl, heap_alloc_new w _, (New.refl w).alloc _⟩
theorem set5 {W w : World} {q : Nat} (h : New W w) (hq : W.heap.size ≤ q) (x0 x1 x2 x3 x4 : Value) : New W (((((w.setCell ⟨q, 0, none⟩ x0).setCell ⟨q, 1, none⟩ x1).setCell ⟨q, 2, none⟩ x2).setCell ⟨q, 3, none⟩ x3).setCell ⟨q, 4, none⟩ x4) := ((((h.setCell (by exact hq) _).setCell (by exact hq) _).setCell (by exact hq) _).setCell (by exact hq) _).setCell (by exact hq) _
set_option maxHeartbeats 1000000 in
theorem told_err (k : Int) (q : W4) (t : TypeId) (v : Value) (c : Int) (w : World) (HN : ∀ w', New w w' → Calls Tryz.prog 30 #[.iface t v] w' fun e w2 => e = .returned (.int .i64 c) ∧ New w' w2) : Calls Tryz.prog 15 #[.agg (stc k q), .iface t v] w fun e w' => e = .returned (.tuple #[.agg zStc, .int .i64 c]) ∧ New w w' := by
  have hn0 := (New.refl w).alloc (.cells (stc k q) 27)
  have hn1 := hn0.alloc (.cells zStc 27)
  have hsz : (w.alloc (.cells (stc k q) 27)).heap.size = w.heap.size + 1 := by simp
  have hb := heap_alloc_new (w.alloc (.cells (stc k q) 27)) (.cells zStc 27)
  rw [hsz] at hb
  have HB := Lib.hid hb
  have H0 := Lib.hid hn1
  have HNN := Lib.hid (HN _ hn1)
  clear hn0 hn1 hsz hb HN
  go_enter Tryz.func15, Tryz.ntmps15
  go_wp2_with fail
  refine HNN.out.mono ?_
  rintro e w1 ⟨rfl, hn⟩
  have hb := (hn.block _ (lt_of_block HB.out)).trans HB.out
  have k0 := cell_of_row _ _ 0 _ _ _ hb
  have k1 := cell_of_row _ _ 1 _ _ _ hb
  have k2 := cell_of_row _ _ 2 _ _ _ hb
  have k3 := cell_of_row _ _ 3 _ _ _ hb
  have k4 := cell_of_row _ _ 4 _ _ _ hb
  have kf := fun i => frozen_of_row _ _ i _ _ hb
  have HN := Lib.hid (H0.out.trans hn)
  clear hb hn HNN
  go_wp2_with fail
  refine bodyPost_ret (by simp [results, Tryz.results15, go_sem, k0, k1, k2, k3, k4]; try rfl) rfl ?_
  exact ⟨rfl, set5 HN.out (by exact Nat.le_succ _) _ _ _ _ _⟩
abbrev sHead : ByteArray := ⟨#[104, 101, 97, 100]⟩
abbrev sLen : ByteArray := ⟨#[108, 101, 110, 103, 116, 104]⟩
abbrev sSum : ByteArray := ⟨#[99, 104, 101, 99, 107, 115, 117, 109]⟩
set_option maxHeartbeats 1000000 in
theorem fb_head (a : Option Addr) (n c : Nat) (w : World) (hn : n ≤ 140737488355328) (x : Addr) (HH : ∀ w2, New w w2 → Calls Tryz.prog 31 #[.slice a n c] w2 fun e w3 => e = .returned (.tuple #[.int .i64 0, senV x]) ∧ New w2 w3) : Calls Tryz.prog 16 #[.slice a n c] w fun e w' => e = .returned (.tuple #[.agg zStc, inV sHead (senV x)]) ∧ New w w' := by
  obtain ⟨w0, hw0, hb0, hn0⟩ := box5 w zStc
  have HAL := Lib.hid hw0
  have HB := Lib.hid hb0
  have H0 := Lib.hid hn0
  have HH' := Lib.hid HH
  clear hw0 hb0 hn0 HH
  go_enter Tryz.func16, Tryz.ntmps16
  go_wp2_with fail
  rw [HAL.out]
  refine (HH'.out _ H0.out).mono ?_
  rintro e w1 ⟨rfl, hn1⟩
  have hb := (hn1.block _ (lt_of_block HB.out)).trans HB.out
  have HN := Lib.hid (H0.out.trans hn1)
  clear hn1 HAL HB
  have k0 := cell_of_row _ _ 0 _ _ _ hb
  have k1 := cell_of_row _ _ 1 _ _ _ hb
  have k2 := cell_of_row _ _ 2 _ _ _ hb
  have k3 := cell_of_row _ _ 3 _ _ _ hb
  have k4 := cell_of_row _ _ 4 _ _ _ hb
  have kf := fun i => frozen_of_row _ _ i _ _ hb
  clear hb
  go_wp2_with fail
  refine bodyPost_ret (by simp [results, Tryz.results16, go_sem, k0, k1, k2, k3, k4]; try rfl) rfl ?_
  exact ⟨rfl, set5 HN.out (by exact Nat.le_refl _) _ _ _ _ _⟩

set_option maxHeartbeats 1000000 in
theorem fb_len (a : Option Addr) (n c : Nat) (w : World) (hn : n ≤ 140737488355328) (k s : Int) (hm : szK k = s) (hs0 : 0 ≤ s) (hs4 : s ≤ 4) (x : Addr) (HH : ∀ w2, New w w2 → Calls Tryz.prog 31 #[.slice a n c] w2 fun e w3 => e = .returned (.tuple #[.int .i64 k, .nilIface]) ∧ New w2 w3) (HF : ∀ w2, New w w2 → Calls Tryz.prog 32 #[.int .i64 (n : Int), .int .i64 (2 + 8 * s + 4)] w2 fun e w3 => e = .returned (senV x) ∧ w3 = w2) : Calls Tryz.prog 16 #[.slice a n c] w fun e w' => e = .returned (.tuple #[.agg zStc, inV sLen (senV x)]) ∧ New w w' := by
  obtain ⟨w0, hw0, hb0, hn0⟩ := box5 w zStc
  have HAL := Lib.hid hw0
  have HB := Lib.hid hb0
  have H0 := Lib.hid hn0
  have HW1 : Hid (wrap64 (8 * s) = 8 * s) := Lib.hid (by unfold wrap64; omega)
  have HW2 : Hid (wrap64 (2 + 8 * s) = 2 + 8 * s) := Lib.hid (by unfold wrap64; omega)
  have HW3 : Hid (wrap64 (2 + 8 * s + 4) = 2 + 8 * s + 4) := Lib.hid (by unfold wrap64; omega)
  have HH' := Lib.hid HH
  have HF' := Lib.hid HF
  clear hw0 hb0 hn0 HH HF
  go_enter Tryz.func16, Tryz.ntmps16
  go_wp2_with fail
  rw [HAL.out]
  refine (HH'.out _ H0.out).mono ?_
  rintro e w1 ⟨rfl, hn1⟩
  have HB1 := Lib.hid ((hn1.block _ (lt_of_block HB.out)).trans HB.out)
  have HN1 := Lib.hid (H0.out.trans hn1)
  clear hn1 HAL HB
  go_wp2_with fail
  refine (size_any k _).mono ?_
  rintro e w2 ⟨rfl, hn2⟩
  rw [hm]
  have hw1 := HW1.out
  have hw2 := HW2.out
  have hw3 := HW3.out
  have HB2 := Lib.hid ((hn2.block _ (lt_of_block HB1.out)).trans HB1.out)
  have HN2 := Lib.hid (HN1.out.trans hn2)
  clear hn2 HB1
  go_wp2_with fail
  refine (HF'.out _ HN2.out).mono ?_
  rintro e w3 ⟨rfl, rfl⟩
  clear hw1 hw2 hw3
  have hb := HB2.out
  have HN := HN2
  have k0 := cell_of_row _ _ 0 _ _ _ hb
  have k1 := cell_of_row _ _ 1 _ _ _ hb
  have k2 := cell_of_row _ _ 2 _ _ _ hb
  have k3 := cell_of_row _ _ 3 _ _ _ hb
  have k4 := cell_of_row _ _ 4 _ _ _ hb
  have kf := fun i => frozen_of_row _ _ i _ _ hb
  clear hb
  go_wp2_with fail
  refine bodyPost_ret (by simp [results, Tryz.results16, go_sem, k0, k1, k2, k3, k4]; try rfl) rfl ?_
  exact ⟨rfl, set5 HN.out (by exact Nat.le_refl _) _ _ _ _ _⟩

set_option maxHeartbeats 1000000 in
theorem fb_sum (a : Option Addr) (n c : Nat) (w : World) (hn : n ≤ 140737488355328) (k s : Int) (hm : szK k = s) (hs0 : 0 ≤ s) (hs4 : s ≤ 4) (HH : ∀ w2, New w w2 → Calls Tryz.prog 31 #[.slice a n c] w2 fun e w3 => e = .returned (.tuple #[.int .i64 k, .nilIface]) ∧ New w2 w3) (HF : ∀ w2, New w w2 → Calls Tryz.prog 32 #[.int .i64 (n : Int), .int .i64 (2 + 8 * s + 4)] w2 fun e w3 => e = .returned .nilIface ∧ w3 = w2) (HO : ∀ w2, New w w2 → Calls Tryz.prog 33 #[.slice a n c] w2 fun e w3 => e = .returned (.tuple #[.slice none 0 0, .int .i64 14]) ∧ New w2 w3) : Calls Tryz.prog 16 #[.slice a n c] w fun e w' => e = .returned (.tuple #[.agg zStc, inV sSum (refV 14)]) ∧ New w w' := by
  obtain ⟨w0, hw0, hb0, hn0⟩ := box5 w zStc
  have HAL := Lib.hid hw0
  have HB := Lib.hid hb0
  have H0 := Lib.hid hn0
  have HW1 : Hid (wrap64 (8 * s) = 8 * s) := Lib.hid (by unfold wrap64; omega)
  have HW2 : Hid (wrap64 (2 + 8 * s) = 2 + 8 * s) := Lib.hid (by unfold wrap64; omega)
  have HW3 : Hid (wrap64 (2 + 8 * s + 4) = 2 + 8 * s + 4) := Lib.hid (by unfold wrap64; omega)
  have HH' := Lib.hid HH
  have HF' := Lib.hid HF
  have HO' := Lib.hid HO
  clear hw0 hb0 hn0 HH HF HO
  go_enter Tryz.func16, Tryz.ntmps16
  go_wp2_with fail
  rw [HAL.out]
  refine (HH'.out _ H0.out).mono ?_
  rintro e w1 ⟨rfl, hn1⟩
  have HB1 := Lib.hid ((hn1.block _ (lt_of_block HB.out)).trans HB.out)
  have HN1 := Lib.hid (H0.out.trans hn1)
  clear hn1 HAL HB
  go_wp2_with fail
  refine (size_any k _).mono ?_
  rintro e w2 ⟨rfl, hn2⟩
  rw [hm]
  have hw1 := HW1.out
  have hw2 := HW2.out
  have hw3 := HW3.out
  have HB2 := Lib.hid ((hn2.block _ (lt_of_block HB1.out)).trans HB1.out)
  have HN2 := Lib.hid (HN1.out.trans hn2)
  clear hn2 HB1
  go_wp2_with fail
  refine (HF'.out _ HN2.out).mono ?_
  rintro e w3 ⟨rfl, rfl⟩
  clear hw1 hw2 hw3
  go_wp2_with fail
  refine (HO'.out _ HN2.out).mono ?_
  rintro e w4 ⟨rfl, hn4⟩
  have hb := (hn4.block _ (lt_of_block HB2.out)).trans HB2.out
  have HN := Lib.hid (HN2.out.trans hn4)
  clear hn4 HB2
  have k0 := cell_of_row _ _ 0 _ _ _ hb
  have k1 := cell_of_row _ _ 1 _ _ _ hb
  have k2 := cell_of_row _ _ 2 _ _ _ hb
  have k3 := cell_of_row _ _ 3 _ _ _ hb
  have k4 := cell_of_row _ _ 4 _ _ _ hb
  have kf := fun i => frozen_of_row _ _ i _ _ hb
  clear hb
  go_wp2_with fail
  refine bodyPost_ret (by simp [results, Tryz.results16, go_sem, k0, k1, k2, k3, k4]; try rfl) rfl ?_
  exact ⟨rfl, set5 HN.out (by exact Nat.le_refl _) _ _ _ _ _⟩

end Go.Proofs.YtjmnhooenampkaaGreatDoor
