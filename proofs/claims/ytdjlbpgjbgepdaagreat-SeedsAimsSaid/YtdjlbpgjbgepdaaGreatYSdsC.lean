import Derived.Test.YtdjlbpgjbgepdaaGreatSdsA
import Derived.Test.YtdjlbpgjbgepdaaGreatSdsB
import Derived.Test.YtdjlbpgjbgepdaaGreatYDrkB
/- Layer 44: what is wrong with a kind, bits and so many words; Whole. -/
namespace Go.Bv
open Go Go.RowKit
theorem one44 : W64 1#64 = 1 := by decide
theorem ones_snoc (x : BitVec 64) (q : Nat) : (List.replicate (q + 1) x).map (fun y => Value.int .u64 (W64 y)) = (List.replicate q x).map (fun y => Value.int .u64 (W64 y)) ++ [.int .u64 (W64 x)] := by
  rw [List.replicate_succ', List.map_append]; rfl
end Go.Bv
namespace Go.Proofs.YtdjlbpgjbgepdaaGreat
open Go.RowKit Go.Bv
set_option linter.unusedVariables false
set_option maxRecDepth 100000
theorem lsF_pos {k : Int} (h : okF k = true) : 1 ≤ lsF k ∧ msF k ≤ 320 := by
  rcases okF_k h with rfl | rfl | rfl | rfl | rfl | rfl | rfl | rfl <;> decide
theorem msF_no {k : Int} (h : okF k = false) : msF k = 0 := by
  have := msF_zero k
  rw [h] at this
  exact eq_of_beq this
theorem msF_ne {k : Int} (h : okF k = true) : (msF k == 0) = false := by rw [msF_zero, h]; rfl
/-- what is wrong with a kind, bits, and so many words -/
def ckS (k b m : Int) : Int := if okF k = false then 6 else if m < lsF k ∨ msF k < m then 1 else chF k b (List.replicate m.toNat 1#64)
theorem row_one44 (w : World) (x : BitVec 64) : QRow (w.alloc (.cells #[.int .u64 (W64 x)] 23)) (some ⟨w.heap.size, 0, none⟩) 1 1 [x] := one_row w x
theorem check_no44 (k b m : Int) (h : okF k = false) (w : World) : Calls Tryz.prog 10 #[.int .i64 k, .int .i64 b, .int .i64 m] w fun e w' => e = .returned (.int .i64 6) ∧ New w w' := by
  have HS := Lib.hid (fun w => size_27 k w)
  rw [msF_no h] at HS
  clear h
  go_enter Tryz.func10, Tryz.ntmps10
  go_wp2_with fail
  refine (HS.out _).mono ?_
  rintro e w1 ⟨rfl, hn⟩
  go_wp2
  go_ret
  exact ⟨rfl, hn⟩
theorem check_len44 (k b m : Int) (h : okF k = true) (h2 : m < lsF k ∨ msF k < m) (w : World) : Calls Tryz.prog 10 #[.int .i64 k, .int .i64 b, .int .i64 m] w fun e w' => e = .returned (.int .i64 1) ∧ New w w' := by
  have HS := Lib.hid (fun w => size_27 k w)
  have hz := msF_ne h
  clear h
  by_cases h1 : m < lsF k
  · have hd1 : decide (m < lsF k) = true := decide_eq_true h1
    clear h1 h2
    go_enter Tryz.func10, Tryz.ntmps10
    go_wp2_with fail
    refine (HS.out _).mono ?_
    rintro e w1 ⟨rfl, hn⟩
    go_wp2
    go_ret
    exact ⟨rfl, hn⟩
  · have hd1 : decide (m < lsF k) = false := decide_eq_false h1
    have hd2 : decide (msF k < m) = true := decide_eq_true (h2.resolve_left h1)
    clear h1 h2
    go_enter Tryz.func10, Tryz.ntmps10
    go_wp2_with fail
    refine (HS.out _).mono ?_
    rintro e w1 ⟨rfl, hn⟩
    go_wp2
    go_ret
    exact ⟨rfl, hn⟩
theorem check_ok44 (k b : Int) (n : Nat) (h : okF k = true) (h1 : ¬ (n : Int) < lsF k) (h2 : ¬ msF k < (n : Int)) (w : World) : Calls Tryz.prog 10 #[.int .i64 k, .int .i64 b, .int .i64 (n : Int)] w fun e w' => e = .returned (.int .i64 (chF k b (List.replicate n 1#64))) ∧ New w w' := by
  have HS := Lib.hid (fun w => size_27 k w)
  have hz := msF_ne h
  have hd1 : decide ((n : Int) < lsF k) = false := decide_eq_false h1
  have hd2 : decide (msF k < (n : Int)) = false := decide_eq_false h2
  obtain ⟨l1, l2⟩ := lsF_pos h
  have HRP := Lib.hid (fun g c w hq => rep_44 1#64 n (by omega) (by omega) g c w hq)
  have HCH := Lib.hid (fun r w hq => check_27 k b (some ⟨r, 0, none⟩) n n (List.replicate n 1#64) w hq)
  generalize chF k b (List.replicate n 1#64) = E at *
  clear h h1 h2 l1 l2
  go_enter Tryz.func10, Tryz.ntmps10
  go_wp2_with fail
  refine (HS.out _).mono ?_
  rintro e w1 ⟨rfl, hn⟩
  have HQ := Lib.hid (row_one44 w1 1#64)
  rw [one44] at HQ
  have HN := Lib.hid (hn.alloc (.cells #[.int .u64 1] 23))
  clear hn
  go_wp2_with fail
  refine (HRP.out _ _ _ HQ.out).mono ?_
  rintro e w2 ⟨⟨r, rfl, hr, hq⟩, hn2⟩
  have HQ2 := Lib.hid hq
  have HN2 := Lib.hid (HN.out.trans hn2)
  clear hq hn2 HQ HN hr
  go_wp2_with fail
  refine (HCH.out _ _ HQ2.out).mono ?_
  rintro e w3 ⟨rfl, hn3⟩
  go_wp2
  go_ret
  exact ⟨rfl, HN2.out.trans hn3⟩
theorem check_44 (k b m : Int) (w : World) : Calls Tryz.prog 10 #[.int .i64 k, .int .i64 b, .int .i64 m] w fun e w' => e = .returned (.int .i64 (ckS k b m)) ∧ New w w' := by
  cases h : okF k
  · rw [show ckS k b m = 6 by unfold ckS; rw [if_pos h]]; exact check_no44 k b m h w
  · by_cases h2 : m < lsF k ∨ msF k < m
    · rw [show ckS k b m = 1 by unfold ckS; rw [if_neg (by rw [h]; decide), if_pos h2]]; exact check_len44 k b m h h2 w
    · have h0 := (lsF_pos h).1
      obtain ⟨n, rfl⟩ : ∃ n : Nat, m = (n : Int) := ⟨m.toNat, by omega⟩
      rw [show ckS k b (n : Int) = chF k b (List.replicate n 1#64) by unfold ckS; rw [if_neg (by rw [h]; decide), if_neg h2]; rfl]
      exact check_ok44 k b n h (fun e => h2 (.inl e)) (fun e => h2 (.inr e)) w
theorem rcheck_no44 (k b m : Int) (h : okF k = false) (w : World) : Calls Tryz.prog 8 #[.int .i64 k, .int .i64 b, .int .i64 m] w fun e w' => e = .returned (.int .i64 6) ∧ New w w' := by
  have HS := Lib.hid (fun w => rmost_27 k w)
  rw [msF_no h] at HS
  clear h
  go_enter Tryz.func8, Tryz.ntmps8
  go_wp2_with fail
  refine (HS.out _).mono ?_
  rintro e w1 ⟨rfl, hn⟩
  go_wp2
  go_ret
  exact ⟨rfl, hn⟩
theorem rcheck_len44 (k b m : Int) (h : okF k = true) (h2 : m < lsF k ∨ msF k < m) (w : World) : Calls Tryz.prog 8 #[.int .i64 k, .int .i64 b, .int .i64 m] w fun e w' => e = .returned (.int .i64 1) ∧ New w w' := by
  have HS := Lib.hid (fun w => rmost_27 k w)
  have HL := Lib.hid (fun w => rleast_27 k w)
  have hz := msF_ne h
  clear h
  by_cases h1 : m < lsF k
  · have hd1 : decide (m < lsF k) = true := decide_eq_true h1
    clear h1 h2
    go_enter Tryz.func8, Tryz.ntmps8
    go_wp2_with fail
    refine (HS.out _).mono ?_
    rintro e w1 ⟨rfl, hn⟩
    go_wp2_with fail
    refine (HL.out _).mono ?_
    rintro e w2 ⟨rfl, hn2⟩
    go_wp2
    go_ret
    exact ⟨rfl, hn.trans hn2⟩
  · have hd1 : decide (m < lsF k) = false := decide_eq_false h1
    have hd2 : decide (msF k < m) = true := decide_eq_true (h2.resolve_left h1)
    clear h1 h2
    go_enter Tryz.func8, Tryz.ntmps8
    go_wp2_with fail
    refine (HS.out _).mono ?_
    rintro e w1 ⟨rfl, hn⟩
    go_wp2_with fail
    refine (HL.out _).mono ?_
    rintro e w2 ⟨rfl, hn2⟩
    go_wp2_with fail
    refine (HS.out _).mono ?_
    rintro e w3 ⟨rfl, hn3⟩
    go_wp2
    go_ret
    exact ⟨rfl, (hn.trans hn2).trans hn3⟩
set_option maxHeartbeats 4000000 in
theorem rcheck_ok44 (k b : Int) (n : Nat) (h : okF k = true) (h1 : ¬ (n : Int) < lsF k) (h2 : ¬ msF k < (n : Int)) (w : World) : Calls Tryz.prog 8 #[.int .i64 k, .int .i64 b, .int .i64 (n : Int)] w fun e w' => e = .returned (.int .i64 (chF k b (List.replicate n 1#64))) ∧ New w w' := by
  obtain ⟨i0, hi, hz0, hz1, hz2⟩ := info_parts info_u64q
  have HS := Lib.hid (fun w => rmost_27 k w)
  have HL := Lib.hid (fun w => rleast_27 k w)
  have hz := msF_ne h
  have hd1 : decide ((n : Int) < lsF k) = false := decide_eq_false h1
  have hd2 : decide (msF k < (n : Int)) = false := decide_eq_false h2
  obtain ⟨l1, l2⟩ := lsF_pos h
  have hn : n ≤ 320 := by omega
  have HCH := Lib.hid (fun a c w hq => rcheck_27 k b a n c (List.replicate n 1#64) w hq)
  generalize chF k b (List.replicate n 1#64) = E at *
  clear h h1 h2 l1 l2
  go_enter Tryz.func8, Tryz.ntmps8
  go_wp2_with fail
  refine (HS.out _).mono ?_
  rintro e w1 ⟨rfl, hn1⟩
  go_wp2_with fail
  refine (HL.out _).mono ?_
  rintro e w2 ⟨rfl, hn2⟩
  go_wp2_with fail
  refine (HS.out _).mono ?_
  rintro e w3 ⟨rfl, hn3⟩
  have HN0 := Lib.hid ((hn1.trans hn2).trans hn3)
  have HB0 := Lib.hid (heap_alloc_new w3 (.cells (sdc k b none 0 0) 37))
  have HNA := Lib.hid ((New.refl w3).alloc (.cells (sdc k b none 0 0) 37))
  clear hn1 hn2 hn3
  go_wp2_with fail
  go_loopw [8] (fun iv wr => ∃ (q : Nat) (a : Option Addr) (c : Nat), q ≤ n ∧ iv = .int .i64 (q : Int) ∧ Hid (wr.heap[w3.heap.size]? = some (.cells (sdc k b a q c) 37 (0, 0))) ∧ wr.ownsRow (w3.heap.size + 1) 23 1 (.slice a q c) q ((List.replicate q 1#64).map fun x => .int .u64 (W64 x)) ∧ Hid (New w3 wr)) (fun iv _ => n - (intOf iv).toNat)
  case atStart => exact ⟨0, none, 0, Nat.zero_le _, rfl, HB0, World.ownsRow_nil _ _ _ 1, HNA⟩
  case round =>
    obtain ⟨q, a, c, hq, rfl, HB, hown, HN⟩ := hrel
    clear HB0 HNA
    have c0 := cell_of_row _ _ 0 _ _ _ HB.out
    have c1 := cell_of_row _ _ 1 _ _ _ HB.out
    have c2 := cell_of_row _ _ 2 _ _ _ HB.out
    by_cases hlt : (q : Int) < (n : Int)
    · have HBA := Lib.hid ((((New.refl wr).alloc (.cells #[.int .u64 1] 23)).block _ (lt_of_block HB.out)).trans HB.out)
      go_wp2_with (at_builtin; refine wpList_append_own _ rfl (.tmp 31) (.tmp 32) 28 rfl (w3.heap.size + 1) 23 i0 (.int .u64 0) 1 8 Tryz.underlying28 hi hz0 hz1 hz2 rfl (by decide) _ q _ rfl (hown.alloc _) ⟨wr.heap.size, 0, none⟩ 1 1 [.int .u64 1] rfl rfl ?c1 ?c2 ?c3 ?c4 ?c5 ?_)
      try (case c1 => exact new_cells_t wr _ _)
      try (case c2 => intro u hu; simp at hu; subst hu; rfl)
      try (case c3 => unfold maxLen; omega)
      try (case c4 => omega)
      try (case c5 => have := HN.out.le; have := lt_of_block HB.out; simp; omega)
      intro v' w4 how hgr _
      have how2 : w4.ownsRow (w3.heap.size + 1) 23 1 v' (q + 1) ((List.replicate (q + 1) 1#64).map fun x => .int .u64 (W64 x)) := by rw [ones_snoc, one44, List.map_replicate]; exact how
      obtain ⟨a', c', rfl, _⟩ := own_len how2
      have HB4 : Hid (w4.heap[w3.heap.size]? = some (.cells (sdc k b a q c) 37 (0, 0))) := Lib.hid ((hgr.block _ (lt_of_block HBA.out) (fun e => by have := own_base hown _ e.symm; omega)).trans HBA.out)
      have HN4 : Hid (New w3 w4) := Lib.hid ((HN.out.alloc _).grown' hgr (fun x e => by have := own_base hown _ e; omega))
      have f2 := frozen_of_row _ _ 2 _ _ HB4.out
      have d2 := cell_of_row _ _ 2 _ _ _ HB4.out
      have HW2 := Lib.hid how2
      clear how hgr how2 c0 c1 c2 hown
      go_wp2
      refine ⟨⟨q + 1, a', c', by omega, by go_num, Lib.hid (heap_setCell_same _ _ 2 _ _ _ HB4.out), ow_far3 HW2.out (fun e => by have := (ow_lt HW2.out _ e).1; simp at this; omega) _, Lib.hid (HN4.out.setCell (by exact Nat.le_refl _) _)⟩, by simp [intOf]; omega⟩
    · obtain rfl : q = n := by omega
      obtain ⟨a', c', e, hqr⟩ := QRow.of_owns hown (by omega)
      cases e
      have HQ := Lib.hid hqr
      clear hqr hown
      go_wp2_with fail
      refine (HCH.out _ _ _ HQ.out).mono ?_
      rintro e w5 ⟨rfl, hn5⟩
      go_wp2
      go_ret
      exact ⟨rfl, (HN0.out.trans HN.out).trans hn5⟩
theorem rcheck_44 (k b m : Int) (w : World) : Calls Tryz.prog 8 #[.int .i64 k, .int .i64 b, .int .i64 m] w fun e w' => e = .returned (.int .i64 (ckS k b m)) ∧ New w w' := by
  cases h : okF k
  · rw [show ckS k b m = 6 by unfold ckS; rw [if_pos h]]; exact rcheck_no44 k b m h w
  · by_cases h2 : m < lsF k ∨ msF k < m
    · rw [show ckS k b m = 1 by unfold ckS; rw [if_neg (by rw [h]; decide), if_pos h2]]; exact rcheck_len44 k b m h h2 w
    · have h0 := (lsF_pos h).1
      obtain ⟨n, rfl⟩ : ∃ n : Nat, m = (n : Int) := ⟨m.toNat, by omega⟩
      rw [show ckS k b (n : Int) = chF k b (List.replicate n 1#64) by unfold ckS; rw [if_neg (by rw [h]; decide), if_neg h2]; rfl]
      exact rcheck_ok44 k b n h (fun e => h2 (.inl e)) (fun e => h2 (.inr e)) w
theorem ckS_ok {k b m : Int} (h : ckS k b m = 0) : okF k = true ∧ ∃ n : Nat, m = (n : Int) ∧ 1 ≤ n ∧ n ≤ 320 ∧ ¬ (n : Int) < lsF k ∧ ¬ msF k < (n : Int) ∧ chF k b (List.replicate n 1#64) = 0 := by
  unfold ckS at h
  cases hk : okF k
  · rw [if_pos hk] at h; cases h
  · rw [if_neg (by rw [hk]; decide)] at h
    by_cases h2 : m < lsF k ∨ msF k < m
    · rw [if_pos h2] at h; cases h
    · rw [if_neg h2] at h
      obtain ⟨l1, l2⟩ := lsF_pos hk
      refine ⟨rfl, m.toNat, by omega, by omega, by omega, by omega, by omega, h⟩
theorem whole_no (k b m E : Int) (hE : ckS k b m = E) (h : (E == 0) = false) (w : World) : Calls Tryz.prog 9 #[.int .i64 k, .int .i64 b, .int .i64 m] w fun e w' => e = .returned (.slice none 0 0) ∧ New w w' := by
  have HC := Lib.hid (fun w => check_44 k b m w)
  rw [hE] at HC
  clear hE
  go_enter Tryz.func9, Tryz.ntmps9
  go_wp2_with fail
  refine (HC.out _).mono ?_
  rintro e w1 ⟨rfl, hn⟩
  go_wp2
  go_ret
  exact ⟨rfl, hn⟩
theorem whole_ok (k b : Int) (n : Nat) (h : ckS k b (n : Int) = 0) (w : World) : Calls Tryz.prog 9 #[.int .i64 k, .int .i64 b, .int .i64 (n : Int)] w fun e w' => (∃ r, e = .returned (.slice (some ⟨r, 0, none⟩) n n) ∧ QRow w' (some ⟨r, 0, none⟩) n n (List.replicate n (lmW k))) ∧ New w w' := by
  obtain ⟨hk, n', e1, h0, h1, _⟩ := ckS_ok h
  obtain rfl : n = n' := by omega
  have HC := Lib.hid (fun w => check_44 k b (n : Int) w)
  rw [h] at HC
  have HL := Lib.hid (fun w => limit_44 k hk w)
  have HRP := Lib.hid (fun g c w hq => rep_44 (lmW k) n h0 (by omega) g c w hq)
  generalize lmW k = lm at *
  clear h hk e1
  go_enter Tryz.func9, Tryz.ntmps9
  go_wp2_with fail
  refine (HC.out _).mono ?_
  rintro e w1 ⟨rfl, hn⟩
  go_wp2_with fail
  refine (HL.out _).mono ?_
  rintro e w2 ⟨rfl, hn2⟩
  have HQ := Lib.hid (row_one44 w2 lm)
  have HN := Lib.hid ((hn.trans hn2).alloc (.cells #[.int .u64 (W64 lm)] 23))
  clear hn hn2
  go_wp2_with fail
  refine (HRP.out _ _ _ HQ.out).mono ?_
  rintro e w3 ⟨⟨r, rfl, hr, hq⟩, hn3⟩
  have HQ2 := Lib.hid hq
  have HN2 := Lib.hid (HN.out.trans hn3)
  clear hq hn3 HQ HN
  go_wp2
  go_ret
  exact ⟨⟨r, rfl, HQ2.out⟩, HN2.out⟩
end Go.Proofs.YtdjlbpgjbgepdaaGreat
