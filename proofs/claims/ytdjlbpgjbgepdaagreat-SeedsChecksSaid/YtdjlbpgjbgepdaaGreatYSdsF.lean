import Derived.Test.YtdjlbpgjbgepdaaGreatYSdsE
/- Layer 44: Take of any kind; the example; the law SeedsChecks. -/
namespace Go.Proofs.YtdjlbpgjbgepdaaGreat
open Go Go.RowKit Go.Bv
set_option linter.unusedVariables false
set_option maxRecDepth 100000
theorem msF_gt {k : Int} (h : okF k = true) : decide (0 < msF k) = true := by
  rcases okF_k h with rfl | rfl | rfl | rfl | rfl | rfl | rfl | rfl <;> decide
theorem lmW_no {k : Int} (h : okF k = false) : W64 (lmW k) = 0 := by
  have hk : k < 1 ∨ 8 < k := by unfold okF at h; simp at h; omega
  unfold lmW
  rw [if_neg (by omega), if_neg (by omega)]; rfl
theorem wkK_three (k : Int) : wkK k = 0 ∨ wkK k = 1 ∨ wkK k = 2 := by
  unfold wkK
  split
  · exact .inl rfl
  · split
    · exact .inr (.inl rfl)
    · exact .inr (.inr rfl)
theorem take_44 (k0 bi : Int) (n : Nat) (hck : ckS k0 bi (n : Int) = 0) (b g0 : Nat) (l : List (BitVec 64)) (w : World) (ht : Tape w b g0 l 0) : Calls Tryz.prog 14 #[.pointer (some ⟨b, 0, none⟩), .int .i64 k0, .int .i64 bi, .int .i64 (n : Int)] w fun e w' =>
    (∃ ds k g1 g2, sdS (wkK k0) l n = some (ds, k) ∧ e = .returned (.tuple #[.agg (sdc k0 bi (some ⟨g1, 0, none⟩) n n), .slice (some ⟨g2, 0, none⟩) n n, .int .i64 0]) ∧ QRow w' (some ⟨g1, 0, none⟩) n n (ds.map fun d => d.1) ∧ KRow w' (some ⟨g2, 0, none⟩) n n ds ∧ After w w' b g0 l k ∧ w.heap.size ≤ g1) ∨ (sdS (wkK k0) l n = none ∧ e = .returned (.tuple #[.agg zSd, .slice none 0 0, .int .i64 7]) ∧ After w w' b g0 l l.length) := by
  rcases wkK_three k0 with h | h | h
  · exact take_p44 k0 bi n hck _ rfl h b g0 l w ht
  · exact take_odd44 k0 bi n hck _ rfl h b g0 l w ht
  · exact take_any44 k0 bi n hck _ rfl h b g0 l w ht
theorem ex44 : ckS 2 8 ((1 : Nat) : Int) = 0 ∧ sdS (wkK 2) [6#64] 1 = some ([(7#64, 0#64, 1)], 1) := by decide +kernel
theorem After.new {w w' : World} {b g0 j : Nat} {l : List (BitVec 64)} (h : After w w' b g0 l j) {W : World} (hw : New W w) (hb : W.heap.size ≤ b) (hg : W.heap.size ≤ g0) : New W w' := by
  obtain ⟨g, _, h2, _⟩ := h
  exact h2.new W hw hb hg
set_option maxHeartbeats 4000000 in
theorem awake44 (w : World) : Calls Tryz.prog 6 #[] w fun e w' => e = .returned (.bool true) ∧ New w w' := by
  have HQ := Lib.hid (row_one44 w 6#64)
  rw [show W64 6#64 = 6 from by decide] at HQ
  have HN0 := Lib.hid ((New.refl w).alloc (.cells #[.int .u64 6] 23))
  go_enter Tryz.func6, Tryz.ntmps6
  go_wp2_with fail
  refine (new_t _ _ _ _ _ HQ.out).mono ?_
  rintro e w1 ⟨b, rfl, hb, ht, hn1⟩
  have HT := Lib.hid (take_44 2 8 1 ex44.1 b b [6#64] w1 ht)
  have HN1 := Lib.hid (HN0.out.trans hn1)
  have HBB : Hid (w.heap.size ≤ b) := Lib.hid (Nat.le_trans HN0.out.le hb)
  clear ht hn1 hb HQ
  go_wp2_with fail
  refine HT.out.mono ?_
  rintro e w2 (⟨ds, k, g1, g2, hs, rfl, hq, hk, hA, hg⟩ | ⟨hs, _⟩)
  · rw [ex44.2] at hs
    cases hs
    have HN2 := Lib.hid (hA.new HN1.out HBB.out HBB.out)
    have c0 := fun o : Obj => (hq.stay ((New.refl w2).alloc o)).cell g1 0 rfl 0 (by omega)
    have c1 := fun o : Obj => ((hk.stay ((New.refl w2).alloc o)).cell g2 0 rfl 0 (by omega)).2.1
    simp only [Nat.zero_add, Nat.zero_mul, List.map_cons, List.map_nil, List.getD_cons_zero] at c0 c1
    rw [show W64 7#64 = 7 from by decide] at c0
    rw [show W64 0#64 = 0 from by decide] at c1
    clear hq hk hA hg HT
    go_wp2
    go_ret
    exact ⟨rfl, HN2.out.alloc _⟩
  · rw [ex44.2] at hs; cases hs
set_option maxHeartbeats 4000000 in
theorem checks_no (W : World) (k b m : Int) (hk : okF k = false) : Calls Tryz.prog 3 #[.int .i64 k, .int .i64 b, .int .i64 m] W fun e w' => e = .returned (.bool true) ∧ New W w' := by
  have HRC := Lib.hid (fun w => rcheck_44 k b m w)
  have HCH := Lib.hid (fun w => check_44 k b m w)
  have HMO := Lib.hid (fun w => rmost_27 k w)
  have HRL := Lib.hid (fun w => rlimit_44 k w)
  have hE : ckS k b m = 6 := by unfold ckS; rw [if_pos hk]
  have HWH := Lib.hid (fun w => whole_no k b m 6 hE rfl w)
  have HLI := Lib.hid (fun w => limit_no k hk w)
  rw [hE] at HRC HCH
  rw [msF_no hk] at HMO
  rw [lmW_no hk] at HRL
  clear hE hk
  go_enter Tryz.func3, Tryz.ntmps3
  go_wp2_with fail
  refine (awake44 _).mono ?_
  rintro e w1 ⟨rfl, hn1⟩
  go_wp2_with fail
  refine (HLI.out _).mono ?_
  rintro e w2 ⟨rfl, hn2⟩
  go_wp2_with fail
  refine (HRC.out _).mono ?_
  rintro e w3 ⟨rfl, hn3⟩
  go_wp2_with fail
  refine (HWH.out _).mono ?_
  rintro e w4 ⟨rfl, hn4⟩
  go_wp2_with fail
  refine (HCH.out _).mono ?_
  rintro e w5 ⟨rfl, hn5⟩
  go_wp2_with fail
  refine (HMO.out _).mono ?_
  rintro e w6 ⟨rfl, hn6⟩
  go_wp2_with fail
  refine (HRL.out _).mono ?_
  rintro e w7 ⟨rfl, rfl⟩
  go_wp2
  go_ret
  exact ⟨rfl, ((((hn1.trans hn2).trans hn3).trans hn4).trans hn5).trans hn6⟩
set_option maxHeartbeats 4000000 in
theorem checks_bad (W : World) (k b m : Int) (hk : okF k = true) (E : Int) (hE : ckS k b m = E) (h0 : (E == 0) = false) : Calls Tryz.prog 3 #[.int .i64 k, .int .i64 b, .int .i64 m] W fun e w' => e = .returned (.bool true) ∧ New W w' := by
  have HRC := Lib.hid (fun w => rcheck_44 k b m w)
  have HCH := Lib.hid (fun w => check_44 k b m w)
  have HMO := Lib.hid (fun w => rmost_27 k w)
  have HRL := Lib.hid (fun w => rlimit_44 k w)
  have HWH := Lib.hid (fun w => whole_no k b m E hE h0 w)
  have HLI := Lib.hid (fun w => limit_44 k hk w)
  rw [hE] at HRC HCH
  have hms := msF_gt hk
  generalize lmW k = lm at *
  clear hE hk
  go_enter Tryz.func3, Tryz.ntmps3
  go_wp2_with fail
  refine (awake44 _).mono ?_
  rintro e w1 ⟨rfl, hn1⟩
  go_wp2_with fail
  refine (HLI.out _).mono ?_
  rintro e w2 ⟨rfl, hn2⟩
  go_wp2_with fail
  refine (HRC.out _).mono ?_
  rintro e w3 ⟨rfl, hn3⟩
  go_wp2_with fail
  refine (HWH.out _).mono ?_
  rintro e w4 ⟨rfl, hn4⟩
  go_wp2_with fail
  refine (HCH.out _).mono ?_
  rintro e w5 ⟨rfl, hn5⟩
  go_wp2_with fail
  refine (HMO.out _).mono ?_
  rintro e w6 ⟨rfl, hn6⟩
  go_wp2_with fail
  refine (HRL.out _).mono ?_
  rintro e w7 ⟨rfl, rfl⟩
  go_wp2
  go_ret
  exact ⟨rfl, ((((hn1.trans hn2).trans hn3).trans hn4).trans hn5).trans hn6⟩
set_option maxHeartbeats 4000000 in
theorem checks_ok (W : World) (k b m : Int) (n : Nat) (hm : m = (n : Int)) (hE : ckS k b (n : Int) = 0) : Calls Tryz.prog 3 #[.int .i64 k, .int .i64 b, .int .i64 m] W fun e w' => e = .returned (.bool true) ∧ New W w' := by
  subst hm
  have HRC := Lib.hid (fun w => rcheck_44 k b (n : Int) w)
  have HCH := Lib.hid (fun w => check_44 k b (n : Int) w)
  have HMO := Lib.hid (fun w => rmost_27 k w)
  have HRL := Lib.hid (fun w => rlimit_44 k w)
  obtain ⟨hk, n', e1, _, hn320, _⟩ := ckS_ok hE
  have HWH := Lib.hid (fun w => whole_ok k b n hE w)
  have HLI := Lib.hid (fun w => limit_44 k hk w)
  rw [hE] at HRC HCH
  have hms := msF_gt hk
  have hn : n ≤ 320 := by omega
  generalize lmW k = lm at *
  clear hE hk e1 hn320
  go_enter Tryz.func3, Tryz.ntmps3
  go_wp2_with fail
  refine (awake44 _).mono ?_
  rintro e w1 ⟨rfl, hn1⟩
  go_wp2_with fail
  refine (HLI.out _).mono ?_
  rintro e w2 ⟨rfl, hn2⟩
  go_wp2_with fail
  refine (HRC.out _).mono ?_
  rintro e w3 ⟨rfl, hn3⟩
  go_wp2_with fail
  refine (HWH.out _).mono ?_
  rintro e w4 ⟨⟨r, rfl, hq⟩, hn4⟩
  have HQ := Lib.hid hq
  have HN4 := Lib.hid (((hn1.trans hn2).trans hn3).trans hn4)
  clear hq hn1 hn2 hn3 hn4
  go_wp2_with fail
  refine (HCH.out _).mono ?_
  rintro e w5 ⟨rfl, hn5⟩
  go_wp2_with fail
  refine (HMO.out _).mono ?_
  rintro e w6 ⟨rfl, hn6⟩
  have HQ6 := Lib.hid ((HQ.out.stay hn5).stay hn6)
  have HN6 := Lib.hid ((HN4.out.trans hn5).trans hn6)
  clear hn5 hn6 HQ HN4
  go_wp2_with fail
  refine (HRL.out _).mono ?_
  rintro e w7 ⟨rfl, rfl⟩
  go_wp2_with fail
  go_loopw [75] (fun iv wr => ∃ q : Nat, q ≤ n ∧ iv = .int .i64 (q : Int) ∧ wr = w7) (fun iv _ => n - (intOf iv).toNat)
  case atStart => exact ⟨0, Nat.zero_le _, rfl, rfl⟩
  case round =>
    obtain ⟨q, hq, rfl, rfl⟩ := hrel
    by_cases hlt : (q : Int) < (n : Int)
    · have hq0 : (0 : Int) ≤ (q : Int) := by omega
      have cq := HQ6.out.cell r 0 rfl q (by omega)
      rw [List.getD_eq_getElem?_getD, List.getElem?_replicate, if_pos (by omega), Option.getD_some, Nat.zero_add] at cq
      go_wp2
      exact ⟨⟨q + 1, by omega, by go_num, by first | rfl | trivial⟩, by simp [intOf]; omega⟩
    · obtain rfl : q = n := by omega
      go_wp2
      go_ret
      exact ⟨rfl, HN6.out⟩
theorem SeedsChecks_walk (W : World) (a0 : Int) (w0 : (Lit.int .i64 a0).wf = true) (a1 : Int) (w1 : (Lit.int .i64 a1).wf = true) (a2 : Int) (w2 : (Lit.int .i64 a2).wf = true) :
    Calls Tryz.prog 3 #[.int .i64 a0, .int .i64 a1, .int .i64 a2] W fun e w' => e = .returned (.bool true) ∧ Below W.heap.size W w' := by
  cases hk : okF a0
  · exact checks_no W a0 a1 a2 hk
  · by_cases hE : ckS a0 a1 a2 = 0
    · obtain ⟨_, n, rfl, _⟩ := ckS_ok hE
      exact checks_ok W a0 a1 (n : Int) n rfl hE
    · exact checks_bad W a0 a1 a2 hk _ rfl (beq_eq_false_iff_ne.2 hE)
end Go.Proofs.YtdjlbpgjbgepdaaGreat
