import Derived.Test.YthkmcnlciefnfaaGreatZ5FamF
/- Layer 27: the document's word on a seed. -/
namespace Go.Proofs.YthkmcnlciefnfaaGreat
open Go.RowKit Go.Bv
set_option linter.unusedVariables false
theorem okF_k {k : Int} (h : okF k = true) : k = 1 ∨ k = 2 ∨ k = 3 ∨ k = 4 ∨ k = 5 ∨ k = 6 ∨ k = 7 ∨ k = 8 := by
  unfold okF at h
  simp at h
  omega
theorem msF_zero (k : Int) : (msF k == 0) = !(okF k) := by
  cases h : okF k
  · have e : msF k = 0 := by
      unfold okF at h
      simp at h
      unfold msF lsF
      repeat (rw [if_neg (by omega)])
    rw [e]; rfl
  · rcases okF_k h with rfl | rfl | rfl | rfl | rfl | rfl | rfl | rfl <;> rfl
/-- whether so many bits may be told -/
def bkFH (k b : Int) : Bool := decide (¬ b < lbF k ∧ ¬ mbF k < b)
set_option maxHeartbeats 2000000 in
theorem rbits_27 (k b : Int) (w : World) (hok : okF k = true) : Calls Tryz.prog 40 #[.int .i64 k, .int .i64 b] w fun e w' => e = .returned (.bool (bkFH k b)) ∧ w' = w := by
  unfold bkFH
  rcases okF_k hok with rfl | rfl | rfl | rfl | rfl | rfl | rfl | rfl
  all_goals clear hok
  · rw [show lbF 1 = 61 from rfl, show mbF 1 = 61 from rfl]
    by_cases h1 : b < 61
    · rw [show decide (¬ b < 61 ∧ ¬ 61 < b) = false from decide_eq_false (by omega)]
      have h2 : (b == 61) = false := by rw [beq_eq_false_iff_ne]; omega
      go_enter Tryz.func40, Tryz.ntmps40
      go_wp2
      go_ret
      exact ⟨rfl, rfl⟩
    by_cases h3 : 61 < b
    · rw [show decide (¬ b < 61 ∧ ¬ 61 < b) = false from decide_eq_false (by omega)]
      have h2 : (b == 61) = false := by rw [beq_eq_false_iff_ne]; omega
      go_enter Tryz.func40, Tryz.ntmps40
      go_wp2
      go_ret
      exact ⟨rfl, rfl⟩
    · rw [show decide (¬ b < 61 ∧ ¬ 61 < b) = true from decide_eq_true ⟨h1, h3⟩]
      obtain rfl : b = 61 := by omega
      clear h1 h3
      go_enter Tryz.func40, Tryz.ntmps40
      go_wp2
      go_ret
      exact ⟨rfl, rfl⟩
  · rw [show lbF 2 = 1 from rfl, show mbF 2 = 64 from rfl]
    by_cases h1 : b < 1
    · rw [show decide (¬ b < 1 ∧ ¬ 64 < b) = false from decide_eq_false (by omega)]
      have h2 : ¬ 1 ≤ b := by omega
      go_enter Tryz.func40, Tryz.ntmps40
      go_wp2
      go_ret
      exact ⟨rfl, rfl⟩
    by_cases h3 : 64 < b
    · rw [show decide (¬ b < 1 ∧ ¬ 64 < b) = false from decide_eq_false (by omega)]
      have h2 : 1 ≤ b := by omega
      have h4 : ¬ b ≤ 64 := by omega
      go_enter Tryz.func40, Tryz.ntmps40
      go_wp2
      go_ret
      exact ⟨rfl, rfl⟩
    · rw [show decide (¬ b < 1 ∧ ¬ 64 < b) = true from decide_eq_true ⟨h1, h3⟩]
      have h2 : 1 ≤ b := by omega
      have h4 : b ≤ 64 := by omega
      clear h1 h3
      go_enter Tryz.func40, Tryz.ntmps40
      go_wp2
      go_ret
      exact ⟨rfl, rfl⟩
  · rw [show lbF 3 = 1 from rfl, show mbF 3 = 32 from rfl]
    by_cases h1 : b < 1
    · rw [show decide (¬ b < 1 ∧ ¬ 32 < b) = false from decide_eq_false (by omega)]
      have h2 : ¬ 1 ≤ b := by omega
      go_enter Tryz.func40, Tryz.ntmps40
      go_wp2
      go_ret
      exact ⟨rfl, rfl⟩
    by_cases h3 : 32 < b
    · rw [show decide (¬ b < 1 ∧ ¬ 32 < b) = false from decide_eq_false (by omega)]
      have h2 : 1 ≤ b := by omega
      have h4 : ¬ b ≤ 32 := by omega
      go_enter Tryz.func40, Tryz.ntmps40
      go_wp2
      go_ret
      exact ⟨rfl, rfl⟩
    · rw [show decide (¬ b < 1 ∧ ¬ 32 < b) = true from decide_eq_true ⟨h1, h3⟩]
      have h2 : 1 ≤ b := by omega
      have h4 : b ≤ 32 := by omega
      clear h1 h3
      go_enter Tryz.func40, Tryz.ntmps40
      go_wp2
      go_ret
      exact ⟨rfl, rfl⟩
  · rw [show lbF 4 = 1 from rfl, show mbF 4 = 64 from rfl]
    by_cases h1 : b < 1
    · rw [show decide (¬ b < 1 ∧ ¬ 64 < b) = false from decide_eq_false (by omega)]
      have h2 : ¬ 1 ≤ b := by omega
      go_enter Tryz.func40, Tryz.ntmps40
      go_wp2
      go_ret
      exact ⟨rfl, rfl⟩
    by_cases h3 : 64 < b
    · rw [show decide (¬ b < 1 ∧ ¬ 64 < b) = false from decide_eq_false (by omega)]
      have h2 : 1 ≤ b := by omega
      have h4 : ¬ b ≤ 64 := by omega
      go_enter Tryz.func40, Tryz.ntmps40
      go_wp2
      go_ret
      exact ⟨rfl, rfl⟩
    · rw [show decide (¬ b < 1 ∧ ¬ 64 < b) = true from decide_eq_true ⟨h1, h3⟩]
      have h2 : 1 ≤ b := by omega
      have h4 : b ≤ 64 := by omega
      clear h1 h3
      go_enter Tryz.func40, Tryz.ntmps40
      go_wp2
      go_ret
      exact ⟨rfl, rfl⟩
  · rw [show lbF 5 = 1 from rfl, show mbF 5 = 64 from rfl]
    by_cases h1 : b < 1
    · rw [show decide (¬ b < 1 ∧ ¬ 64 < b) = false from decide_eq_false (by omega)]
      have h2 : ¬ 1 ≤ b := by omega
      go_enter Tryz.func40, Tryz.ntmps40
      go_wp2
      go_ret
      exact ⟨rfl, rfl⟩
    by_cases h3 : 64 < b
    · rw [show decide (¬ b < 1 ∧ ¬ 64 < b) = false from decide_eq_false (by omega)]
      have h2 : 1 ≤ b := by omega
      have h4 : ¬ b ≤ 64 := by omega
      go_enter Tryz.func40, Tryz.ntmps40
      go_wp2
      go_ret
      exact ⟨rfl, rfl⟩
    · rw [show decide (¬ b < 1 ∧ ¬ 64 < b) = true from decide_eq_true ⟨h1, h3⟩]
      have h2 : 1 ≤ b := by omega
      have h4 : b ≤ 64 := by omega
      clear h1 h3
      go_enter Tryz.func40, Tryz.ntmps40
      go_wp2
      go_ret
      exact ⟨rfl, rfl⟩
  · rw [show lbF 6 = 1 from rfl, show mbF 6 = 64 from rfl]
    by_cases h1 : b < 1
    · rw [show decide (¬ b < 1 ∧ ¬ 64 < b) = false from decide_eq_false (by omega)]
      have h2 : ¬ 1 ≤ b := by omega
      go_enter Tryz.func40, Tryz.ntmps40
      go_wp2
      go_ret
      exact ⟨rfl, rfl⟩
    by_cases h3 : 64 < b
    · rw [show decide (¬ b < 1 ∧ ¬ 64 < b) = false from decide_eq_false (by omega)]
      have h2 : 1 ≤ b := by omega
      have h4 : ¬ b ≤ 64 := by omega
      go_enter Tryz.func40, Tryz.ntmps40
      go_wp2
      go_ret
      exact ⟨rfl, rfl⟩
    · rw [show decide (¬ b < 1 ∧ ¬ 64 < b) = true from decide_eq_true ⟨h1, h3⟩]
      have h2 : 1 ≤ b := by omega
      have h4 : b ≤ 64 := by omega
      clear h1 h3
      go_enter Tryz.func40, Tryz.ntmps40
      go_wp2
      go_ret
      exact ⟨rfl, rfl⟩
  · rw [show lbF 7 = 1 from rfl, show mbF 7 = 64 from rfl]
    by_cases h1 : b < 1
    · rw [show decide (¬ b < 1 ∧ ¬ 64 < b) = false from decide_eq_false (by omega)]
      have h2 : ¬ 1 ≤ b := by omega
      go_enter Tryz.func40, Tryz.ntmps40
      go_wp2
      go_ret
      exact ⟨rfl, rfl⟩
    by_cases h3 : 64 < b
    · rw [show decide (¬ b < 1 ∧ ¬ 64 < b) = false from decide_eq_false (by omega)]
      have h2 : 1 ≤ b := by omega
      have h4 : ¬ b ≤ 64 := by omega
      go_enter Tryz.func40, Tryz.ntmps40
      go_wp2
      go_ret
      exact ⟨rfl, rfl⟩
    · rw [show decide (¬ b < 1 ∧ ¬ 64 < b) = true from decide_eq_true ⟨h1, h3⟩]
      have h2 : 1 ≤ b := by omega
      have h4 : b ≤ 64 := by omega
      clear h1 h3
      go_enter Tryz.func40, Tryz.ntmps40
      go_wp2
      go_ret
      exact ⟨rfl, rfl⟩
  · rw [show lbF 8 = 61 from rfl, show mbF 8 = 61 from rfl]
    by_cases h1 : b < 61
    · rw [show decide (¬ b < 61 ∧ ¬ 61 < b) = false from decide_eq_false (by omega)]
      have h2 : (b == 61) = false := by rw [beq_eq_false_iff_ne]; omega
      go_enter Tryz.func40, Tryz.ntmps40
      go_wp2
      go_ret
      exact ⟨rfl, rfl⟩
    by_cases h3 : 61 < b
    · rw [show decide (¬ b < 61 ∧ ¬ 61 < b) = false from decide_eq_false (by omega)]
      have h2 : (b == 61) = false := by rw [beq_eq_false_iff_ne]; omega
      go_enter Tryz.func40, Tryz.ntmps40
      go_wp2
      go_ret
      exact ⟨rfl, rfl⟩
    · rw [show decide (¬ b < 61 ∧ ¬ 61 < b) = true from decide_eq_true ⟨h1, h3⟩]
      obtain rfl : b = 61 := by omega
      clear h1 h3
      go_enter Tryz.func40, Tryz.ntmps40
      go_wp2
      go_ret
      exact ⟨rfl, rfl⟩
set_option maxHeartbeats 4000000 in
theorem rcheck_27 (k b : Int) (a : Option Addr) (n c : Nat) (l : List (BitVec 64)) (w : World) (h : QRow w a n c l) : Calls Tryz.prog 22 #[.agg (sdc k b a n c)] w fun e w' => e = .returned (.int .i64 (chF k b l)) ∧ New w w' := by
  have hl := h.len_eq
  generalize hW : w.alloc (.cells (sdc k b a n c) 58) = w0
  have HB : Hid (w0.heap[w.heap.size]? = some (.cells (sdc k b a n c) 58 (0, 0))) := Lib.hid (by rw [← hW]; exact heap_alloc_new w _)
  have HN : Hid (New w w0) := Lib.hid (by rw [← hW]; exact (New.refl w).alloc _)
  have HROW := Lib.hid (h.stay HN.out)
  have HMO := Lib.hid (fun w => rmost_27 k w)
  have HLE := Lib.hid (fun w => rleast_27 k w)
  have hms := msF_zero k
  cases hok : okF k
  · have HV : Hid (chF k b l = 6) := Lib.hid (by unfold chF; rw [if_pos hok])
    rw [hok] at hms
    have c0 := cell_of_row _ _ 0 _ _ _ HB.out
    have c1 := cell_of_row _ _ 1 _ _ _ HB.out
    have c2 := cell_of_row _ _ 2 _ _ _ HB.out
    go_enter Tryz.func22, Tryz.ntmps22
    go_wp2_with fail
    refine (HMO.out _).mono ?_
    rintro e w1 ⟨rfl, hn⟩
    go_wp2
    go_ret
    exact ⟨by rw [HV.out]; rfl, HN.out.trans hn⟩
  rw [hok] at hms
  have HBI := Lib.hid (fun w => rbits_27 k b w hok)
  have HV : Hid (chF k b l = if (n : Int) < lsF k ∨ msF k < (n : Int) then 13 else if b < lbF k ∨ mbF k < b then 1 else chS k b l) := Lib.hid (by unfold chF; rw [hl, if_neg (by rw [hok]; decide)])
  have HK := Lib.hid (okF_k hok)
  clear hok
  by_cases h1 : (n : Int) < lsF k
  · replace HV := Lib.hid (HV.out.trans (if_pos (.inl h1)))
    have c0 := cell_of_row _ _ 0 _ _ _ HB.out
    have c1 := cell_of_row _ _ 1 _ _ _ HB.out
    have c2 := cell_of_row _ _ 2 _ _ _ HB.out
    go_enter Tryz.func22, Tryz.ntmps22
    go_wp2_with fail
    refine (HMO.out _).mono ?_
    rintro e w1 ⟨rfl, hn⟩
    have hb := (hn.block _ (lt_of_block HB.out)).trans HB.out
    replace HB := Lib.hid hb
    replace HN := Lib.hid (HN.out.trans hn)
    clear c0 c1 c2 hb hn
    go_wp2_with fail
    refine wp_region_class (fun w' => (w'.heap[w.heap.size]? = some (.cells (sdc k b a n c) 58 (0, 0))) ∧ New w1 w') (by kernel_rfl) (by kernel_rfl) ⟨((New.refl w1).drew.block _ (lt_of_block HB.out)).trans HB.out, (New.refl _).drew⟩ ?_
    intro I _ f hall hback
    have HSTEP : Hid (∀ n w', New (f n) w' → ∃ m, w' = f m) := Lib.hid fun n w' hn => hback w' ⟨(hn.block _ (lt_of_block (hall n).1)).trans (hall n).1, (hall n).2.trans hn⟩
    have HALL := Lib.hid fun n => (hall n).2
    have s0 := fun n => cell_of_row _ _ 0 _ _ _ ((hall n).1)
    have s1 := fun n => cell_of_row _ _ 1 _ _ _ ((hall n).1)
    have s2 := fun n => cell_of_row _ _ 2 _ _ _ ((hall n).1)
    clear hall hback
    repeat (go_big_quiet_step (first
      | (go_at_call 39; refine class_new HSTEP.out (HLE.out _))
      | (go_at_call 38; refine class_new HSTEP.out (HMO.out _))))
    refine wpQuiet_nil ?_
    rintro w9 ⟨n1, hw1⟩
    have hS := HALL.out n1
    rw [← hw1] at hS
    replace HB := Lib.hid ((hS.block _ (lt_of_block HB.out)).trans HB.out)
    replace HN := Lib.hid (HN.out.trans hS)
    clear HALL HSTEP hw1 hS s0 s1 s2
    go_wp2
    go_ret
    exact ⟨by rw [HV.out]; rfl, HN.out⟩
  by_cases h2 : msF k < (n : Int)
  · replace HV := Lib.hid (HV.out.trans (if_pos (.inr h2)))
    have hd1 : decide ((n : Int) < lsF k) = false := decide_eq_false h1
    have hd2 : decide (msF k < (n : Int)) = true := decide_eq_true h2
    have c0 := cell_of_row _ _ 0 _ _ _ HB.out
    have c1 := cell_of_row _ _ 1 _ _ _ HB.out
    have c2 := cell_of_row _ _ 2 _ _ _ HB.out
    go_enter Tryz.func22, Tryz.ntmps22
    go_wp2_with fail
    refine (HMO.out _).mono ?_
    rintro e w1 ⟨rfl, hn⟩
    have hb := (hn.block _ (lt_of_block HB.out)).trans HB.out
    replace HB := Lib.hid hb
    replace HN := Lib.hid (HN.out.trans hn)
    clear c0 c1 c2 hb hn
    go_wp2_with fail
    refine wp_region_class (fun w' => (w'.heap[w.heap.size]? = some (.cells (sdc k b a n c) 58 (0, 0))) ∧ New w1 w') (by kernel_rfl) (by kernel_rfl) ⟨((New.refl w1).drew.block _ (lt_of_block HB.out)).trans HB.out, (New.refl _).drew⟩ ?_
    intro I _ f hall hback
    have HSTEP : Hid (∀ n w', New (f n) w' → ∃ m, w' = f m) := Lib.hid fun n w' hn => hback w' ⟨(hn.block _ (lt_of_block (hall n).1)).trans (hall n).1, (hall n).2.trans hn⟩
    have HALL := Lib.hid fun n => (hall n).2
    have s0 := fun n => cell_of_row _ _ 0 _ _ _ ((hall n).1)
    have s1 := fun n => cell_of_row _ _ 1 _ _ _ ((hall n).1)
    have s2 := fun n => cell_of_row _ _ 2 _ _ _ ((hall n).1)
    clear hall hback
    repeat (go_big_quiet_step (first
      | (go_at_call 39; refine class_new HSTEP.out (HLE.out _))
      | (go_at_call 38; refine class_new HSTEP.out (HMO.out _))))
    refine wpQuiet_nil ?_
    rintro w9 ⟨n1, hw1⟩
    have hS := HALL.out n1
    rw [← hw1] at hS
    replace HB := Lib.hid ((hS.block _ (lt_of_block HB.out)).trans HB.out)
    replace HN := Lib.hid (HN.out.trans hS)
    clear HALL HSTEP hw1 hS s0 s1 s2
    go_wp2
    go_ret
    exact ⟨by rw [HV.out]; rfl, HN.out⟩
  replace HV := Lib.hid (HV.out.trans (if_neg (by omega)))
  have hd1 : decide ((n : Int) < lsF k) = false := decide_eq_false h1
  have hd2 : decide (msF k < (n : Int)) = false := decide_eq_false h2
  have HLS : Hid (k = 1 ∨ k = 2 ∨ k = 8 → 1 ≤ n) := Lib.hid (fun hk => by rcases hk with rfl | rfl | rfl <;> (have : ¬ (n : Int) < 1 := h1; omega))
  have c0 := cell_of_row _ _ 0 _ _ _ HB.out
  have c1 := cell_of_row _ _ 1 _ _ _ HB.out
  have c2 := cell_of_row _ _ 2 _ _ _ HB.out
  go_enter Tryz.func22, Tryz.ntmps22
  go_wp2_with fail
  refine (HMO.out _).mono ?_
  rintro e w1 ⟨rfl, hn⟩
  have hb := (hn.block _ (lt_of_block HB.out)).trans HB.out
  replace HB := Lib.hid hb
  replace HN := Lib.hid (HN.out.trans hn)
  replace HROW := Lib.hid (HROW.out.stay hn)
  clear c0 c1 c2 hb hn
  go_wp2_with fail
  refine wp_region_class (fun w' => (w'.heap[w.heap.size]? = some (.cells (sdc k b a n c) 58 (0, 0))) ∧ New w1 w') (by kernel_rfl) (by kernel_rfl) ⟨((New.refl w1).drew.block _ (lt_of_block HB.out)).trans HB.out, (New.refl _).drew⟩ ?_
  intro I _ f hall hback
  have HSTEP : Hid (∀ n w', New (f n) w' → ∃ m, w' = f m) := Lib.hid fun n w' hn => hback w' ⟨(hn.block _ (lt_of_block (hall n).1)).trans (hall n).1, (hall n).2.trans hn⟩
  have HALL := Lib.hid fun n => (hall n).2
  have s0 := fun n => cell_of_row _ _ 0 _ _ _ ((hall n).1)
  have s1 := fun n => cell_of_row _ _ 1 _ _ _ ((hall n).1)
  have s2 := fun n => cell_of_row _ _ 2 _ _ _ ((hall n).1)
  clear hall hback
  repeat (go_big_quiet_step (first
    | (go_at_call 39; refine class_new HSTEP.out (HLE.out _))
    | (go_at_call 38; refine class_new HSTEP.out (HMO.out _))))
  refine wpQuiet_nil ?_
  rintro w9 ⟨n1, hw1⟩
  have hS := HALL.out n1
  rw [← hw1] at hS
  replace HB := Lib.hid ((hS.block _ (lt_of_block HB.out)).trans HB.out)
  replace HROW := Lib.hid (HROW.out.stay hS)
  replace HN := Lib.hid (HN.out.trans hS)
  clear HALL HSTEP hw1 hS s0 s1 s2
  have c0 := cell_of_row _ _ 0 _ _ _ HB.out
  have c1 := cell_of_row _ _ 1 _ _ _ HB.out
  have c2 := cell_of_row _ _ 2 _ _ _ HB.out
  clear h1 h2 hd1 hd2
  by_cases h3 : ¬ b < lbF k ∧ ¬ mbF k < b
  · replace HV := Lib.hid (HV.out.trans (if_neg (by omega)))
    rw [show bkFH k b = true from decide_eq_true h3] at HBI
    clear h3
    go_wp2_with fail
    refine (HBI.out _).mono ?_
    rintro e w5 ⟨rfl, rfl⟩
    by_cases k1 : k = 1
    · subst k1
      have HC := Lib.hid (rcheck_q a n c l _ HROW.out)
      replace HV := Lib.hid (HV.out.trans (show chS 1 b l = chkC l from rfl))
      go_wp2_with fail
      refine HC.out.mono ?_
      rintro e w6 ⟨rfl, rfl⟩
      go_wp2
      go_ret
      exact ⟨by rw [HV.out]; rfl, HN.out⟩
    by_cases k2 : k = 2
    · subst k2
      have hn0 : 0 < n := HLS.out (by omega)
      obtain ⟨g, off, rfl, _⟩ := HROW.out.addr hn0
      have HZ : Hid (∀ w' : World, New w5 w' → w'.cell? ⟨g, off, none⟩ = some (.int .u64 (W64 (l.getD 0 0#64)))) := Lib.hid (fun w' hn => (HROW.out.stay hn).cell g off rfl 0 hn0)
      have HM := Lib.hid (fun w => rcheck_m (l.getD 0 0#64) b w)
      have hpos : ¬ (n : Int) ≤ 0 := by omega
      replace HV := Lib.hid (HV.out.trans (show chS 2 b l = chkM (l.getD 0 0#64) b from rfl))
      clear h hl
      go_wp2_with fail
      refine wp_region_class (fun w' => (w'.heap[w.heap.size]? = some (.cells (sdc 2 b (some ⟨g, off, none⟩) n c) 58 (0, 0))) ∧ New w5 w') (by kernel_rfl) (by kernel_rfl) ⟨((New.refl w5).drew.block _ (lt_of_block HB.out)).trans HB.out, (New.refl _).drew⟩ ?_
      intro I _ f hall hback
      have HSTEP : Hid (∀ n w', New (f n) w' → ∃ m, w' = f m) := Lib.hid fun n w' hn => hback w' ⟨(hn.block _ (lt_of_block (hall n).1)).trans (hall n).1, (hall n).2.trans hn⟩
      have HALL := Lib.hid fun n => (hall n).2
      have s0 := fun n => cell_of_row _ _ 0 _ _ _ ((hall n).1)
      have s1 := fun n => cell_of_row _ _ 1 _ _ _ ((hall n).1)
      have s2 := fun n => cell_of_row _ _ 2 _ _ _ ((hall n).1)
      have z0 := fun n => HZ.out _ (hall n).2
      clear c0 c1 c2 hall hback
      repeat (go_big_quiet_step (first
        | (go_at_call 42; refine class_same (HM.out _))))
      refine wpQuiet_nil ?_
      rintro w9 ⟨n1, hw1⟩
      have hS := HALL.out n1
      rw [← hw1] at hS
      replace HB := Lib.hid ((hS.block _ (lt_of_block HB.out)).trans HB.out)
      replace HN := Lib.hid (HN.out.trans hS)
      clear z0 HALL HSTEP hw1 hS s0 s1 s2
      go_wp2
      go_ret
      exact ⟨by rw [HV.out]; rfl, HN.out⟩
    by_cases k8 : k = 8
    · subst k8
      have hn0 : 0 < n := HLS.out (by omega)
      obtain ⟨g, off, rfl, _⟩ := HROW.out.addr hn0
      have z0 : w5.cell? ⟨g, off, none⟩ = some (.int .u64 (W64 (l.getD 0 0#64))) := HROW.out.cell g off rfl 0 hn0
      have hpos : ¬ (n : Int) ≤ 0 := by omega
      replace HV := Lib.hid (HV.out.trans (show chS 8 b l = (if PP ≤ (l.getD 0 0#64).toNat then 2 else 0) from rfl))
      clear h hl HROW
      generalize l.getD 0 0#64 = x at *
      by_cases hp : PP ≤ x.toNat
      · replace HV := Lib.hid (HV.out.trans (if_pos hp))
        have hw : decide (2305843009213693951 ≤ W64 x) = true := decide_eq_true (by unfold W64; unfold PP at hp; omega)
        clear hp
        go_wp2
        go_ret
        exact ⟨by rw [HV.out]; rfl, HN.out⟩
      · replace HV := Lib.hid (HV.out.trans (if_neg hp))
        have hw : decide (2305843009213693951 ≤ W64 x) = false := decide_eq_false (by unfold W64; unfold PP at hp; omega)
        clear hp
        go_wp2
        go_ret
        exact ⟨by rw [HV.out]; rfl, HN.out⟩
    · replace HV := Lib.hid (HV.out.trans (show chS k b l = 0 by unfold chS; rw [if_neg k1, if_neg k2, if_neg k8]))
      have b1 : (k == 1) = false := by rw [beq_eq_false_iff_ne]; exact k1
      have b2 : (k == 2) = false := by rw [beq_eq_false_iff_ne]; exact k2
      have b8 : (k == 8) = false := by rw [beq_eq_false_iff_ne]; exact k8
      clear k1 k2 k8
      go_wp2
      go_ret
      exact ⟨by rw [HV.out]; rfl, HN.out⟩
  · replace HV := Lib.hid (HV.out.trans (if_pos (by omega)))
    rw [show bkFH k b = false from decide_eq_false h3] at HBI
    clear h3
    go_wp2_with fail
    refine (HBI.out _).mono ?_
    rintro e w5 ⟨rfl, rfl⟩
    go_wp2
    go_ret
    exact ⟨by rw [HV.out]; rfl, HN.out⟩
end Go.Proofs.YthkmcnlciefnfaaGreat
