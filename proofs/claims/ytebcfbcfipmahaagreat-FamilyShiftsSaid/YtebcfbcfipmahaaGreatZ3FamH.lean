import Derived.Test.YtebcfbcfipmahaaGreatZ3FamF
import Derived.Test.YtebcfbcfipmahaaGreatZ3MxC
import Derived.Test.YtebcfbcfipmahaaGreatZ3TwiB
import Derived.Deep.DeepCutAuto
import Derived.Deep.RegionWith
section
/- Layer 27: the document's word on a seed. -/
namespace Go.Proofs.YtebcfbcfipmahaaGreat
open Go.RowKit Go.Bv
set_option linter.unusedVariables false
theorem okF_k {k : Int} (h : okF k = true) : k = 1 ∨ k = 2 ∨ k = 3 ∨ k = 4 ∨ k = 5 ∨ k = 6 ∨ k = 7 ∨ k = 8 := by
  unfold okF at h
  simp at h
  omega
theorem msF_zero (k : Int) : (msF k == 0) = !(okF k) := by
  cases h : okF k
  · have e : msF k = 0 := by
      unfold okF at h
      simp at h
      unfold msF lsF
      repeat (rw [if_neg (by omega)])
    rw [e]; rfl
  · rcases okF_k h with rfl | rfl | rfl | rfl | rfl | rfl | rfl | rfl <;> rfl
/-- whether so many bits may be told -/
def bkFH (k b : Int) : Bool := decide (¬ b < lbF k ∧ ¬ mbF k < b)
set_option maxHeartbeats 2000000 in
theorem rbits_27 (k b : Int) (w : World) (hok : okF k = true) : Calls Tryz.prog 38 #[.int .i64 k, .int .i64 b] w fun e w' => e = .returned (.bool (bkFH k b)) ∧ w' = w := by
  unfold bkFH
  rcases okF_k hok with rfl | rfl | rfl | rfl | rfl | rfl | rfl | rfl
  all_goals clear hok
  · rw [show lbF 1 = 61 from rfl, show mbF 1 = 61 from rfl]
    by_cases h1 : b < 61
    · rw [show decide (¬ b < 61 ∧ ¬ 61 < b) = false from decide_eq_false (by omega)]
      have h2 : (b == 61) = false := by rw [beq_eq_false_iff_ne]; omega
      go_enter Tryz.func38, Tryz.ntmps38
      go_wp2
      go_ret
      exact ⟨rfl, rfl⟩
    by_cases h3 : 61 < b
    · rw [show decide (¬ b < 61 ∧ ¬ 61 < b) = false from decide_eq_false (by omega)]
      have h2 : (b == 61) = false := by rw [beq_eq_false_iff_ne]; omega
      go_enter Tryz.func38, Tryz.ntmps38
      go_wp2
      go_ret
      exact ⟨rfl, rfl⟩
    · rw [show decide (¬ b < 61 ∧ ¬ 61 < b) = true from decide_eq_true ⟨h1, h3⟩]
      obtain rfl : b = 61 := by omega
      clear h1 h3
      go_enter Tryz.func38, Tryz.ntmps38
      go_wp2
      go_ret
      exact ⟨rfl, rfl⟩
  · rw [show lbF 2 = 1 from rfl, show mbF 2 = 64 from rfl]
    by_cases h1 : b < 1
    · rw [show decide (¬ b < 1 ∧ ¬ 64 < b) = false from decide_eq_false (by omega)]
      have h2 : ¬ 1 ≤ b := by omega
      go_enter Tryz.func38, Tryz.ntmps38
      go_wp2
      go_ret
      exact ⟨rfl, rfl⟩
    by_cases h3 : 64 < b
    · rw [show decide (¬ b < 1 ∧ ¬ 64 < b) = false from decide_eq_false (by omega)]
      have h2 : 1 ≤ b := by omega
      have h4 : ¬ b ≤ 64 := by omega
      go_enter Tryz.func38, Tryz.ntmps38
      go_wp2
      go_ret
      exact ⟨rfl, rfl⟩
    · rw [show decide (¬ b < 1 ∧ ¬ 64 < b) = true from decide_eq_true ⟨h1, h3⟩]
      have h2 : 1 ≤ b := by omega
      have h4 : b ≤ 64 := by omega
      clear h1 h3
      go_enter Tryz.func38, Tryz.ntmps38
      go_wp2
      go_ret
      exact ⟨rfl, rfl⟩
  · rw [show lbF 3 = 1 from rfl, show mbF 3 = 32 from rfl]
    by_cases h1 : b < 1
    · rw [show decide (¬ b < 1 ∧ ¬ 32 < b) = false from decide_eq_false (by omega)]
      have h2 : ¬ 1 ≤ b := by omega
      go_enter Tryz.func38, Tryz.ntmps38
      go_wp2
      go_ret
      exact ⟨rfl, rfl⟩
    by_cases h3 : 32 < b
    · rw [show decide (¬ b < 1 ∧ ¬ 32 < b) = false from decide_eq_false (by omega)]
      have h2 : 1 ≤ b := by omega
      have h4 : ¬ b ≤ 32 := by omega
      go_enter Tryz.func38, Tryz.ntmps38
      go_wp2
      go_ret
      exact ⟨rfl, rfl⟩
    · rw [show decide (¬ b < 1 ∧ ¬ 32 < b) = true from decide_eq_true ⟨h1, h3⟩]
      have h2 : 1 ≤ b := by omega
      have h4 : b ≤ 32 := by omega
      clear h1 h3
      go_enter Tryz.func38, Tryz.ntmps38
      go_wp2
      go_ret
      exact ⟨rfl, rfl⟩
  · rw [show lbF 4 = 1 from rfl, show mbF 4 = 64 from rfl]
    by_cases h1 : b < 1
    · rw [show decide (¬ b < 1 ∧ ¬ 64 < b) = false from decide_eq_false (by omega)]
      have h2 : ¬ 1 ≤ b := by omega
      go_enter Tryz.func38, Tryz.ntmps38
      go_wp2
      go_ret
      exact ⟨rfl, rfl⟩
    by_cases h3 : 64 < b
    · rw [show decide (¬ b < 1 ∧ ¬ 64 < b) = false from decide_eq_false (by omega)]
      have h2 : 1 ≤ b := by omega
      have h4 : ¬ b ≤ 64 := by omega
      go_enter Tryz.func38, Tryz.ntmps38
      go_wp2
      go_ret
      exact ⟨rfl, rfl⟩
    · rw [show decide (¬ b < 1 ∧ ¬ 64 < b) = true from decide_eq_true ⟨h1, h3⟩]
      have h2 : 1 ≤ b := by omega
      have h4 : b ≤ 64 := by omega
      clear h1 h3
      go_enter Tryz.func38, Tryz.ntmps38
      go_wp2
      go_ret
      exact ⟨rfl, rfl⟩
  · rw [show lbF 5 = 1 from rfl, show mbF 5 = 64 from rfl]
    by_cases h1 : b < 1
    · rw [show decide (¬ b < 1 ∧ ¬ 64 < b) = false from decide_eq_false (by omega)]
      have h2 : ¬ 1 ≤ b := by omega
      go_enter Tryz.func38, Tryz.ntmps38
      go_wp2
      go_ret
      exact ⟨rfl, rfl⟩
    by_cases h3 : 64 < b
    · rw [show decide (¬ b < 1 ∧ ¬ 64 < b) = false from decide_eq_false (by omega)]
      have h2 : 1 ≤ b := by omega
      have h4 : ¬ b ≤ 64 := by omega
      go_enter Tryz.func38, Tryz.ntmps38
      go_wp2
      go_ret
      exact ⟨rfl, rfl⟩
    · rw [show decide (¬ b < 1 ∧ ¬ 64 < b) = true from decide_eq_true ⟨h1, h3⟩]
      have h2 : 1 ≤ b := by omega
      have h4 : b ≤ 64 := by omega
      clear h1 h3
      go_enter Tryz.func38, Tryz.ntmps38
      go_wp2
      go_ret
      exact ⟨rfl, rfl⟩
  · rw [show lbF 6 = 1 from rfl, show mbF 6 = 64 from rfl]
    by_cases h1 : b < 1
    · rw [show decide (¬ b < 1 ∧ ¬ 64 < b) = false from decide_eq_false (by omega)]
      have h2 : ¬ 1 ≤ b := by omega
      go_enter Tryz.func38, Tryz.ntmps38
      go_wp2
      go_ret
      exact ⟨rfl, rfl⟩
    by_cases h3 : 64 < b
    · rw [show decide (¬ b < 1 ∧ ¬ 64 < b) = false from decide_eq_false (by omega)]
      have h2 : 1 ≤ b := by omega
      have h4 : ¬ b ≤ 64 := by omega
      go_enter Tryz.func38, Tryz.ntmps38
      go_wp2
      go_ret
      exact ⟨rfl, rfl⟩
    · rw [show decide (¬ b < 1 ∧ ¬ 64 < b) = true from decide_eq_true ⟨h1, h3⟩]
      have h2 : 1 ≤ b := by omega
      have h4 : b ≤ 64 := by omega
      clear h1 h3
      go_enter Tryz.func38, Tryz.ntmps38
      go_wp2
      go_ret
      exact ⟨rfl, rfl⟩
  · rw [show lbF 7 = 1 from rfl, show mbF 7 = 64 from rfl]
    by_cases h1 : b < 1
    · rw [show decide (¬ b < 1 ∧ ¬ 64 < b) = false from decide_eq_false (by omega)]
      have h2 : ¬ 1 ≤ b := by omega
      go_enter Tryz.func38, Tryz.ntmps38
      go_wp2
      go_ret
      exact ⟨rfl, rfl⟩
    by_cases h3 : 64 < b
    · rw [show decide (¬ b < 1 ∧ ¬ 64 < b) = false from decide_eq_false (by omega)]
      have h2 : 1 ≤ b := by omega
      have h4 : ¬ b ≤ 64 := by omega
      go_enter Tryz.func38, Tryz.ntmps38
      go_wp2
      go_ret
      exact ⟨rfl, rfl⟩
    · rw [show decide (¬ b < 1 ∧ ¬ 64 < b) = true from decide_eq_true ⟨h1, h3⟩]
      have h2 : 1 ≤ b := by omega
      have h4 : b ≤ 64 := by omega
      clear h1 h3
      go_enter Tryz.func38, Tryz.ntmps38
      go_wp2
      go_ret
      exact ⟨rfl, rfl⟩
  · rw [show lbF 8 = 61 from rfl, show mbF 8 = 61 from rfl]
    by_cases h1 : b < 61
    · rw [show decide (¬ b < 61 ∧ ¬ 61 < b) = false from decide_eq_false (by omega)]
      have h2 : (b == 61) = false := by rw [beq_eq_false_iff_ne]; omega
      go_enter Tryz.func38, Tryz.ntmps38
      go_wp2
      go_ret
      exact ⟨rfl, rfl⟩
    by_cases h3 : 61 < b
    · rw [show decide (¬ b < 61 ∧ ¬ 61 < b) = false from decide_eq_false (by omega)]
      have h2 : (b == 61) = false := by rw [beq_eq_false_iff_ne]; omega
      go_enter Tryz.func38, Tryz.ntmps38
      go_wp2
      go_ret
      exact ⟨rfl, rfl⟩
    · rw [show decide (¬ b < 61 ∧ ¬ 61 < b) = true from decide_eq_true ⟨h1, h3⟩]
      obtain rfl : b = 61 := by omega
      clear h1 h3
      go_enter Tryz.func38, Tryz.ntmps38
      go_wp2
      go_ret
      exact ⟨rfl, rfl⟩
set_option maxHeartbeats 4000000 in
theorem rcheck_27 (k b : Int) (a : Option Addr) (n c : Nat) (l : List (BitVec 64)) (w : World) (h : QRow w a n c l) : Calls Tryz.prog 18 #[.agg (sdc k b a n c)] w fun e w' => e = .returned (.int .i64 (chF k b l)) ∧ New w w' := by
  have hl := h.len_eq
  generalize hW : w.alloc (.cells (sdc k b a n c) 30) = w0
  have HB : Hid (w0.heap[w.heap.size]? = some (.cells (sdc k b a n c) 30 (0, 0))) := Lib.hid (by rw [← hW]; exact heap_alloc_new w _)
  have HN : Hid (New w w0) := Lib.hid (by rw [← hW]; exact (New.refl w).alloc _)
  have HROW := Lib.hid (h.stay HN.out)
  have HMO := Lib.hid (fun w => rmost_27 k w)
  have HLE := Lib.hid (fun w => rleast_27 k w)
  have hms := msF_zero k
  cases hok : okF k
  · have HV : Hid (chF k b l = 6) := Lib.hid (by unfold chF; rw [if_pos hok])
    rw [hok] at hms
    have c0 := cell_of_row _ _ 0 _ _ _ HB.out
    have c1 := cell_of_row _ _ 1 _ _ _ HB.out
    have c2 := cell_of_row _ _ 2 _ _ _ HB.out
    go_enter Tryz.func18, Tryz.ntmps18
    go_wp2_with fail
    refine (HMO.out _).mono ?_
    rintro e w1 ⟨rfl, hn⟩
    go_wp2
    go_ret
    exact ⟨by rw [HV.out]; rfl, HN.out.trans hn⟩
  rw [hok] at hms
  have HBI := Lib.hid (fun w => rbits_27 k b w hok)
  have HV : Hid (chF k b l = if (n : Int) < lsF k ∨ msF k < (n : Int) then 13 else if b < lbF k ∨ mbF k < b then 1 else chS k b l) := Lib.hid (by unfold chF; rw [hl, if_neg (by rw [hok]; decide)])
  have HK := Lib.hid (okF_k hok)
  clear hok
  by_cases h1 : (n : Int) < lsF k
  · replace HV := Lib.hid (HV.out.trans (if_pos (.inl h1)))
    have c0 := cell_of_row _ _ 0 _ _ _ HB.out
    have c1 := cell_of_row _ _ 1 _ _ _ HB.out
    have c2 := cell_of_row _ _ 2 _ _ _ HB.out
    go_enter Tryz.func18, Tryz.ntmps18
    go_wp2_with fail
    refine (HMO.out _).mono ?_
    rintro e w1 ⟨rfl, hn⟩
    have hb := (hn.block _ (lt_of_block HB.out)).trans HB.out
    replace HB := Lib.hid hb
    replace HN := Lib.hid (HN.out.trans hn)
    clear c0 c1 c2 hb hn
    go_wp2_with fail
    refine wp_region_class (fun w' => (w'.heap[w.heap.size]? = some (.cells (sdc k b a n c) 30 (0, 0))) ∧ New w1 w') (by kernel_rfl) (by kernel_rfl) ⟨((New.refl w1).drew.block _ (lt_of_block HB.out)).trans HB.out, (New.refl _).drew⟩ ?_
    intro I _ f hall hback
    have HSTEP : Hid (∀ n w', New (f n) w' → ∃ m, w' = f m) := Lib.hid fun n w' hn => hback w' ⟨(hn.block _ (lt_of_block (hall n).1)).trans (hall n).1, (hall n).2.trans hn⟩
    have HALL := Lib.hid fun n => (hall n).2
    have s0 := fun n => cell_of_row _ _ 0 _ _ _ ((hall n).1)
    have s1 := fun n => cell_of_row _ _ 1 _ _ _ ((hall n).1)
    have s2 := fun n => cell_of_row _ _ 2 _ _ _ ((hall n).1)
    clear hall hback
    repeat (go_big_quiet_step (first
      | (go_at_call 9; refine class_new HSTEP.out (HLE.out _))
      | (go_at_call 10; refine class_new HSTEP.out (HMO.out _))))
    refine wpQuiet_nil ?_
    rintro w9 ⟨n1, hw1⟩
    have hS := HALL.out n1
    rw [← hw1] at hS
    replace HB := Lib.hid ((hS.block _ (lt_of_block HB.out)).trans HB.out)
    replace HN := Lib.hid (HN.out.trans hS)
    clear HALL HSTEP hw1 hS s0 s1 s2
    go_wp2
    go_ret
    exact ⟨by rw [HV.out]; rfl, HN.out⟩
  by_cases h2 : msF k < (n : Int)
  · replace HV := Lib.hid (HV.out.trans (if_pos (.inr h2)))
    have hd1 : decide ((n : Int) < lsF k) = false := decide_eq_false h1
    have hd2 : decide (msF k < (n : Int)) = true := decide_eq_true h2
    have c0 := cell_of_row _ _ 0 _ _ _ HB.out
    have c1 := cell_of_row _ _ 1 _ _ _ HB.out
    have c2 := cell_of_row _ _ 2 _ _ _ HB.out
    go_enter Tryz.func18, Tryz.ntmps18
    go_wp2_with fail
    refine (HMO.out _).mono ?_
    rintro e w1 ⟨rfl, hn⟩
    have hb := (hn.block _ (lt_of_block HB.out)).trans HB.out
    replace HB := Lib.hid hb
    replace HN := Lib.hid (HN.out.trans hn)
    clear c0 c1 c2 hb hn
    go_wp2_with fail
    refine wp_region_class (fun w' => (w'.heap[w.heap.size]? = some (.cells (sdc k b a n c) 30 (0, 0))) ∧ New w1 w') (by kernel_rfl) (by kernel_rfl) ⟨((New.refl w1).drew.block _ (lt_of_block HB.out)).trans HB.out, (New.refl _).drew⟩ ?_
    intro I _ f hall hback
    have HSTEP : Hid (∀ n w', New (f n) w' → ∃ m, w' = f m) := Lib.hid fun n w' hn => hback w' ⟨(hn.block _ (lt_of_block (hall n).1)).trans (hall n).1, (hall n).2.trans hn⟩
    have HALL := Lib.hid fun n => (hall n).2
    have s0 := fun n => cell_of_row _ _ 0 _ _ _ ((hall n).1)
    have s1 := fun n => cell_of_row _ _ 1 _ _ _ ((hall n).1)
    have s2 := fun n => cell_of_row _ _ 2 _ _ _ ((hall n).1)
    clear hall hback
    repeat (go_big_quiet_step (first
      | (go_at_call 9; refine class_new HSTEP.out (HLE.out _))
      | (go_at_call 10; refine class_new HSTEP.out (HMO.out _))))
    refine wpQuiet_nil ?_
    rintro w9 ⟨n1, hw1⟩
    have hS := HALL.out n1
    rw [← hw1] at hS
    replace HB := Lib.hid ((hS.block _ (lt_of_block HB.out)).trans HB.out)
    replace HN := Lib.hid (HN.out.trans hS)
    clear HALL HSTEP hw1 hS s0 s1 s2
    go_wp2
    go_ret
    exact ⟨by rw [HV.out]; rfl, HN.out⟩
  replace HV := Lib.hid (HV.out.trans (if_neg (by omega)))
  have hd1 : decide ((n : Int) < lsF k) = false := decide_eq_false h1
  have hd2 : decide (msF k < (n : Int)) = false := decide_eq_false h2
  have HLS : Hid (k = 1 ∨ k = 2 ∨ k = 8 → 1 ≤ n) := Lib.hid (fun hk => by rcases hk with rfl | rfl | rfl <;> (have : ¬ (n : Int) < 1 := h1; omega))
  have c0 := cell_of_row _ _ 0 _ _ _ HB.out
  have c1 := cell_of_row _ _ 1 _ _ _ HB.out
  have c2 := cell_of_row _ _ 2 _ _ _ HB.out
  go_enter Tryz.func18, Tryz.ntmps18
  go_wp2_with fail
  refine (HMO.out _).mono ?_
  rintro e w1 ⟨rfl, hn⟩
  have hb := (hn.block _ (lt_of_block HB.out)).trans HB.out
  replace HB := Lib.hid hb
  replace HN := Lib.hid (HN.out.trans hn)
  replace HROW := Lib.hid (HROW.out.stay hn)
  clear c0 c1 c2 hb hn
  go_wp2_with fail
  refine wp_region_class (fun w' => (w'.heap[w.heap.size]? = some (.cells (sdc k b a n c) 30 (0, 0))) ∧ New w1 w') (by kernel_rfl) (by kernel_rfl) ⟨((New.refl w1).drew.block _ (lt_of_block HB.out)).trans HB.out, (New.refl _).drew⟩ ?_
  intro I _ f hall hback
  have HSTEP : Hid (∀ n w', New (f n) w' → ∃ m, w' = f m) := Lib.hid fun n w' hn => hback w' ⟨(hn.block _ (lt_of_block (hall n).1)).trans (hall n).1, (hall n).2.trans hn⟩
  have HALL := Lib.hid fun n => (hall n).2
  have s0 := fun n => cell_of_row _ _ 0 _ _ _ ((hall n).1)
  have s1 := fun n => cell_of_row _ _ 1 _ _ _ ((hall n).1)
  have s2 := fun n => cell_of_row _ _ 2 _ _ _ ((hall n).1)
  clear hall hback
  repeat (go_big_quiet_step (first
    | (go_at_call 9; refine class_new HSTEP.out (HLE.out _))
    | (go_at_call 10; refine class_new HSTEP.out (HMO.out _))))
  refine wpQuiet_nil ?_
  rintro w9 ⟨n1, hw1⟩
  have hS := HALL.out n1
  rw [← hw1] at hS
  replace HB := Lib.hid ((hS.block _ (lt_of_block HB.out)).trans HB.out)
  replace HROW := Lib.hid (HROW.out.stay hS)
  replace HN := Lib.hid (HN.out.trans hS)
  clear HALL HSTEP hw1 hS s0 s1 s2
  have c0 := cell_of_row _ _ 0 _ _ _ HB.out
  have c1 := cell_of_row _ _ 1 _ _ _ HB.out
  have c2 := cell_of_row _ _ 2 _ _ _ HB.out
  clear h1 h2 hd1 hd2
  by_cases h3 : ¬ b < lbF k ∧ ¬ mbF k < b
  · replace HV := Lib.hid (HV.out.trans (if_neg (by omega)))
    rw [show bkFH k b = true from decide_eq_true h3] at HBI
    clear h3
    go_wp2_with fail
    refine (HBI.out _).mono ?_
    rintro e w5 ⟨rfl, rfl⟩
    by_cases k1 : k = 1
    · subst k1
      have HC := Lib.hid (rcheck_q a n c l _ HROW.out)
      replace HV := Lib.hid (HV.out.trans (show chS 1 b l = chkC l from rfl))
      go_wp2_with fail
      refine HC.out.mono ?_
      rintro e w6 ⟨rfl, rfl⟩
      go_wp2
      go_ret
      exact ⟨by rw [HV.out]; rfl, HN.out⟩
    by_cases k2 : k = 2
    · subst k2
      have hn0 : 0 < n := HLS.out (by omega)
      obtain ⟨g, off, rfl, _⟩ := HROW.out.addr hn0
      have HZ : Hid (∀ w' : World, New w5 w' → w'.cell? ⟨g, off, none⟩ = some (.int .u64 (W64 (l.getD 0 0#64)))) := Lib.hid (fun w' hn => (HROW.out.stay hn).cell g off rfl 0 hn0)
      have HM := Lib.hid (fun w => rcheck_m (l.getD 0 0#64) b w)
      have hpos : ¬ (n : Int) ≤ 0 := by omega
      replace HV := Lib.hid (HV.out.trans (show chS 2 b l = chkM (l.getD 0 0#64) b from rfl))
      clear h hl
      go_wp2_with fail
      refine wp_region_class (fun w' => (w'.heap[w.heap.size]? = some (.cells (sdc 2 b (some ⟨g, off, none⟩) n c) 30 (0, 0))) ∧ New w5 w') (by kernel_rfl) (by kernel_rfl) ⟨((New.refl w5).drew.block _ (lt_of_block HB.out)).trans HB.out, (New.refl _).drew⟩ ?_
      intro I _ f hall hback
      have HSTEP : Hid (∀ n w', New (f n) w' → ∃ m, w' = f m) := Lib.hid fun n w' hn => hback w' ⟨(hn.block _ (lt_of_block (hall n).1)).trans (hall n).1, (hall n).2.trans hn⟩
      have HALL := Lib.hid fun n => (hall n).2
      have s0 := fun n => cell_of_row _ _ 0 _ _ _ ((hall n).1)
      have s1 := fun n => cell_of_row _ _ 1 _ _ _ ((hall n).1)
      have s2 := fun n => cell_of_row _ _ 2 _ _ _ ((hall n).1)
      have z0 := fun n => HZ.out _ (hall n).2
      clear c0 c1 c2 hall hback
      repeat (go_big_quiet_step (first
        | (go_at_call 40; refine class_same (HM.out _))))
      refine wpQuiet_nil ?_
      rintro w9 ⟨n1, hw1⟩
      have hS := HALL.out n1
      rw [← hw1] at hS
      replace HB := Lib.hid ((hS.block _ (lt_of_block HB.out)).trans HB.out)
      replace HN := Lib.hid (HN.out.trans hS)
      clear z0 HALL HSTEP hw1 hS s0 s1 s2
      go_wp2
      go_ret
      exact ⟨by rw [HV.out]; rfl, HN.out⟩
    by_cases k8 : k = 8
    · subst k8
      have hn0 : 0 < n := HLS.out (by omega)
      obtain ⟨g, off, rfl, _⟩ := HROW.out.addr hn0
      have z0 : w5.cell? ⟨g, off, none⟩ = some (.int .u64 (W64 (l.getD 0 0#64))) := HROW.out.cell g off rfl 0 hn0
      have hpos : ¬ (n : Int) ≤ 0 := by omega
      replace HV := Lib.hid (HV.out.trans (show chS 8 b l = (if PP ≤ (l.getD 0 0#64).toNat then 2 else 0) from rfl))
      clear h hl HROW
      generalize l.getD 0 0#64 = x at *
      by_cases hp : PP ≤ x.toNat
      · replace HV := Lib.hid (HV.out.trans (if_pos hp))
        have hw : decide (2305843009213693951 ≤ W64 x) = true := decide_eq_true (by unfold W64; unfold PP at hp; omega)
        clear hp
        go_wp2
        go_ret
        exact ⟨by rw [HV.out]; rfl, HN.out⟩
      · replace HV := Lib.hid (HV.out.trans (if_neg hp))
        have hw : decide (2305843009213693951 ≤ W64 x) = false := decide_eq_false (by unfold W64; unfold PP at hp; omega)
        clear hp
        go_wp2
        go_ret
        exact ⟨by rw [HV.out]; rfl, HN.out⟩
    · replace HV := Lib.hid (HV.out.trans (show chS k b l = 0 by unfold chS; rw [if_neg k1, if_neg k2, if_neg k8]))
      have b1 : (k == 1) = false := by rw [beq_eq_false_iff_ne]; exact k1
      have b2 : (k == 2) = false := by rw [beq_eq_false_iff_ne]; exact k2
      have b8 : (k == 8) = false := by rw [beq_eq_false_iff_ne]; exact k8
      clear k1 k2 k8
      go_wp2
      go_ret
      exact ⟨by rw [HV.out]; rfl, HN.out⟩
  · replace HV := Lib.hid (HV.out.trans (if_pos (by omega)))
    rw [show bkFH k b = false from decide_eq_false h3] at HBI
    clear h3
    go_wp2_with fail
    refine (HBI.out _).mono ?_
    rintro e w5 ⟨rfl, rfl⟩
    go_wp2
    go_ret
    exact ⟨by rw [HV.out]; rfl, HN.out⟩
end Go.Proofs.YtebcfbcfipmahaaGreat
end
section
/- Layer 22: the document's Targets; Shift where something is wrong. -/
namespace Go.Proofs.YtebcfbcfipmahaaGreat
open Go Go.RowKit Go.Bv Go.Tab
set_option linter.unusedVariables false
set_option maxRecDepth 100000
end Go.Proofs.YtebcfbcfipmahaaGreat
end
section
/- Layer 22: Shift. -/
namespace Go.Bv
open Go Go.RowKit
theorem ZRow.far {w : World} {a : Option Addr} {len cap b i : Nat} {l : List Int} (h : ZRow w a len cap l) (hf : ∀ x, a = some x → x.block ≠ b) (v : Value) : ZRow (w.setCell ⟨b, i, Option.none⟩ v) a len cap l where
  len_eq := h.len_eq
  le := h.le
  most := h.most
  room := h.room
  none := h.none
  cell := fun b2 off e k hk => by
    have h1 := h.cell b2 off e k hk
    have h2 : (w.setCell ⟨b, i, Option.none⟩ v).heap[b2]? = w.heap[b2]? := heap_setCell_other _ _ _ _ (hf _ e)
    unfold World.cell? at h1 ⊢
    simp only at h1 ⊢
    rw [h2]
    exact h1
  spot := h.spot
  old := fun x e h0 => by simpa using h.old x e h0
  wf := h.wf
theorem ZRow.of_owns2 {w : World} {base : Nat} {e : TypeId} {v : Value} {n : Nat} {l : List Int} (h : w.ownsRow base e 1 v n (l.map fun x => .int .i64 x)) (hn : n ≤ 17592186044416) (hw : ∀ n ∈ l, In64 n) :
    ∃ a cap, v = .slice a n cap ∧ ZRow w a n cap l ∧ ∀ x, a = some x → base ≤ x.block := by
  obtain ⟨a, cap, rfl, hz⟩ := ZRow.of_owns h hn hw
  refine ⟨a, cap, rfl, hz, fun x e => ?_⟩
  subst e
  rcases h.2 with ⟨e, _⟩ | ⟨g, c2, cur, e, hb, _⟩
  · cases e
  · cases e; exact hb
end Go.Bv
namespace Go.Proofs.YtebcfbcfipmahaaGreat
open Go Go.RowKit Go.Bv Go.Tab
set_option linter.unusedVariables false
set_option maxRecDepth 100000
/-- rows and changes that are made one behind the other -/
structure ShI2 (w wr : World) (gr gb n m : Nat) (R : Nat → List Int) (B : Nat → BitVec 64) (k : Nat) : Prop where
  new : New w wr
  rows : ∃ cs, wr.heap[gr]? = some (.cells cs 55 (0, 0)) ∧ cs.size = n ∧ ∀ i, i < k → ∃ a c, cs[i]? = some (.slice a m c) ∧ ZRow wr a m c (R i) ∧ ∀ x, a = some x → x.block ≠ gr ∧ x.block ≠ gb
  by_ : CR wr gb n (fun j => if j < k then B j else 0#64)
theorem ShI2.stay {w wr w2 : World} {gr gb n m : Nat} {R : Nat → List Int} {B : Nat → BitVec 64} {k : Nat} (h : ShI2 w wr gr gb n m R B k) (hn : New wr w2) : ShI2 w w2 gr gb n m R B k := by
  obtain ⟨cs, h1, h2, h3⟩ := h.rows
  refine ⟨h.new.trans hn, ⟨cs, (hn.block _ (lt_of_block h1)).trans h1, h2, fun i hi => ?_⟩, h.by_.stay hn⟩
  obtain ⟨a, c, e, hz, hf⟩ := h3 i hi
  exact ⟨a, c, e, hz.stay hn, hf⟩
theorem ShI2.next {w q : World} {gr gb n m : Nat} {R : Nat → List Int} {B : Nat → BitVec 64} {k : Nat} (h : ShI2 w q gr gb n m R B k) (hk : k < n) (hgr : w.heap.size ≤ gr) (hgb : w.heap.size ≤ gb) (hne : gr ≠ gb) {a : Option Addr} {c : Nat} (hz : ZRow q a m c (R k)) (hf : ∀ x, a = some x → x.block ≠ gr ∧ x.block ≠ gb) (bv : BitVec 64) (hb : bv = B k) :
    ShI2 w ((q.setCell ⟨gr, k, none⟩ (.slice a m c)).setCell ⟨gb, k, none⟩ (.int .u64 (W64 bv))) gr gb n m R B (k + 1) := by
  obtain ⟨cs, h1, h2, h3⟩ := h.rows
  refine ⟨(h.new.setCell (p := ⟨gr, k, none⟩) hgr _).setCell (p := ⟨gb, k, none⟩) hgb _, ⟨_, (heap_setCell_other _ _ _ _ hne).trans (heap_setCell_same q gr k cs _ (.slice a m c) h1), by rw [Array.size_setIfInBounds]; exact h2, fun i hi => ?_⟩, ?_⟩
  · by_cases e : k = i
    · subst e
      exact ⟨a, c, by rw [Array.getElem?_setIfInBounds, if_pos rfl, if_pos (by omega)], (hz.far (fun x e => (hf x e).1) _).far (fun x e => (hf x e).2) _, hf⟩
    · obtain ⟨a2, c2, e2, hz2, hf2⟩ := h3 i (by omega)
      exact ⟨a2, c2, by rw [Array.getElem?_setIfInBounds, if_neg e]; exact e2, (hz2.far (fun x e => (hf2 x e).1) _).far (fun x e => (hf2 x e).2) _, hf2⟩
  · refine (h.by_.keep (Ne.symm hne) _).put hk bv (by rw [if_pos (by omega), hb]) (fun j hj hjk => ?_)
    by_cases e : j < k
    · rw [if_pos e, if_pos (by omega)]
    · rw [if_neg e, if_neg (by omega)]
theorem ShI2.spots {w q : World} {gr gb n m : Nat} {R : Nat → List Int} {B : Nat → BitVec 64} {k : Nat} (h : ShI2 w q gr gb n m R B k) (hk : k < n) (hne : gr ≠ gb) :
    (∃ v, q.cell? ⟨gr, k, none⟩ = some v) ∧ q.frozen? ⟨gr, k, none⟩ = false ∧ (∀ v, (q.setCell ⟨gr, k, none⟩ v).cell? ⟨gb, k, none⟩ = some (.int .u64 (W64 (if k < k then B k else 0#64)))) ∧ ∀ v, (q.setCell ⟨gr, k, none⟩ v).frozen? ⟨gb, k, none⟩ = false := by
  obtain ⟨cs, h1, h2, h3⟩ := h.rows
  refine ⟨⟨cs[k]'(by omega), (cell_of_row _ _ _ _ _ _ h1).trans (Array.getElem?_eq_getElem (by omega))⟩, frozen_of_row _ _ k _ _ h1, fun v => ((h.by_.keep (Ne.symm hne) v).get hk).1, fun v => ((h.by_.keep (Ne.symm hne) v).get hk).2⟩
theorem ShI2.done {w q : World} {gr gb n m : Nat} {R : Nat → List Int} {B : Nat → BitVec 64} (h : ShI2 w q gr gb n m R B n) (hn : n ≤ 17592186044416) : Rws q gr 0 n m R ∧ QRow q (some ⟨gb, 0, none⟩) n n ((List.range n).map B) := by
  obtain ⟨cs, h1, h2, h3⟩ := h.rows
  refine ⟨fun i hi => ?_, (h.by_.congr (l' := B) (fun j hj => by rw [if_pos hj])).row hn (Nat.le_refl _) (by omega)⟩
  obtain ⟨a, c, e, hz, _⟩ := h3 i hi
  exact ⟨a, c, by rw [Nat.zero_add]; exact (cell_of_row _ _ _ _ _ _ h1).trans e, hz⟩
theorem info_row : (Tryz.prog.info? 55).map (fun i => (i.zero, i.size, i.bytes)) = some (some (.slice none 0 0), 1, 24) := by kernel_rfl
theorem make_rows (n : Nat) (hn : n ≤ 3) (t : Int) (w : World) (ht : t = ((n : Nat) : Int)) : (Instr.makeSlice 107 (.int .i64 t) (.int .i64 t)).run Tryz.prog w = .ok (.slice (some ⟨w.heap.size, 0, none⟩) n n) (w.alloc (.cells (madeCells #[.slice none 0 0] n) 55)) := by
  obtain ⟨i0, hi, hz0, hz1, hz2⟩ := info_parts info_row
  subst ht
  exact run_make_row (P := Tryz.prog) 107 55 i0 (.slice none 0 0) Tryz.underlying107 hi hz0 hz1 rfl .i64 .i64 n (by rw [hz2]; omega) (by omega) w
theorem two_made (w : World) (n m : Nat) (R : Nat → List Int) (B : Nat → BitVec 64) :
    ShI2 w ((w.alloc (.cells (madeCells #[.slice none 0 0] n) 55)).alloc (.cells (madeCells #[.int .u64 0] n) 31)) w.heap.size (w.heap.size + 1) n m R B 0 ∧ ShI2 w ((w.alloc (.cells (madeCells #[.int .u64 0] n) 31)).alloc (.cells (madeCells #[.slice none 0 0] n) 55)) (w.heap.size + 1) w.heap.size n m R B 0 := by
  have e1 : (w.alloc (.cells (madeCells #[.slice none 0 0] n) 55)).heap.size = w.heap.size + 1 := by simp
  have e2 : (w.alloc (.cells (madeCells #[.int .u64 0] n) 31)).heap.size = w.heap.size + 1 := by simp
  constructor
  · refine ⟨((New.refl w).alloc _).alloc _, ⟨_, (((New.refl (w.alloc _)).alloc _).block _ (by rw [e1]; omega)).trans (heap_alloc_new w _), size_madeCells _ _, fun i hi => absurd hi (by omega)⟩, ?_⟩
    rw [← e1]
    exact (cr_made _ n).congr (fun j _ => by rw [if_neg (by omega)])
  · refine ⟨((New.refl w).alloc _).alloc _, ⟨_, (by rw [← e2]; exact heap_alloc_new _ _), size_madeCells _ _, fun i hi => absurd hi (by omega)⟩, ?_⟩
    exact ((cr_made w n).stay ((New.refl _).alloc _)).congr (fun j _ => by rw [if_neg (by omega)])
/-- the seed that Shift makes -/
def byB (l : List (BitVec 64)) (bits : Int) (N : Int) (xl yl : List (BitVec 64)) : Nat → BitVec 64 := fun i => evV l bits N (xl.getD i 0) ^^^ yl.getD i 0
def shL (l : List (BitVec 64)) (bits : Int) (xl yl : List (BitVec 64)) : List (BitVec 64) := aimL l xl.length 8 (fun i => lets (xl.getD i 0) 8) ((List.range xl.length).map (byB l bits 128 xl yl))
theorem lets_inj (x y : BitVec 64) (hx : x >>> 32 = 0#64) (hy : y >>> 32 = 0#64) (h : lets x 8 = lets y 8) : x = y := by
  have hl : ∀ i, i < 8 → (x >>> (4 * i)) % 16#64 = (y >>> (4 * i)) % 16#64 := by
    intro i hi
    have h1 := congrArg (fun l : List Int => l.getD i 0) h
    simp only [lets_at _ _ _ hi] at h1
    unfold lat W64 at h1
    exact BitVec.eq_of_toNat_eq (by omega)
  have h0 := hl 0 (by omega)
  have h1 := hl 1 (by omega)
  have h2 := hl 2 (by omega)
  have h3 := hl 3 (by omega)
  have h4 := hl 4 (by omega)
  have h5 := hl 5 (by omega)
  have h6 := hl 6 (by omega)
  have h7 := hl 7 (by omega)
  have hx2 : x.toNat < 2 ^ 32 := by have := shr_natT x 32; rw [hx] at this; simpa using this.symm
  have hy2 : y.toNat < 2 ^ 32 := by have := shr_natT y 32; rw [hy] at this; simpa using this.symm
  have hh : ∀ i, i < 8 → x.toNat / 2 ^ (4 * i) % 16 = y.toNat / 2 ^ (4 * i) % 16 := by
    intro i hi
    have := congrArg BitVec.toNat (hl i hi)
    rw [BitVec.toNat_umod, BitVec.toNat_umod, BitVec.toNat_ushiftRight, BitVec.toNat_ushiftRight, Nat.shiftRight_eq_div_pow, Nat.shiftRight_eq_div_pow] at this
    exact this
  have g0 := hh 0 (by omega)
  have g1 := hh 1 (by omega)
  have g2 := hh 2 (by omega)
  have g3 := hh 3 (by omega)
  have g4 := hh 4 (by omega)
  have g5 := hh 5 (by omega)
  have g6 := hh 6 (by omega)
  have g7 := hh 7 (by omega)
  apply BitVec.eq_of_toNat_eq
  simp only [Nat.reduceMul, Nat.reducePow, Nat.div_one] at g0 g1 g2 g3 g4 g5 g6 g7 hx2 hy2
  omega
end Go.Proofs.YtebcfbcfipmahaaGreat
end
section
/- Layer 22: Shift as a whole. -/
namespace Go.Proofs.YtebcfbcfipmahaaGreat
open Go Go.RowKit Go.Bv Go.Tab
set_option linter.unusedVariables false
set_option maxRecDepth 100000
theorem ow_lower {w : World} {base base' size : Nat} {e : TypeId} {v : Value} {n : Nat} {xs : List Value} (h : w.ownsRow base e size v n xs) (hb : base' ≤ base) : w.ownsRow base' e size v n xs := by
  refine ⟨h.1, ?_⟩
  rcases h.2 with h2 | ⟨g, cap, cur, hv, hg, rest⟩
  · exact .inl h2
  · exact .inr ⟨g, cap, cur, hv, Nat.le_trans hb hg, rest⟩
set_option maxHeartbeats 8000000 in
theorem shift_no (a : Option Addr) (na ca : Nat) (l : List (BitVec 64)) (bits : Int) (x : Option Addr) (nx cx : Nat) (xl : List (BitVec 64)) (y : Option Addr) (ny cy : Nat) (yl : List (BitVec 64)) (w : World) (ha : QRow w a na ca l) (hx : QRow w x nx cx xl) (hy : QRow w y ny cy yl) (hne : csE bits l.length 128 xl yl ≠ 0) :
    Calls Tryz.prog 49 #[.slice a na ca, .int .i64 bits, .slice x nx cx, .slice y ny cy] w fun e w' => e = .returned (.tuple #[.slice none 0 0, .int .i64 (csE bits l.length 128 xl yl)]) ∧ New w w' := by
  have HC := Lib.hid (check_shift a na ca l bits x nx cx xl y ny cy yl w ha hx hy)
  have hb : (csE bits l.length 128 xl yl != 0) = true := by rw [bne_iff_ne]; exact hne
  clear ha hx hy hne
  generalize csE bits l.length 128 xl yl = E at HC hb ⊢
  go_enter Tryz.func49, Tryz.ntmps49
  go_wp2_with fail
  refine HC.out.mono ?_
  rintro e w1 ⟨rfl, n1⟩
  go_wp2
  go_ret2
  exact ⟨rfl, n1⟩
set_option maxHeartbeats 8000000 in
theorem shift_ok (a : Option Addr) (na ca : Nat) (l : List (BitVec 64)) (bits : Int) (x : Option Addr) (nx cx : Nat) (xl : List (BitVec 64)) (y : Option Addr) (cy : Nat) (yl : List (BitVec 64)) (w : World) (ha : QRow w a na ca l) (hx : QRow w x nx cx xl) (hy : QRow w y nx cy yl) (h0 : csE bits l.length 128 xl yl = 0) :
    Calls Tryz.prog 49 #[.slice a na ca, .int .i64 bits, .slice x nx cx, .slice y nx cy] w fun e w' => ∃ v, e = .returned (.tuple #[v, .int .i64 0]) ∧ w'.ownsRow w.heap.size 31 1 v na ((shL l bits xl yl).map fun x => .int .u64 (W64 x)) ∧ New w w' := by
  have hck : chk bits l.length 128 = 0 := by
    unfold csE at h0
    by_cases e : chk bits l.length 128 = 0
    · exact e
    · rw [if_pos e] at h0; exact h0
  obtain ⟨b1, b2, b3⟩ := chk_good hck
  have htg : tgE bits.toNat xl yl = 0 := by unfold csE at h0; rwa [if_neg (by rw [hck]; simp)] at h0
  obtain ⟨t1, t2, t3, t4, t5⟩ := tg_zero htg
  have hlx := hx.len_eq
  have hC := check_shift a na ca l bits x nx cx xl y nx cy yl w ha hx hy
  rw [h0] at hC
  have HC := Lib.hid hC
  have hmk1 : ∀ W : World, (Instr.makeSlice 107 (.int .i64 (nx : Int)) (.int .i64 (nx : Int))).run Tryz.prog W = .ok (.slice (some ⟨W.heap.size, 0, none⟩) nx nx) (W.alloc (.cells (madeCells #[.slice none 0 0] nx) 55)) := fun W => make_rows nx (by omega) _ W rfl
  have hmk2 : ∀ W : World, (Instr.makeSlice 28 (.int .i64 (nx : Int)) (.int .i64 (nx : Int))).run Tryz.prog W = .ok (.slice (some ⟨W.heap.size, 0, none⟩) nx nx) (W.alloc (.cells (madeCells #[.int .u64 0] nx) 31)) := fun W => make_w22 nx (by omega) _ W rfl
  have HEV := Lib.hid (fun k w' (hw : New w w') => eval_any a na ca l bits (xl.getD k 0) w' (ha.stay hw))
  have HCH := Lib.hid (fun k w' => chars_own (xl.getD k 0) 8 8 (by omega) (by decide) w')
  have HAIM := Lib.hid (fun (g b : Nat) w' (hw : New w w') (h : Rws w' g 0 nx 8 (fun i => lets (xl.getD i 0) 8)) (hb : QRow w' (some ⟨b, 0, none⟩) nx nx ((List.range nx).map (byB l bits 128 xl yl))) =>
    aim_ok a na ca l g 0 nx nx 8 (Nat.le_refl _) (by omega) (by omega) (by omega) (by omega) (fun i => lets (xl.getD i 0) 8) (fun i hi => fit_lets _ _ 8 (by omega)) (fun i hi => lets_len _ _) (fun i j hi hj hij he => t5 i j (by omega) (by omega) hij (lets_inj _ _ (t4 i (by omega)).1 (t4 j (by omega)).1 he)) (some ⟨b, 0, none⟩) nx _ w' (ha.stay hw) h hb)
  have hsh : shL l bits xl yl = aimL l nx 8 (fun i => lets (xl.getD i 0) 8) ((List.range nx).map (byB l bits 128 xl yl)) := by unfold shL; rw [hlx]
  have HSH := Lib.hid hsh
  have hnx0 : 0 < nx := by omega
  have hnx3 : nx ≤ 3 := by omega
  have HEE : Hid (∀ k, k < nx → evE bits l.length 128 (xl.getD k 0) = 0) := Lib.hid (fun k hk => by
    have h4 := (t4 k (by omega)).1
    have h5 := shr_natT (xl.getD k 0) 32
    rw [h4] at h5
    unfold evE
    rw [if_neg (by rw [hck]; simp), if_pos (by simpa using h5.symm)])
  obtain ⟨p1, o1, e1, _⟩ := hx.addr hnx0
  subst e1
  obtain ⟨p2, o2, e2, _⟩ := hy.addr hnx0
  subst e2
  have HX := Lib.hid hx
  have HY := Lib.hid hy
  clear ha hx hy h0 hck b1 b2 b3 htg t1 t2 t3 t4 t5 hC hsh hlx
  go_enter Tryz.func49, Tryz.ntmps49
  go_wp2_with fail
  refine HC.out.mono ?_
  rintro e w1 ⟨rfl, n1⟩
  have HN1 := Lib.hid n1
  clear n1 HC
  go_wp2_with fail
  go_cut [11, 12] (fun c d wx => ∃ gr gb, c = .slice (some ⟨gr, 0, none⟩) nx nx ∧ d = .slice (some ⟨gb, 0, none⟩) nx nx ∧ w1.heap.size ≤ gr ∧ w1.heap.size ≤ gb ∧ gr ≠ gb ∧ ShI2 w1 wx gr gb nx 8 (fun i => lets (xl.getD i 0) 8) (byB l bits 128 xl yl) 0)
  case first =>
    go_region_held3 (fun w' => New w1 w')
      (repeat (first | with_reducible assumption | with_reducible exact New.refl _ | with_reducible apply New.drew | with_reducible refine New.alloc ?_ _))
      (fail)
    all_goals (
      go_wp2_with fail
      go_meet
      case rel =>
        first
          | exact ⟨_, _, rfl, rfl, Nat.le_refl _, by simp, by simp, (two_made w1 nx 8 _ _).1⟩
          | exact ⟨_, _, rfl, rfl, by simp, Nat.le_refl _, by simp, (two_made w1 nx 8 _ _).2⟩
          | exact ⟨_, _, rfl, rfl, Nat.le_refl _, by simp, by simp, (two_made w1 nx 8 _ _).1.stay (New.refl _).drew⟩
          | exact ⟨_, _, rfl, rfl, by simp, Nat.le_refl _, by simp, (two_made w1 nx 8 _ _).2.stay (New.refl _).drew⟩)
  case rest =>
    obtain ⟨gr, gb, rfl, rfl, hgr, hgb, hne, hst⟩ := hcut
    have HST := Lib.hid hst
    have HGR : Hid (w.heap.size ≤ gr) := Lib.hid (Nat.le_trans HN1.out.le hgr)
    have HGB : Hid (w.heap.size ≤ gb) := Lib.hid (Nat.le_trans HN1.out.le hgb)
    have HNE := Lib.hid hne
    have HG1 := Lib.hid hgr
    have HG2 := Lib.hid hgb
    clear hmk1 hmk2 hgr hgb hne hst
    go_wp2
    go_loopw [33] (fun iv wr => ∃ k : Nat, k ≤ nx ∧ iv = .int .i64 (k : Int) ∧ Hid (ShI2 w1 wr gr gb nx 8 (fun i => lets (xl.getD i 0) 8) (byB l bits 128 xl yl) k)) (fun iv _ => nx - (intOf iv).toNat)
    case atStart => exact ⟨0, Nat.zero_le _, rfl, HST⟩
    case round =>
      clear HST
      obtain ⟨k, hk, rfl, HI⟩ := hrel
      by_cases hlt : (k : Int) < (nx : Int)
      · have hk0 : (0 : Int) ≤ (k : Int) := by omega
        have hkn : k < nx := by omega
        have HW := Lib.hid (HN1.out.trans HI.out.new)
        have d1 := (HX.out.stay HW.out).cell p1 o1 rfl k hkn
        have HE := Lib.hid (HEV.out k _ HW.out)
        have hee := HEE.out k hkn
        rw [hee] at HE
        have HB : Hid (byB l bits 128 xl yl k = evV l bits 128 (xl.getD k 0) ^^^ yl.getD k 0) := Lib.hid rfl
        have HC1 := Lib.hid (HCH.out k)
        have HYC : Hid (∀ w', New w w' → w'.cell? ⟨p2, o2 + k, none⟩ = some (.int .u64 (W64 (yl.getD k 0)))) := Lib.hid (fun w' hn => (HY.out.stay hn).cell p2 o2 rfl k hkn)
        have HR : Hid ((fun i => lets (xl.getD i 0) 8) k = lets (xl.getD k 0) 8) := Lib.hid rfl
        obtain ⟨xv, hxv⟩ : ∃ xv, xl.getD k 0 = xv := ⟨_, rfl⟩
        obtain ⟨yv, hyv⟩ : ∃ yv, yl.getD k 0 = yv := ⟨_, rfl⟩
        rw [hxv] at d1 HE HB HC1 HR
        rw [hyv] at HB HYC
        obtain ⟨ev, hev⟩ : ∃ ev, evV l bits 128 xv = ev := ⟨_, rfl⟩
        rw [hev] at HE HB
        clear hxv hyv hev hee
        go_wp2_with fail
        refine HE.out.mono ?_
        rintro e w5 ⟨rfl, n5⟩
        have HI5 := Lib.hid (HI.out.stay n5)
        have HW5 := Lib.hid (HN1.out.trans HI5.out.new)
        have HFAR : Hid (∀ b, w5.heap.size ≤ b → b ≠ gr ∧ b ≠ gb) := Lib.hid (fun b hb => by
          obtain ⟨cs, h1, _⟩ := HI5.out.rows
          have h2 := lt_of_block h1
          have h3 := HI5.out.by_.lt
          omega)
        clear HI HW HE d1 n5
        go_wp2_with fail
        have SK : Hid (∀ w', New w w' → New w w' ∧ w'.cell? ⟨p2, o2 + k, none⟩ = some (.int .u64 (W64 yv))) := Lib.hid (fun w' hn => ⟨hn, HYC.out w' hn⟩)
        have hw0 := HW5.out
        obtain ⟨_, ce⟩ := SK.out w5 hw0
        have HLE1 : Hid (w.heap.size ≤ (⟨gr, k, none⟩ : Addr).block) := HGR
        have HLE2 : Hid (w.heap.size ≤ (⟨gb, k, none⟩ : Addr).block) := HGB
        go_region_held3 (fun w' => New w w' ∧ w'.cell? ⟨p2, o2 + k, none⟩ = some (.int .u64 (W64 yv)))
          ((refine SK.out _ ?_; repeat (first | with_reducible assumption | with_reducible exact New.refl _ | with_reducible refine New.drew ?_ | (with_reducible refine New.setCell ?_ HLE1.out _) | (with_reducible refine New.setCell ?_ HLE2.out _))))
          (first
            | (go_at_call 93
               refine (HC1.out _).mono ?_
               rintro e q0 ⟨v, rfl, hv, hc0⟩
               have hg0 : New w5 q0 := by first | with_reducible exact (New.refl w5).drew.trans hc0 | with_reducible exact hc0
               have hgw : New w q0 := HW5.out.trans hg0
               obtain ⟨a4, c4, rfl, hz4, hf4⟩ := ZRow.of_owns2 hv (by omega) (lets_wf _ _)
               obtain ⟨⟨v0, dv0⟩, dvf, de0, def0⟩ := (HI5.out.stay hg0).spots hkn HNE.out
               have HQ := Lib.hid hg0
               have HZ := Lib.hid hz4
               have HF4 := Lib.hid hf4
               have HLT4 : Hid (w5.heap.size ≤ q0.heap.size) := Lib.hid hg0.le
               clear hv hc0 hz4 hf4))
        all_goals (
          go_wp2
          exact ⟨⟨k + 1, by omega, by go_num, Lib.hid ((HI5.out.stay HQ.out).next hkn HG1.out HG2.out HNE.out (by rw [HR.out]; exact HZ.out) (fun x e => HFAR.out _ (HF4.out x e)) _ HB.out.symm)⟩, by simp [intOf]; omega⟩)
      · obtain rfl : k = nx := by omega
        obtain ⟨hrw, hby⟩ := HI.out.done (by omega)
        have HA := Lib.hid (HAIM.out gr gb _ (HN1.out.trans HI.out.new) hrw hby)
        have HW := Lib.hid (HN1.out.trans HI.out.new)
        clear hrw hby HI
        go_wp2_with fail
        refine HA.out.mono ?_
        rintro e w9 ⟨v9, rfl, hq9, n9⟩
        have HQ9 := Lib.hid (ow_lower hq9 HW.out.le)
        have HN9 := Lib.hid (HW.out.trans n9)
        clear hq9 n9
        go_wp2
        go_ret2
        rw [HSH.out]
        exact ⟨_, rfl, HQ9.out, HN9.out⟩
end Go.Proofs.YtebcfbcfipmahaaGreat
end
