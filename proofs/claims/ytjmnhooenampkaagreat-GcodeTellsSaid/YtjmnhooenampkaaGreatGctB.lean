/- Layer 17: any state as bytes and as a line, or what is wrong with it: the walk of the statement GcodeTells; the chapter's example. -/
import Derived.Test.YtjmnhooenampkaaGreatGctA
import Derived.Test.YtjmnhooenampkaaGreatGrow
namespace Go.Bv
open Go Go.RowKit
def SV (n : Nat) (v : Value) : Prop := ∃ a c, v = .slice a n c
def SR (l : List (BitVec 8)) (n : Nat) (v : Value) (w : World) : Prop := ∀ a c, v = .slice a n c → BRow w a n c l
theorem SV.some (n : Nat) : ∃ v, SV n v := ⟨.slice none n 0, none, 0, rfl⟩
theorem SR.stay {l : List (BitVec 8)} {n : Nat} {v : Value} {w w' : World} (h : SR l n v w) (hn : New w w') : SR l n v w' := fun a c e => (h a c e).stay hn
theorem SR.row {l : List (BitVec 8)} {n c : Nat} {a : Option Addr} {w : World} (h : SR l n (.slice a n c) w) : BRow w a n c l := h a c rfl
end Go.Bv
namespace Go.Proofs.YtjmnhooenampkaaGreat
open Go.RowKit Go.Bv
set_option linter.unusedVariables false
theorem ex17_chk : chkK 1 ⟨0#64, 0#64, 0#64, 0#64⟩ = 0 := by decide
theorem ex17_line : tG 1 ⟨0#64, 0#64, 0#64, 0#64⟩ 1 = ⟨#[115, 112, 108, 105, 116, 32, 48, 48, 48, 48, 48, 48, 48, 48, 48, 48, 48, 48, 48, 48, 48, 48]⟩ := by decide +kernel
set_option maxRecDepth 100000 in
set_option maxHeartbeats 1000000 in
theorem awake17 (w : World) : Calls Tryz.prog 4 #[] w fun e w' => e = .returned (.bool true) ∧ New w w' := by
  have H1 := Lib.hid (fun w => marshal_yes 1 ⟨0#64, 0#64, 0#64, 0#64⟩ w ex17_chk)
  have H2 := Lib.hid (fun w => line_yes 1 ⟨0#64, 0#64, 0#64, 0#64⟩ w ex17_chk)
  rw [show nK 1 = 1 from rfl, show stc 1 ⟨0#64, 0#64, 0#64, 0#64⟩ = #[.int .i64 1, .int .u64 0, .int .u64 0, .int .u64 0, .int .u64 0] from rfl] at H1 H2
  rw [ex17_line] at H2
  go_enter Tryz.func4, Tryz.ntmps4
  go_wp2_with fail
  refine (H1.out _).mono ?_
  rintro e w9 ⟨⟨a, c, rfl, _⟩, hn⟩
  have HN := Lib.hid hn
  clear hn H1
  go_wp2_with fail
  refine (H2.out _).mono ?_
  rintro e w9 ⟨rfl, hn⟩
  replace HN := Lib.hid (HN.out.trans hn)
  clear hn H2
  go_wp2
  go_ret
  exact ⟨rfl, HN.out⟩
set_option maxRecDepth 100000 in
set_option maxHeartbeats 8000000 in
theorem GcodeTells_walk (W : World) (k : Int) (b0_0 : -9223372036854775808 ≤ k ∧ k ≤ 9223372036854775807) (x0_1 : BitVec 64) (x0_2 : BitVec 64) (x0_3 : BitVec 64) (x0_4 : BitVec 64) :
    Calls Tryz.prog 3 #[.agg #[.int .i64 k, .int .u64 (W64 x0_1), .int .u64 (W64 x0_2), .int .u64 (W64 x0_3), .int .u64 (W64 x0_4)]] W fun e w' => e = .returned (.bool true) ∧ Below W.heap.size W w' := by
  obtain ⟨q, hq⟩ : ∃ q : W4, q = ⟨x0_1, x0_2, x0_3, x0_4⟩ := ⟨_, rfl⟩
  show Calls Tryz.prog 3 #[.agg (stc k ⟨x0_1, x0_2, x0_3, x0_4⟩)] W fun e w' => e = .returned (.bool true) ∧ Below W.heap.size W w'
  rw [← hq]
  clear hq b0_0
  have HA := Lib.hid (fun w => awake17 w)
  have HC := Lib.hid (fun w => rcheck_any k q w)
  generalize hW : W.alloc (.cells (stc k q) 25) = w0
  have HB : Hid (w0.heap[W.heap.size]? = some (.cells (stc k q) 25 (0, 0))) := Lib.hid (by rw [← hW]; exact heap_alloc_new W _)
  have HN0 : Hid (New W w0) := Lib.hid (by rw [← hW]; exact (New.refl W).alloc _)
  have HCS := Lib.hid (fun (w' : World) (hn : New w0 w') => (hn.block _ (lt_of_block HB.out)).trans HB.out)
  by_cases hc : chkK k q = 0
  · have H1 := Lib.hid (fun w => marshal_yes k q w hc)
    have H2 := Lib.hid (fun w => line_yes k q w hc)
    have H3 := Lib.hid (fun w => rline_yes k q w hc)
    have H4 : Hid (∀ w : World, Calls Tryz.prog 9 #[.agg (stc k q)] w fun e w' => ∃ v, e = .returned v ∧ (SV (6 + 8 * nK k) v ∧ SR (seal16 (bG k q (nK k))) (6 + 8 * nK k) v w') ∧ New w w') := Lib.hid (fun w => (rbytes_yes k q w hc).mono fun e w' ⟨⟨a, c, he, hr⟩, hn⟩ => ⟨_, he, ⟨⟨a, c, rfl⟩, fun a2 c2 e2 => by cases e2; exact hr⟩, hn⟩)
    rw [hc] at HC
    generalize hB2 : seal16 (bG k q (nK k)) = l at *
    generalize tG k q (nK k) = tx at *
    generalize 6 + 8 * nK k = N at *
    clear hB2 hc
    have hbq : (l == l) = true := beq_self_eq_true l
    go_enter Tryz.func3, Tryz.ntmps3
    go_wp2_with fail
    refine (HA.out _).mono ?_
    rintro e w1 ⟨rfl, hn1⟩
    have HN := Lib.hid hn1
    clear hn1
    have c0 := cell_of_row _ _ 0 _ _ _ (HCS.out w1 HN.out)
    have c1 := cell_of_row _ _ 1 _ _ _ (HCS.out w1 HN.out)
    have c2 := cell_of_row _ _ 2 _ _ _ (HCS.out w1 HN.out)
    have c3 := cell_of_row _ _ 3 _ _ _ (HCS.out w1 HN.out)
    have c4 := cell_of_row _ _ 4 _ _ _ (HCS.out w1 HN.out)
    go_wp2_with fail
    refine (H1.out _).mono ?_
    rintro e w2 ⟨⟨a, c, rfl, hr⟩, hn⟩
    replace HN := Lib.hid (HN.out.trans hn)
    have HR := Lib.hid hr
    clear hr hn
    clear c0 c1 c2 c3 c4
    have c0 := cell_of_row _ _ 0 _ _ _ (HCS.out w2 HN.out)
    have c1 := cell_of_row _ _ 1 _ _ _ (HCS.out w2 HN.out)
    have c2 := cell_of_row _ _ 2 _ _ _ (HCS.out w2 HN.out)
    have c3 := cell_of_row _ _ 3 _ _ _ (HCS.out w2 HN.out)
    have c4 := cell_of_row _ _ 4 _ _ _ (HCS.out w2 HN.out)
    go_wp2_with fail
    refine (HC.out _).mono ?_
    rintro e w3 ⟨rfl, hn⟩
    replace HN := Lib.hid (HN.out.trans hn)
    replace HR := Lib.hid (HR.out.stay hn)
    clear hn
    clear c0 c1 c2 c3 c4
    have HSM : Hid (∀ (w' : World) (a1 : Option Addr) (c1 : Nat), New w3 w' → BRow w' a1 N c1 l → Calls Tryz.prog 8 #[.slice a N c, .slice a1 N c1] w' fun e w'' => e = .returned (.bool true) ∧ New w' w'') := Lib.hid (fun w' a1 c1 hn hr => by
      have h := same_any a a1 N c N c1 l l w' (HR.out.stay hn) hr
      rw [hbq] at h
      exact h.mono fun e w'' ⟨he, hw⟩ => ⟨he, by rw [hw]; exact New.refl _⟩)
    go_wp2_with fail
    refine Grow.wp_region_growS (fun w' => w'.heap[W.heap.size]? = some (.cells (stc k q) 25 (0, 0)) ∧ New w3 w') (fun k => [5, 6, 10, 12].contains k) (by kernel_rfl) (by kernel_rfl) (by kernel_rfl) ⟨HCS.out _ (HN.out.trans (New.refl _).drew), (New.refl _).drew⟩ ?_
    intro I _ f hall hback
    have HALL := Lib.hid hall
    have HSTEP : Hid (∀ n w', New (f n) w' → ∃ m, w' = f m) := Lib.hid fun n w' hn => hback w' ⟨(hn.block _ (lt_of_block (hall n).1)).trans (hall n).1, (hall n).2.trans hn⟩
    have s0 := fun n => cell_of_row _ _ 0 _ _ _ (hall n).1
    have s1 := fun n => cell_of_row _ _ 1 _ _ _ (hall n).1
    have s2 := fun n => cell_of_row _ _ 2 _ _ _ (hall n).1
    have s3 := fun n => cell_of_row _ _ 3 _ _ _ (hall n).1
    have s4 := fun n => cell_of_row _ _ 4 _ _ _ (hall n).1
    clear hall hback
    refine Grow.wpGrow_take 5 (by kernel_rfl) ?_
    simp only [List.take, List.drop, List.length]
    repeat (go_big_quiet_step (fail))
    refine wpQuiet_nil ?_
    refine Grow.wpGrow_call (SV N) (SR l N) rfl rfl (SV.some _) (fun w1 hB hG => ?_) (fun v1 A1 hv1 hA => ?_)
    · obtain ⟨n, rfl⟩ := hB
      go_simp
      refine (H4.out _).mono ?_
      rintro e w2 ⟨v, rfl, hv, hn⟩
      obtain ⟨hva, hvb⟩ := hv
      exact ⟨_, rfl, HSTEP.out _ _ hn, hva, hvb⟩
    simp [Act.put] at hA
    subst hA
    obtain ⟨a1, c1, rfl⟩ := hv1
    refine Grow.wpGrow_one (.bool true) rfl rfl (fun w1 hB hG => ?_) (fun A2 hA => ?_)
    · obtain ⟨n, rfl⟩ := hB
      go_simp
      refine (HSM.out _ _ _ (HALL.out n).2 hG.2.row).mono ?_
      rintro e w2 ⟨rfl, hn⟩
      first | exact ⟨_, rfl, HSTEP.out _ _ hn, rfl, hG.2.stay hn⟩ | exact ⟨rfl, HSTEP.out _ _ hn, hG.2.stay hn⟩
    simp [Act.put] at hA
    subst hA
    refine Grow.wpGrow_take 3 (by kernel_rfl) ?_
    simp only [List.take, List.drop, List.length]
    repeat (go_big_quiet_step (fail))
    refine wpQuiet_nil ?_
    refine Grow.wpGrow_one (.string tx) rfl rfl (fun w1 hB hG => ?_) (fun A3 hA => ?_)
    · obtain ⟨n, rfl⟩ := hB
      go_simp
      refine (H2.out _).mono ?_
      rintro e w2 ⟨rfl, hn⟩
      first | exact ⟨_, rfl, HSTEP.out _ _ hn, rfl, hG.2.stay hn⟩ | exact ⟨rfl, HSTEP.out _ _ hn, hG.2.stay hn⟩
    simp [Act.put] at hA
    subst hA
    refine Grow.wpGrow_take 1 (by kernel_rfl) ?_
    simp only [List.take, List.drop, List.length]
    repeat (go_big_quiet_step (fail))
    refine wpQuiet_nil ?_
    refine Grow.wpGrow_one (.string tx) rfl rfl (fun w1 hB hG => ?_) (fun A4 hA => ?_)
    · obtain ⟨n, rfl⟩ := hB
      go_simp
      refine (H3.out _).mono ?_
      rintro e w2 ⟨rfl, hn⟩
      first | exact ⟨_, rfl, HSTEP.out _ _ hn, rfl, hG.2.stay hn⟩ | exact ⟨rfl, HSTEP.out _ _ hn, hG.2.stay hn⟩
    simp [Act.put] at hA
    subst hA
    refine Grow.wpGrow_take 3 (by kernel_rfl) ?_
    simp only [List.take, List.drop, List.length]
    repeat (go_big_quiet_step (fail))
    refine wpQuiet_nil ?_
    refine Grow.wpGrow_nil ?_
    rintro w9 ⟨n9, rfl⟩ hG
    have HN5 := Lib.hid (HN0.out.trans (HN.out.trans (HALL.out n9).2))
    clear HALL HSTEP s0 s1 s2 s3 s4 hG
    generalize f n9 = w10 at *
    go_wp2
    go_ret
    exact ⟨rfl, HN5.out⟩
  · have H1 := Lib.hid (fun w => marshal_no k q w hc)
    have H2 := Lib.hid (fun w => line_no k q w hc)
    have hcn : (chkK k q != 0) = true := by rw [bne_iff_ne]; exact hc
    have hce : (chkK k q == chkK k q) = true := beq_self_eq_true _
    clear hc
    go_enter Tryz.func3, Tryz.ntmps3
    go_wp2_with fail
    refine (HA.out _).mono ?_
    rintro e w1 ⟨rfl, hn1⟩
    have HN := Lib.hid hn1
    clear hn1
    have c0 := cell_of_row _ _ 0 _ _ _ (HCS.out w1 HN.out)
    have c1 := cell_of_row _ _ 1 _ _ _ (HCS.out w1 HN.out)
    have c2 := cell_of_row _ _ 2 _ _ _ (HCS.out w1 HN.out)
    have c3 := cell_of_row _ _ 3 _ _ _ (HCS.out w1 HN.out)
    have c4 := cell_of_row _ _ 4 _ _ _ (HCS.out w1 HN.out)
    go_wp2_with fail
    refine (H1.out _).mono ?_
    rintro e w2 ⟨rfl, hn⟩
    replace HN := Lib.hid (HN.out.trans hn)
    clear hn
    clear c0 c1 c2 c3 c4
    have c0 := cell_of_row _ _ 0 _ _ _ (HCS.out w2 HN.out)
    have c1 := cell_of_row _ _ 1 _ _ _ (HCS.out w2 HN.out)
    have c2 := cell_of_row _ _ 2 _ _ _ (HCS.out w2 HN.out)
    have c3 := cell_of_row _ _ 3 _ _ _ (HCS.out w2 HN.out)
    have c4 := cell_of_row _ _ 4 _ _ _ (HCS.out w2 HN.out)
    go_wp2_with fail
    refine (HC.out _).mono ?_
    rintro e w3 ⟨rfl, hn⟩
    replace HN := Lib.hid (HN.out.trans hn)
    clear hn
    clear c0 c1 c2 c3 c4
    have c0 := cell_of_row _ _ 0 _ _ _ (HCS.out w3 HN.out)
    have c1 := cell_of_row _ _ 1 _ _ _ (HCS.out w3 HN.out)
    have c2 := cell_of_row _ _ 2 _ _ _ (HCS.out w3 HN.out)
    have c3 := cell_of_row _ _ 3 _ _ _ (HCS.out w3 HN.out)
    have c4 := cell_of_row _ _ 4 _ _ _ (HCS.out w3 HN.out)
    go_wp2_with fail
    refine (H2.out _).mono ?_
    rintro e w4 ⟨rfl, hn⟩
    replace HN := Lib.hid (HN.out.trans hn)
    clear hn
    clear c0 c1 c2 c3 c4
    go_wp2
    go_ret
    exact ⟨rfl, HN0.out.trans HN.out⟩
end Go.Proofs.YtjmnhooenampkaaGreat
