import Derived.Test.YtebcfbcfipmahaaGreatYFamM
import Derived.Test.YtebcfbcfipmahaaGreatYSeeF
/- Layer 27: what any seed brings any key to, or what is wrong; how many keys it maps evenly: the walk of the statement FamilyEvals. -/
namespace Go.Proofs.YtebcfbcfipmahaaGreat
open Go.RowKit Go.Bv
set_option linter.unusedVariables false
set_option maxRecDepth 100000
set_option maxHeartbeats 2000000 in
theorem rtogether_27 (k b : Int) (a : Option Addr) (n c : Nat) (l : List (BitVec 64)) (w : World) (h : QRow w a n c l) : Calls Tryz.prog 20 #[.agg (sdc k b a n c)] w fun e w' => e = .returned (.int .i64 (if chF k b l = 0 then tgK k n else 0)) ∧ New w w' := by
  generalize hW : w.alloc (.cells (sdc k b a n c) 30) = w0
  have HB : Hid (w0.heap[w.heap.size]? = some (.cells (sdc k b a n c) 30 (0, 0))) := Lib.hid (by rw [← hW]; exact heap_alloc_new w _)
  have HN : Hid (New w w0) := Lib.hid (by rw [← hW]; exact (New.refl w).alloc _)
  have HROW := Lib.hid (h.stay HN.out)
  have HRC := Lib.hid (rcheck_27 k b a n c l w0 HROW.out)
  by_cases hz : chF k b l = 0
  · rw [hz] at HRC
    rw [if_pos hz]
    have hl := h.len_eq
    rcases okF_k (chF_ok rfl hz).1 with rfl | rfl | rfl | rfl | rfl | rfl | rfl | rfl
    · have HV : Hid (tgK 1 n = (n : Int)) := Lib.hid rfl
      have c0 := cell_of_row _ _ 0 _ _ _ HB.out
      have c1 := cell_of_row _ _ 1 _ _ _ HB.out
      have c2 := cell_of_row _ _ 2 _ _ _ HB.out
      go_enter Tryz.func20, Tryz.ntmps20
      go_wp2_with fail
      refine HRC.out.mono ?_
      rintro e w1 ⟨rfl, hn1⟩
      have hb := (hn1.block _ (lt_of_block HB.out)).trans HB.out
      have HN1 := Lib.hid (HN.out.trans hn1)
      clear c0 c1 c2 hn1
      have c0 := cell_of_row _ _ 0 _ _ _ hb
      have c1 := cell_of_row _ _ 1 _ _ _ hb
      have c2 := cell_of_row _ _ 2 _ _ _ hb
      clear hb
      go_wp2
      go_ret
      exact ⟨by rw [HV.out]; rfl, HN1.out⟩
    · have HV : Hid (tgK 2 n = 0) := Lib.hid rfl
      have c0 := cell_of_row _ _ 0 _ _ _ HB.out
      have c1 := cell_of_row _ _ 1 _ _ _ HB.out
      have c2 := cell_of_row _ _ 2 _ _ _ HB.out
      go_enter Tryz.func20, Tryz.ntmps20
      go_wp2_with fail
      refine HRC.out.mono ?_
      rintro e w1 ⟨rfl, hn1⟩
      have hb := (hn1.block _ (lt_of_block HB.out)).trans HB.out
      have HN1 := Lib.hid (HN.out.trans hn1)
      clear c0 c1 c2 hn1
      have c0 := cell_of_row _ _ 0 _ _ _ hb
      have c1 := cell_of_row _ _ 1 _ _ _ hb
      have c2 := cell_of_row _ _ 2 _ _ _ hb
      have hb2 := (((New.refl w1).alloc (.cells #[.int .i64 0, .int .i64 0, .int .i64 2, .int .i64 2, .int .i64 3, .int .i64 3, .int .i64 3, .int .i64 0] 3)).block _ (lt_of_block hb)).trans hb
      have d0 := cell_of_row _ _ 0 _ _ _ hb2
      clear hb hb2
      go_wp2
      go_ret
      exact ⟨by rw [HV.out]; rfl, HN1.out.alloc _⟩
    · have HV : Hid (tgK 3 n = 2) := Lib.hid rfl
      have c0 := cell_of_row _ _ 0 _ _ _ HB.out
      have c1 := cell_of_row _ _ 1 _ _ _ HB.out
      have c2 := cell_of_row _ _ 2 _ _ _ HB.out
      go_enter Tryz.func20, Tryz.ntmps20
      go_wp2_with fail
      refine HRC.out.mono ?_
      rintro e w1 ⟨rfl, hn1⟩
      have hb := (hn1.block _ (lt_of_block HB.out)).trans HB.out
      have HN1 := Lib.hid (HN.out.trans hn1)
      clear c0 c1 c2 hn1
      have c0 := cell_of_row _ _ 0 _ _ _ hb
      have c1 := cell_of_row _ _ 1 _ _ _ hb
      have c2 := cell_of_row _ _ 2 _ _ _ hb
      have hb2 := (((New.refl w1).alloc (.cells #[.int .i64 0, .int .i64 0, .int .i64 2, .int .i64 2, .int .i64 3, .int .i64 3, .int .i64 3, .int .i64 0] 3)).block _ (lt_of_block hb)).trans hb
      have d0 := cell_of_row _ _ 0 _ _ _ hb2
      clear hb hb2
      go_wp2
      go_ret
      exact ⟨by rw [HV.out]; rfl, HN1.out.alloc _⟩
    · have HV : Hid (tgK 4 n = 2) := Lib.hid rfl
      have c0 := cell_of_row _ _ 0 _ _ _ HB.out
      have c1 := cell_of_row _ _ 1 _ _ _ HB.out
      have c2 := cell_of_row _ _ 2 _ _ _ HB.out
      go_enter Tryz.func20, Tryz.ntmps20
      go_wp2_with fail
      refine HRC.out.mono ?_
      rintro e w1 ⟨rfl, hn1⟩
      have hb := (hn1.block _ (lt_of_block HB.out)).trans HB.out
      have HN1 := Lib.hid (HN.out.trans hn1)
      clear c0 c1 c2 hn1
      have c0 := cell_of_row _ _ 0 _ _ _ hb
      have c1 := cell_of_row _ _ 1 _ _ _ hb
      have c2 := cell_of_row _ _ 2 _ _ _ hb
      have hb2 := (((New.refl w1).alloc (.cells #[.int .i64 0, .int .i64 0, .int .i64 2, .int .i64 2, .int .i64 3, .int .i64 3, .int .i64 3, .int .i64 0] 3)).block _ (lt_of_block hb)).trans hb
      have d0 := cell_of_row _ _ 0 _ _ _ hb2
      clear hb hb2
      go_wp2
      go_ret
      exact ⟨by rw [HV.out]; rfl, HN1.out.alloc _⟩
    · have HV : Hid (tgK 5 n = 3) := Lib.hid rfl
      have c0 := cell_of_row _ _ 0 _ _ _ HB.out
      have c1 := cell_of_row _ _ 1 _ _ _ HB.out
      have c2 := cell_of_row _ _ 2 _ _ _ HB.out
      go_enter Tryz.func20, Tryz.ntmps20
      go_wp2_with fail
      refine HRC.out.mono ?_
      rintro e w1 ⟨rfl, hn1⟩
      have hb := (hn1.block _ (lt_of_block HB.out)).trans HB.out
      have HN1 := Lib.hid (HN.out.trans hn1)
      clear c0 c1 c2 hn1
      have c0 := cell_of_row _ _ 0 _ _ _ hb
      have c1 := cell_of_row _ _ 1 _ _ _ hb
      have c2 := cell_of_row _ _ 2 _ _ _ hb
      have hb2 := (((New.refl w1).alloc (.cells #[.int .i64 0, .int .i64 0, .int .i64 2, .int .i64 2, .int .i64 3, .int .i64 3, .int .i64 3, .int .i64 0] 3)).block _ (lt_of_block hb)).trans hb
      have d0 := cell_of_row _ _ 0 _ _ _ hb2
      clear hb hb2
      go_wp2
      go_ret
      exact ⟨by rw [HV.out]; rfl, HN1.out.alloc _⟩
    · have HV : Hid (tgK 6 n = 3) := Lib.hid rfl
      have c0 := cell_of_row _ _ 0 _ _ _ HB.out
      have c1 := cell_of_row _ _ 1 _ _ _ HB.out
      have c2 := cell_of_row _ _ 2 _ _ _ HB.out
      go_enter Tryz.func20, Tryz.ntmps20
      go_wp2_with fail
      refine HRC.out.mono ?_
      rintro e w1 ⟨rfl, hn1⟩
      have hb := (hn1.block _ (lt_of_block HB.out)).trans HB.out
      have HN1 := Lib.hid (HN.out.trans hn1)
      clear c0 c1 c2 hn1
      have c0 := cell_of_row _ _ 0 _ _ _ hb
      have c1 := cell_of_row _ _ 1 _ _ _ hb
      have c2 := cell_of_row _ _ 2 _ _ _ hb
      have hb2 := (((New.refl w1).alloc (.cells #[.int .i64 0, .int .i64 0, .int .i64 2, .int .i64 2, .int .i64 3, .int .i64 3, .int .i64 3, .int .i64 0] 3)).block _ (lt_of_block hb)).trans hb
      have d0 := cell_of_row _ _ 0 _ _ _ hb2
      clear hb hb2
      go_wp2
      go_ret
      exact ⟨by rw [HV.out]; rfl, HN1.out.alloc _⟩
    · have HV : Hid (tgK 7 n = 3) := Lib.hid rfl
      have c0 := cell_of_row _ _ 0 _ _ _ HB.out
      have c1 := cell_of_row _ _ 1 _ _ _ HB.out
      have c2 := cell_of_row _ _ 2 _ _ _ HB.out
      go_enter Tryz.func20, Tryz.ntmps20
      go_wp2_with fail
      refine HRC.out.mono ?_
      rintro e w1 ⟨rfl, hn1⟩
      have hb := (hn1.block _ (lt_of_block HB.out)).trans HB.out
      have HN1 := Lib.hid (HN.out.trans hn1)
      clear c0 c1 c2 hn1
      have c0 := cell_of_row _ _ 0 _ _ _ hb
      have c1 := cell_of_row _ _ 1 _ _ _ hb
      have c2 := cell_of_row _ _ 2 _ _ _ hb
      have hb2 := (((New.refl w1).alloc (.cells #[.int .i64 0, .int .i64 0, .int .i64 2, .int .i64 2, .int .i64 3, .int .i64 3, .int .i64 3, .int .i64 0] 3)).block _ (lt_of_block hb)).trans hb
      have d0 := cell_of_row _ _ 0 _ _ _ hb2
      clear hb hb2
      go_wp2
      go_ret
      exact ⟨by rw [HV.out]; rfl, HN1.out.alloc _⟩
    · have HV : Hid (tgK 8 n = 0) := Lib.hid rfl
      have c0 := cell_of_row _ _ 0 _ _ _ HB.out
      have c1 := cell_of_row _ _ 1 _ _ _ HB.out
      have c2 := cell_of_row _ _ 2 _ _ _ HB.out
      go_enter Tryz.func20, Tryz.ntmps20
      go_wp2_with fail
      refine HRC.out.mono ?_
      rintro e w1 ⟨rfl, hn1⟩
      have hb := (hn1.block _ (lt_of_block HB.out)).trans HB.out
      have HN1 := Lib.hid (HN.out.trans hn1)
      clear c0 c1 c2 hn1
      have c0 := cell_of_row _ _ 0 _ _ _ hb
      have c1 := cell_of_row _ _ 1 _ _ _ hb
      have c2 := cell_of_row _ _ 2 _ _ _ hb
      have hb2 := (((New.refl w1).alloc (.cells #[.int .i64 0, .int .i64 0, .int .i64 2, .int .i64 2, .int .i64 3, .int .i64 3, .int .i64 3, .int .i64 0] 3)).block _ (lt_of_block hb)).trans hb
      have d0 := cell_of_row _ _ 0 _ _ _ hb2
      clear hb hb2
      go_wp2
      go_ret
      exact ⟨by rw [HV.out]; rfl, HN1.out.alloc _⟩
  · rw [if_neg hz]
    have hzb : (chF k b l != 0) = true := by rw [bne_iff_ne]; exact hz
    clear hz
    have c0 := cell_of_row _ _ 0 _ _ _ HB.out
    have c1 := cell_of_row _ _ 1 _ _ _ HB.out
    have c2 := cell_of_row _ _ 2 _ _ _ HB.out
    go_enter Tryz.func20, Tryz.ntmps20
    go_wp2_with fail
    refine HRC.out.mono ?_
    rintro e w1 ⟨rfl, hn1⟩
    have HN1 := Lib.hid (HN.out.trans hn1)
    clear c0 c1 c2 hn1
    go_wp2
    go_ret
    exact ⟨rfl, HN1.out⟩
set_option maxHeartbeats 8000000 in
theorem evals_27 (W : World) (k0 b0 : Int) (a0 : Option Addr) (n0 m0 : Nat) (l0 : List (BitVec 64)) (w0 : QRow W a0 n0 m0 l0) (x v : BitVec 64) (ee : Int)
    (HE : Hid (∀ w : World, QRow w a0 n0 m0 l0 → Calls Tryz.prog 15 #[.agg (sdc k0 b0 a0 n0 m0), .int .u64 (W64 x)] w fun e w' => e = .returned (.tuple #[.int .u64 (W64 v), .int .i64 ee]) ∧ New w w'))
    (HR : Hid (∀ w : World, QRow w a0 n0 m0 l0 → Calls Tryz.prog 16 #[.agg (sdc k0 b0 a0 n0 m0), .int .u64 (W64 x)] w fun e w' => e = .returned (.tuple #[.int .u64 (W64 v), .int .i64 ee]) ∧ New w w')) :
    Calls Tryz.prog 4 #[.agg (sdc k0 b0 a0 n0 m0), .int .u64 (W64 x)] W fun e w' => e = .returned (.bool true) ∧ Below W.heap.size W w' := by
  have HA := Lib.hid (fun w => awake27 w)
  generalize hW : W.alloc (.cells (sdc k0 b0 a0 n0 m0) 30) = wa
  have HB : Hid (wa.heap[W.heap.size]? = some (.cells (sdc k0 b0 a0 n0 m0) 30 (0, 0))) := Lib.hid (by rw [← hW]; exact heap_alloc_new W _)
  have HN : Hid (New W wa) := Lib.hid (by rw [← hW]; exact (New.refl W).alloc _)
  have HROW := Lib.hid (w0.stay HN.out)
  have HCK := Lib.hid (fun (w' : World) (hn : New wa w') => check_27 k0 b0 a0 n0 m0 l0 w' (HROW.out.stay hn))
  have HRK := Lib.hid (fun (w' : World) (hn : New wa w') => rcheck_27 k0 b0 a0 n0 m0 l0 w' (HROW.out.stay hn))
  have HTG := Lib.hid (fun (w' : World) (hn : New wa w') => together_27 k0 b0 a0 n0 m0 l0 w' (HROW.out.stay hn))
  have HRT := Lib.hid (fun (w' : World) (hn : New wa w') => rtogether_27 k0 b0 a0 n0 m0 l0 w' (HROW.out.stay hn))
  have HCS := Lib.hid (fun (w' : World) (hn : New wa w') => (hn.block _ (lt_of_block HB.out)).trans HB.out)
  replace HE := Lib.hid (fun (w' : World) (hn : New wa w') => HE.out w' (HROW.out.stay hn))
  replace HR := Lib.hid (fun (w' : World) (hn : New wa w') => HR.out w' (HROW.out.stay hn))
  generalize chF k0 b0 l0 = ch at *
  generalize (if ch = 0 then tgK k0 n0 else 0) = tg at *
  clear w0 HROW
  have e1 : (v == v) = true := beq_self_eq_true _
  have e2 : (ee == ee) = true := beq_self_eq_true _
  have e3 : (ch == ch) = true := beq_self_eq_true _
  have e4 : (tg == tg) = true := beq_self_eq_true _
  go_enter Tryz.func4, Tryz.ntmps4
  go_wp2_with fail
  refine (HA.out _).mono ?_
  rintro e w2 ⟨rfl, hn⟩
  have HN1 := Lib.hid hn
  clear hn
  have c0 := cell_of_row _ _ 0 _ _ _ (HCS.out w2 HN1.out)
  have c1 := cell_of_row _ _ 1 _ _ _ (HCS.out w2 HN1.out)
  have c2 := cell_of_row _ _ 2 _ _ _ (HCS.out w2 HN1.out)
  go_wp2_with fail
  refine (HE.out _ HN1.out).mono ?_
  rintro e w3 ⟨rfl, hn⟩
  replace HN1 := Lib.hid (HN1.out.trans hn)
  clear hn c0 c1 c2
  have c0 := cell_of_row _ _ 0 _ _ _ (HCS.out w3 HN1.out)
  have c1 := cell_of_row _ _ 1 _ _ _ (HCS.out w3 HN1.out)
  have c2 := cell_of_row _ _ 2 _ _ _ (HCS.out w3 HN1.out)
  go_wp2_with fail
  refine (HR.out _ HN1.out).mono ?_
  rintro e w4 ⟨rfl, hn⟩
  replace HN1 := Lib.hid (HN1.out.trans hn)
  clear hn c0 c1 c2
  have HBZ := Lib.hid (HCS.out w4 HN1.out)
  go_wp2_with fail
  refine wp_region_class (fun w' => (w'.heap[W.heap.size]? = some (.cells (sdc k0 b0 a0 n0 m0) 30 (0, 0))) ∧ New w4 w') (by kernel_rfl) (by kernel_rfl) ⟨((New.refl w4).drew.block _ (lt_of_block HBZ.out)).trans HBZ.out, (New.refl _).drew⟩ ?_
  intro I _ f hall hback
  have HSTEP : Hid (∀ n w', New (f n) w' → ∃ m, w' = f m) := Lib.hid fun n w' hn => hback w' ⟨(hn.block _ (lt_of_block (hall n).1)).trans (hall n).1, (hall n).2.trans hn⟩
  have HALL := Lib.hid fun n => (hall n).2
  have HNA := Lib.hid fun n => HN1.out.trans (hall n).2
  have s0 := fun n => cell_of_row _ _ 0 _ _ _ ((hall n).1)
  have s1 := fun n => cell_of_row _ _ 1 _ _ _ ((hall n).1)
  have s2 := fun n => cell_of_row _ _ 2 _ _ _ ((hall n).1)
  clear hall hback
  repeat (go_big_quiet_step (first
    | (go_at_call 17; refine class_new HSTEP.out (HCK.out _ (HNA.out _)))
    | (go_at_call 18; refine class_new HSTEP.out (HRK.out _ (HNA.out _)))
    | (go_at_call 19; refine class_new HSTEP.out (HTG.out _ (HNA.out _)))
    | (go_at_call 20; refine class_new HSTEP.out (HRT.out _ (HNA.out _)))))
  refine wpQuiet_nil ?_
  rintro w9 ⟨n1, hw1⟩
  have hS := HALL.out n1
  rw [← hw1] at hS
  replace HBZ := Lib.hid ((hS.block _ (lt_of_block HBZ.out)).trans HBZ.out)
  replace HN1 := Lib.hid (HN1.out.trans hS)
  clear HALL HNA HSTEP hw1 hS s0 s1 s2
  go_wp2
  go_ret
  exact ⟨rfl, HN.out.trans HN1.out⟩
theorem FamilyEvals_walk (W : World) (k0 b0 : Int) (rk0 : -9223372036854775808 ≤ k0 ∧ k0 ≤ 9223372036854775807) (rb0 : -9223372036854775808 ≤ b0 ∧ b0 ≤ 9223372036854775807) (a0 : Option Addr) (n0 m0 : Nat) (l0 : List (BitVec 64)) (w0 : QRow W a0 n0 m0 l0) (a1 : Int) (w1 : (Lit.int .u64 a1).wf = true) :
    Calls Tryz.prog 4 #[.agg #[.int .i64 k0, .int .i64 b0, .slice a0 n0 m0], .int .u64 a1] W fun e w' => e = .returned (.bool true) ∧ Below W.heap.size W w' := by
  obtain ⟨x, rfl⟩ := wf64 w1
  by_cases hz : chF k0 b0 l0 = 0
  · obtain ⟨g, off, rfl, _⟩ := w0.addr (n_pos w0.len_eq hz)
    exact evals_27 W k0 b0 _ n0 m0 l0 w0 x _ _ (Lib.hid fun w h => feval_any k0 b0 g off n0 m0 l0 x w h hz) (Lib.hid fun w h => reval_any k0 b0 g off n0 m0 l0 x w h hz)
  · exact evals_27 W k0 b0 a0 n0 m0 l0 w0 x 0#64 _ (Lib.hid fun w h => feval_err k0 b0 a0 n0 m0 l0 x w h hz) (Lib.hid fun w h => reval_err k0 b0 a0 n0 m0 l0 x w h hz)
end Go.Proofs.YtebcfbcfipmahaaGreat
