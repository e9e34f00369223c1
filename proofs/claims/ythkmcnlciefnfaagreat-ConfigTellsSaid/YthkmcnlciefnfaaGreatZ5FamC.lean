import Derived.Test.YthkmcnlciefnfaaGreatZ5FamB
import Derived.Test.YthkmcnlciefnfaaGreatZ5PolB
import Derived.Test.YthkmcnlciefnfaaGreatZ5DivM
/- Layer 27: what a family says of a seed. -/
namespace Go.Proofs.YthkmcnlciefnfaaGreat
open Go.RowKit Go.Bv
set_option linter.unusedVariables false
/-- a seed's parts -/
abbrev sdc (k b : Int) (a : Option Addr) (n c : Nat) : Array Value := #[.int .i64 k, .int .i64 b, .slice a n c]
/-- what the family of a kind has against words -/
def chS (k b : Int) (l : List (BitVec 64)) : Int := if k = 1 then chkC l else if k = 2 then chkM (l.getD 0 0#64) b else if k = 8 then (if PP ≤ (l.getD 0 0#64).toNat then 2 else 0) else 0
/-- what is wrong with a seed -/
def chF (k b : Int) (l : List (BitVec 64)) : Int := if okF k = false then 6 else if (l.length : Int) < lsF k ∨ msF k < (l.length : Int) then 13 else if b < lbF k ∨ mbF k < b then 1 else chS k b l
theorem ck_all (k b : Int) (a : Option Addr) (n c : Nat) (w : World) : Calls Tryz.prog 204 #[.agg (sdc k b a n c)] w fun e w' => e = .returned (.int .i64 0) ∧ New w w' := by
  go_enter Tryz.func204, Tryz.ntmps204
  go_wp2
  go_ret
  exact ⟨rfl, (New.refl w).alloc _⟩
theorem ck_poly (k b : Int) (a : Option Addr) (n c : Nat) (l : List (BitVec 64)) (w : World) (h : QRow w a n c l) : Calls Tryz.prog 192 #[.agg (sdc k b a n c)] w fun e w' => e = .returned (.int .i64 (chkC l)) ∧ New w w' := by
  have HC := Lib.hid (check_q a n c l _ (h.stay ((New.refl w).alloc (.cells (sdc k b a n c) 58))))
  clear h
  go_enter Tryz.func192, Tryz.ntmps192
  go_wp2_with fail
  refine HC.out.mono ?_
  rintro e w' ⟨rfl, rfl⟩
  go_wp2
  go_ret
  exact ⟨rfl, (New.refl w).alloc _⟩
theorem ck_odd (k b : Int) (a : Option Addr) (n c : Nat) (l : List (BitVec 64)) (w : World) (h : QRow w a n c l) (h1 : 1 ≤ n) : Calls Tryz.prog 199 #[.agg (sdc k b a n c)] w fun e w' => e = .returned (.int .i64 (chkM (l.getD 0 0#64) b)) ∧ New w w' := by
  obtain ⟨g, off, rfl, _⟩ := h.addr (by omega)
  have hle := h.le
  generalize hW : w.alloc (.cells (sdc k b (some ⟨g, off, none⟩) n c) 58) = w0
  have HB : Hid (w0.heap[w.heap.size]? = some (.cells (sdc k b (some ⟨g, off, none⟩) n c) 58 (0, 0))) := Lib.hid (by rw [← hW]; exact heap_alloc_new w _)
  have HN : Hid (New w w0) := Lib.hid (by rw [← hW]; exact (New.refl w).alloc _)
  have HZ : Hid (∀ w' : World, New w0 w' → w'.cell? ⟨g, off, none⟩ = some (.int .u64 (W64 (l.getD 0 0#64)))) := Lib.hid (fun w' hn => (h.stay (HN.out.trans hn)).cell g off rfl 0 (by omega))
  have HM := Lib.hid (fun w => check_m (l.getD 0 0#64) b w)
  have hpos : ¬ (n : Int) ≤ 0 := by omega
  have hn0 : 0 < n := h1
  clear h
  go_enter Tryz.func199, Tryz.ntmps199
  go_wp2_with fail
  refine wp_region_class (fun w' => (w'.heap[w.heap.size]? = some (.cells (sdc k b (some ⟨g, off, none⟩) n c) 58 (0, 0))) ∧ New w0 w') (by kernel_rfl) (by kernel_rfl) ⟨((New.refl w0).drew.block _ (lt_of_block HB.out)).trans HB.out, (New.refl _).drew⟩ ?_
  intro I _ f hall hback
  have HSTEP : Hid (∀ n w', New (f n) w' → ∃ m, w' = f m) := Lib.hid fun n w' hn => hback w' ⟨(hn.block _ (lt_of_block (hall n).1)).trans (hall n).1, (hall n).2.trans hn⟩
  have HALL := Lib.hid fun n => (hall n).2
  have s0 := fun n => cell_of_row _ _ 0 _ _ _ ((hall n).1)
  have s1 := fun n => cell_of_row _ _ 1 _ _ _ ((hall n).1)
  have s2 := fun n => cell_of_row _ _ 2 _ _ _ ((hall n).1)
  have z0 := fun n => HZ.out _ (hall n).2
  clear hall hback
  repeat (go_big_quiet_step (first
    | (go_at_call 200; refine class_same (HM.out _))))
  refine wpQuiet_nil ?_
  rintro w9 ⟨n1, hw1⟩
  have hS := HALL.out n1
  rw [← hw1] at hS
  replace HB := Lib.hid ((hS.block _ (lt_of_block HB.out)).trans HB.out)
  replace HN := Lib.hid (HN.out.trans hS)
  clear z0 HALL HSTEP hw1 hS s0 s1 s2
  go_wp2
  go_ret
  exact ⟨rfl, HN.out⟩
theorem ck_str (k b : Int) (a : Option Addr) (n c : Nat) (l : List (BitVec 64)) (w : World) (h : QRow w a n c l) (h1 : 1 ≤ n) : Calls Tryz.prog 227 #[.agg (sdc k b a n c)] w fun e w' => e = .returned (.int .i64 (if PP ≤ (l.getD 0 0#64).toNat then 2 else 0)) ∧ New w w' := by
  obtain ⟨g, off, rfl, _⟩ := h.addr (by omega)
  have hle := h.le
  have z0 : (w.alloc (.cells (sdc k b (some ⟨g, off, none⟩) n c) 58)).cell? ⟨g, off, none⟩ = some (.int .u64 (W64 (l.getD 0 0#64))) := (h.stay ((New.refl w).alloc (.cells (sdc k b (some ⟨g, off, none⟩) n c) 58))).cell g off rfl 0 (by omega)
  have hpos : ¬ (n : Int) ≤ 0 := by omega
  have hn0 : 0 < n := h1
  clear h
  generalize l.getD 0 0#64 = x at *
  by_cases hp : PP ≤ (x).toNat
  · rw [if_pos hp]
    have hw : decide (2305843009213693951 ≤ W64 (x)) = true := decide_eq_true (by unfold W64; unfold PP at hp; omega)
    clear hp
    go_enter Tryz.func227, Tryz.ntmps227
    go_wp2
    go_ret
    exact ⟨rfl, (New.refl w).alloc _⟩
  · rw [if_neg hp]
    have hw : decide (2305843009213693951 ≤ W64 (x)) = false := decide_eq_false (by unfold W64; unfold PP at hp; omega)
    clear hp
    go_enter Tryz.func227, Tryz.ntmps227
    go_wp2
    go_ret
    exact ⟨rfl, (New.refl w).alloc _⟩
theorem fos_no (k b : Int) (a : Option Addr) (n c : Nat) (w : World) (h : okF k = false) : Calls Tryz.prog 52 #[.agg (sdc k b a n c)] w fun e w' => e = .returned (.tuple #[.agg fzc, .int .i64 6]) ∧ New w w' := by
  have HF := Lib.hid (fun w => fam_of k w)
  rw [h] at HF
  generalize hW : (w.alloc (.cells (sdc k b a n c) 58)).alloc (.cells fzc 102) = w0
  have HB : Hid (w0.heap[w.heap.size]? = some (.cells (sdc k b a n c) 58 (0, 0))) := Lib.hid (by rw [← hW]; exact ((New.refl _).alloc _).block _ (lt_of_block (heap_alloc_new w _)) |>.trans (heap_alloc_new w _))
  have HR : Hid (w0.heap[w.heap.size + 1]? = some (.cells fzc 102 (0, 0))) := Lib.hid (by rw [← hW]; exact first_blockF w _ _)
  have HN : Hid (New w w0) := Lib.hid (by rw [← hW]; exact ((New.refl w).alloc _).alloc _)
  have c0 := cell_of_row _ _ 0 _ _ _ HB.out
  have c1 := cell_of_row _ _ 1 _ _ _ HB.out
  have c2 := cell_of_row _ _ 2 _ _ _ HB.out
  go_enter Tryz.func52, Tryz.ntmps52
  go_wp2_with fail
  refine (HF.out _).mono ?_
  rintro e w1 ⟨⟨cs, rfl, hv⟩, hn⟩
  rcases hv with ⟨hk, _⟩ | ⟨_, rfl⟩
  · rw [h] at hk; cases hk
  have hr := ((hn.alloc (.cells fzc 102)).block _ (lt_of_block HR.out)).trans HR.out
  have r0 := cell_of_row _ _ 0 _ _ _ hr
  have r1 := cell_of_row _ _ 1 _ _ _ hr
  have r2 := cell_of_row _ _ 2 _ _ _ hr
  have r3 := cell_of_row _ _ 3 _ _ _ hr
  have r4 := cell_of_row _ _ 4 _ _ _ hr
  have r5 := cell_of_row _ _ 5 _ _ _ hr
  have r6 := cell_of_row _ _ 6 _ _ _ hr
  have r7 := cell_of_row _ _ 7 _ _ _ hr
  have r8 := cell_of_row _ _ 8 _ _ _ hr
  have r9 := cell_of_row _ _ 9 _ _ _ hr
  have rf := fun i => frozen_of_row _ _ i _ _ hr
  clear c0 c1 c2 HF h
  go_wp2_with fail
  have hp := put10_facts (.string ⟨#[]⟩) (.int .i64 0) (.int .i64 0) (.int .i64 0) (.int .i64 0) (.int .i64 0) .nilFunc .nilFunc .nilFunc .nilFunc hr
  refine bodyPost_ret (by simp [results, Tryz.results52, go_sem, r0, r1, r2, r3, r4, r5, r6, r7, r8, r9]; try rfl) rfl ?_
  exact ⟨rfl, hp.2.2.1 _ (HN.out.trans (hn.alloc _)) (Nat.le_succ _)⟩
end Go.Proofs.YthkmcnlciefnfaaGreat
