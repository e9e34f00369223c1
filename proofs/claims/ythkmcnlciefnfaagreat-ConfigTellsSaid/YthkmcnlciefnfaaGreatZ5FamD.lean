import Derived.Test.YthkmcnlciefnfaaGreatZ5FamC
/- Layer 27: the family of a seed: its length, its bits, its words. -/
namespace Go.Proofs.YthkmcnlciefnfaaGreat
open Go.RowKit Go.Bv
set_option linter.unusedVariables false
set_option maxHeartbeats 1000000 in
theorem fos_len1 (k b : Int) (a : Option Addr) (n c : Nat) (w : World) (hok : okF k = true) (h1 : (n : Int) < lsF k) : Calls Tryz.prog 52 #[.agg (sdc k b a n c)] w fun e w' => e = .returned (.tuple #[.agg fzc, .int .i64 13]) ∧ New w w' := by
  have HF := Lib.hid (fun w => fam_of k w)
  rw [hok] at HF
  generalize hW : (w.alloc (.cells (sdc k b a n c) 58)).alloc (.cells fzc 102) = w0
  have HB : Hid (w0.heap[w.heap.size]? = some (.cells (sdc k b a n c) 58 (0, 0))) := Lib.hid (by rw [← hW]; exact ((New.refl _).alloc _).block _ (lt_of_block (heap_alloc_new w _)) |>.trans (heap_alloc_new w _))
  have HR : Hid (w0.heap[w.heap.size + 1]? = some (.cells fzc 102 (0, 0))) := Lib.hid (by rw [← hW]; exact first_blockF w _ _)
  have HN : Hid (New w w0) := Lib.hid (by rw [← hW]; exact ((New.refl w).alloc _).alloc _)
  have HSZ : Hid (w0.heap.size = w.heap.size + 2) := Lib.hid (by rw [← hW]; simp)
  have c0 := cell_of_row _ _ 0 _ _ _ HB.out
  have c1 := cell_of_row _ _ 1 _ _ _ HB.out
  have c2 := cell_of_row _ _ 2 _ _ _ HB.out
  go_enter Tryz.func52, Tryz.ntmps52
  go_wp2_with fail
  refine (HF.out _).mono ?_
  rintro e w1 ⟨⟨cs, rfl, hv⟩, hn⟩
  rcases hv.shape with ⟨u0, u1, u2, u3, p, q, r, s, rfl⟩ | ⟨u0, u1, u2, p, q, r, rfl⟩ | rfl
  · have hr := ((hn.alloc (.cells #[.string (nmF k), .int .i64 (lsF k), .int .i64 (msF k), .int .i64 (lbF k), .int .i64 (mbF k), .int .i64 (kyF k), .func (Fn.func u0) #[] p, .func (Fn.func u1) #[] q, .func (Fn.func u2) #[] r, .func (Fn.func u3) #[] s] 102)).block _ (lt_of_block HR.out)).trans HR.out
    have hs := ((hn.alloc (.cells #[.string (nmF k), .int .i64 (lsF k), .int .i64 (msF k), .int .i64 (lbF k), .int .i64 (mbF k), .int .i64 (kyF k), .func (Fn.func u0) #[] p, .func (Fn.func u1) #[] q, .func (Fn.func u2) #[] r, .func (Fn.func u3) #[] s] 102)).block _ (lt_of_block HB.out)).trans HB.out
    have r0 := cell_of_row _ _ 0 _ _ _ hr
    have r1 := cell_of_row _ _ 1 _ _ _ hr
    have r2 := cell_of_row _ _ 2 _ _ _ hr
    have r3 := cell_of_row _ _ 3 _ _ _ hr
    have r4 := cell_of_row _ _ 4 _ _ _ hr
    have r5 := cell_of_row _ _ 5 _ _ _ hr
    have r6 := cell_of_row _ _ 6 _ _ _ hr
    have r7 := cell_of_row _ _ 7 _ _ _ hr
    have r8 := cell_of_row _ _ 8 _ _ _ hr
    have r9 := cell_of_row _ _ 9 _ _ _ hr
    have s0 := cell_of_row _ _ 0 _ _ _ hs
    have s1 := cell_of_row _ _ 1 _ _ _ hs
    have s2 := cell_of_row _ _ 2 _ _ _ hs
    have rf := fun i => frozen_of_row _ _ i _ _ hr
    clear c0 c1 c2 hv
    go_wp2_with fail
    have hp := put10_facts (.string ⟨#[]⟩) (.int .i64 0) (.int .i64 0) (.int .i64 0) (.int .i64 0) (.int .i64 0) .nilFunc .nilFunc .nilFunc .nilFunc hr
    refine bodyPost_ret (by simp [results, Tryz.results52, go_sem, r0, r1, r2, r3, r4, r5, r6, r7, r8, r9]; try rfl) rfl ?_
    exact ⟨rfl, hp.2.2.1 _ (HN.out.trans (hn.alloc _)) (Nat.le_succ _)⟩
  · have hr := ((hn.alloc (.cells #[.string (nmF k), .int .i64 (lsF k), .int .i64 (msF k), .int .i64 (lbF k), .int .i64 (mbF k), .int .i64 (kyF k), .func (Fn.func u0) #[] p, .func (Fn.func u1) #[] q, .func (Fn.func u2) #[] r, .nilFunc] 102)).block _ (lt_of_block HR.out)).trans HR.out
    have hs := ((hn.alloc (.cells #[.string (nmF k), .int .i64 (lsF k), .int .i64 (msF k), .int .i64 (lbF k), .int .i64 (mbF k), .int .i64 (kyF k), .func (Fn.func u0) #[] p, .func (Fn.func u1) #[] q, .func (Fn.func u2) #[] r, .nilFunc] 102)).block _ (lt_of_block HB.out)).trans HB.out
    have r0 := cell_of_row _ _ 0 _ _ _ hr
    have r1 := cell_of_row _ _ 1 _ _ _ hr
    have r2 := cell_of_row _ _ 2 _ _ _ hr
    have r3 := cell_of_row _ _ 3 _ _ _ hr
    have r4 := cell_of_row _ _ 4 _ _ _ hr
    have r5 := cell_of_row _ _ 5 _ _ _ hr
    have r6 := cell_of_row _ _ 6 _ _ _ hr
    have r7 := cell_of_row _ _ 7 _ _ _ hr
    have r8 := cell_of_row _ _ 8 _ _ _ hr
    have r9 := cell_of_row _ _ 9 _ _ _ hr
    have s0 := cell_of_row _ _ 0 _ _ _ hs
    have s1 := cell_of_row _ _ 1 _ _ _ hs
    have s2 := cell_of_row _ _ 2 _ _ _ hs
    have rf := fun i => frozen_of_row _ _ i _ _ hr
    clear c0 c1 c2 hv
    go_wp2_with fail
    have hp := put10_facts (.string ⟨#[]⟩) (.int .i64 0) (.int .i64 0) (.int .i64 0) (.int .i64 0) (.int .i64 0) .nilFunc .nilFunc .nilFunc .nilFunc hr
    refine bodyPost_ret (by simp [results, Tryz.results52, go_sem, r0, r1, r2, r3, r4, r5, r6, r7, r8, r9]; try rfl) rfl ?_
    exact ⟨rfl, hp.2.2.1 _ (HN.out.trans (hn.alloc _)) (Nat.le_succ _)⟩
  · have hr := ((hn.alloc (.cells #[.string (nmF k), .int .i64 (lsF k), .int .i64 (msF k), .int .i64 (lbF k), .int .i64 (mbF k), .int .i64 (kyF k), .nilFunc, .nilFunc, .nilFunc, .nilFunc] 102)).block _ (lt_of_block HR.out)).trans HR.out
    have hs := ((hn.alloc (.cells #[.string (nmF k), .int .i64 (lsF k), .int .i64 (msF k), .int .i64 (lbF k), .int .i64 (mbF k), .int .i64 (kyF k), .nilFunc, .nilFunc, .nilFunc, .nilFunc] 102)).block _ (lt_of_block HB.out)).trans HB.out
    have r0 := cell_of_row _ _ 0 _ _ _ hr
    have r1 := cell_of_row _ _ 1 _ _ _ hr
    have r2 := cell_of_row _ _ 2 _ _ _ hr
    have r3 := cell_of_row _ _ 3 _ _ _ hr
    have r4 := cell_of_row _ _ 4 _ _ _ hr
    have r5 := cell_of_row _ _ 5 _ _ _ hr
    have r6 := cell_of_row _ _ 6 _ _ _ hr
    have r7 := cell_of_row _ _ 7 _ _ _ hr
    have r8 := cell_of_row _ _ 8 _ _ _ hr
    have r9 := cell_of_row _ _ 9 _ _ _ hr
    have s0 := cell_of_row _ _ 0 _ _ _ hs
    have s1 := cell_of_row _ _ 1 _ _ _ hs
    have s2 := cell_of_row _ _ 2 _ _ _ hs
    have rf := fun i => frozen_of_row _ _ i _ _ hr
    clear c0 c1 c2 hv
    go_wp2_with fail
    have hp := put10_facts (.string ⟨#[]⟩) (.int .i64 0) (.int .i64 0) (.int .i64 0) (.int .i64 0) (.int .i64 0) .nilFunc .nilFunc .nilFunc .nilFunc hr
    refine bodyPost_ret (by simp [results, Tryz.results52, go_sem, r0, r1, r2, r3, r4, r5, r6, r7, r8, r9]; try rfl) rfl ?_
    exact ⟨rfl, hp.2.2.1 _ (HN.out.trans (hn.alloc _)) (Nat.le_succ _)⟩
set_option maxHeartbeats 1000000 in
theorem fos_len2 (k b : Int) (a : Option Addr) (n c : Nat) (w : World) (hok : okF k = true) (h1 : ¬ (n : Int) < lsF k) (h2 : msF k < (n : Int)) : Calls Tryz.prog 52 #[.agg (sdc k b a n c)] w fun e w' => e = .returned (.tuple #[.agg fzc, .int .i64 13]) ∧ New w w' := by
  have HF := Lib.hid (fun w => fam_of k w)
  rw [hok] at HF
  generalize hW : (w.alloc (.cells (sdc k b a n c) 58)).alloc (.cells fzc 102) = w0
  have HB : Hid (w0.heap[w.heap.size]? = some (.cells (sdc k b a n c) 58 (0, 0))) := Lib.hid (by rw [← hW]; exact ((New.refl _).alloc _).block _ (lt_of_block (heap_alloc_new w _)) |>.trans (heap_alloc_new w _))
  have HR : Hid (w0.heap[w.heap.size + 1]? = some (.cells fzc 102 (0, 0))) := Lib.hid (by rw [← hW]; exact first_blockF w _ _)
  have HN : Hid (New w w0) := Lib.hid (by rw [← hW]; exact ((New.refl w).alloc _).alloc _)
  have HSZ : Hid (w0.heap.size = w.heap.size + 2) := Lib.hid (by rw [← hW]; simp)
  have c0 := cell_of_row _ _ 0 _ _ _ HB.out
  have c1 := cell_of_row _ _ 1 _ _ _ HB.out
  have c2 := cell_of_row _ _ 2 _ _ _ HB.out
  go_enter Tryz.func52, Tryz.ntmps52
  go_wp2_with fail
  refine (HF.out _).mono ?_
  rintro e w1 ⟨⟨cs, rfl, hv⟩, hn⟩
  rcases hv.shape with ⟨u0, u1, u2, u3, p, q, r, s, rfl⟩ | ⟨u0, u1, u2, p, q, r, rfl⟩ | rfl
  · have hr := ((hn.alloc (.cells #[.string (nmF k), .int .i64 (lsF k), .int .i64 (msF k), .int .i64 (lbF k), .int .i64 (mbF k), .int .i64 (kyF k), .func (Fn.func u0) #[] p, .func (Fn.func u1) #[] q, .func (Fn.func u2) #[] r, .func (Fn.func u3) #[] s] 102)).block _ (lt_of_block HR.out)).trans HR.out
    have hs := ((hn.alloc (.cells #[.string (nmF k), .int .i64 (lsF k), .int .i64 (msF k), .int .i64 (lbF k), .int .i64 (mbF k), .int .i64 (kyF k), .func (Fn.func u0) #[] p, .func (Fn.func u1) #[] q, .func (Fn.func u2) #[] r, .func (Fn.func u3) #[] s] 102)).block _ (lt_of_block HB.out)).trans HB.out
    have r0 := cell_of_row _ _ 0 _ _ _ hr
    have r1 := cell_of_row _ _ 1 _ _ _ hr
    have r2 := cell_of_row _ _ 2 _ _ _ hr
    have r3 := cell_of_row _ _ 3 _ _ _ hr
    have r4 := cell_of_row _ _ 4 _ _ _ hr
    have r5 := cell_of_row _ _ 5 _ _ _ hr
    have r6 := cell_of_row _ _ 6 _ _ _ hr
    have r7 := cell_of_row _ _ 7 _ _ _ hr
    have r8 := cell_of_row _ _ 8 _ _ _ hr
    have r9 := cell_of_row _ _ 9 _ _ _ hr
    have s0 := cell_of_row _ _ 0 _ _ _ hs
    have s1 := cell_of_row _ _ 1 _ _ _ hs
    have s2 := cell_of_row _ _ 2 _ _ _ hs
    have rf := fun i => frozen_of_row _ _ i _ _ hr
    clear c0 c1 c2 hv
    go_wp2_with fail
    have hp := put10_facts (.string ⟨#[]⟩) (.int .i64 0) (.int .i64 0) (.int .i64 0) (.int .i64 0) (.int .i64 0) .nilFunc .nilFunc .nilFunc .nilFunc hr
    refine bodyPost_ret (by simp [results, Tryz.results52, go_sem, r0, r1, r2, r3, r4, r5, r6, r7, r8, r9]; try rfl) rfl ?_
    exact ⟨rfl, hp.2.2.1 _ (HN.out.trans (hn.alloc _)) (Nat.le_succ _)⟩
  · have hr := ((hn.alloc (.cells #[.string (nmF k), .int .i64 (lsF k), .int .i64 (msF k), .int .i64 (lbF k), .int .i64 (mbF k), .int .i64 (kyF k), .func (Fn.func u0) #[] p, .func (Fn.func u1) #[] q, .func (Fn.func u2) #[] r, .nilFunc] 102)).block _ (lt_of_block HR.out)).trans HR.out
    have hs := ((hn.alloc (.cells #[.string (nmF k), .int .i64 (lsF k), .int .i64 (msF k), .int .i64 (lbF k), .int .i64 (mbF k), .int .i64 (kyF k), .func (Fn.func u0) #[] p, .func (Fn.func u1) #[] q, .func (Fn.func u2) #[] r, .nilFunc] 102)).block _ (lt_of_block HB.out)).trans HB.out
    have r0 := cell_of_row _ _ 0 _ _ _ hr
    have r1 := cell_of_row _ _ 1 _ _ _ hr
    have r2 := cell_of_row _ _ 2 _ _ _ hr
    have r3 := cell_of_row _ _ 3 _ _ _ hr
    have r4 := cell_of_row _ _ 4 _ _ _ hr
    have r5 := cell_of_row _ _ 5 _ _ _ hr
    have r6 := cell_of_row _ _ 6 _ _ _ hr
    have r7 := cell_of_row _ _ 7 _ _ _ hr
    have r8 := cell_of_row _ _ 8 _ _ _ hr
    have r9 := cell_of_row _ _ 9 _ _ _ hr
    have s0 := cell_of_row _ _ 0 _ _ _ hs
    have s1 := cell_of_row _ _ 1 _ _ _ hs
    have s2 := cell_of_row _ _ 2 _ _ _ hs
    have rf := fun i => frozen_of_row _ _ i _ _ hr
    clear c0 c1 c2 hv
    go_wp2_with fail
    have hp := put10_facts (.string ⟨#[]⟩) (.int .i64 0) (.int .i64 0) (.int .i64 0) (.int .i64 0) (.int .i64 0) .nilFunc .nilFunc .nilFunc .nilFunc hr
    refine bodyPost_ret (by simp [results, Tryz.results52, go_sem, r0, r1, r2, r3, r4, r5, r6, r7, r8, r9]; try rfl) rfl ?_
    exact ⟨rfl, hp.2.2.1 _ (HN.out.trans (hn.alloc _)) (Nat.le_succ _)⟩
  · have hr := ((hn.alloc (.cells #[.string (nmF k), .int .i64 (lsF k), .int .i64 (msF k), .int .i64 (lbF k), .int .i64 (mbF k), .int .i64 (kyF k), .nilFunc, .nilFunc, .nilFunc, .nilFunc] 102)).block _ (lt_of_block HR.out)).trans HR.out
    have hs := ((hn.alloc (.cells #[.string (nmF k), .int .i64 (lsF k), .int .i64 (msF k), .int .i64 (lbF k), .int .i64 (mbF k), .int .i64 (kyF k), .nilFunc, .nilFunc, .nilFunc, .nilFunc] 102)).block _ (lt_of_block HB.out)).trans HB.out
    have r0 := cell_of_row _ _ 0 _ _ _ hr
    have r1 := cell_of_row _ _ 1 _ _ _ hr
    have r2 := cell_of_row _ _ 2 _ _ _ hr
    have r3 := cell_of_row _ _ 3 _ _ _ hr
    have r4 := cell_of_row _ _ 4 _ _ _ hr
    have r5 := cell_of_row _ _ 5 _ _ _ hr
    have r6 := cell_of_row _ _ 6 _ _ _ hr
    have r7 := cell_of_row _ _ 7 _ _ _ hr
    have r8 := cell_of_row _ _ 8 _ _ _ hr
    have r9 := cell_of_row _ _ 9 _ _ _ hr
    have s0 := cell_of_row _ _ 0 _ _ _ hs
    have s1 := cell_of_row _ _ 1 _ _ _ hs
    have s2 := cell_of_row _ _ 2 _ _ _ hs
    have rf := fun i => frozen_of_row _ _ i _ _ hr
    clear c0 c1 c2 hv
    go_wp2_with fail
    have hp := put10_facts (.string ⟨#[]⟩) (.int .i64 0) (.int .i64 0) (.int .i64 0) (.int .i64 0) (.int .i64 0) .nilFunc .nilFunc .nilFunc .nilFunc hr
    refine bodyPost_ret (by simp [results, Tryz.results52, go_sem, r0, r1, r2, r3, r4, r5, r6, r7, r8, r9]; try rfl) rfl ?_
    exact ⟨rfl, hp.2.2.1 _ (HN.out.trans (hn.alloc _)) (Nat.le_succ _)⟩
set_option maxHeartbeats 1000000 in
theorem fos_bit1 (k b : Int) (a : Option Addr) (n c : Nat) (w : World) (hok : okF k = true) (h1 : ¬ (n : Int) < lsF k) (h2 : ¬ msF k < (n : Int)) (h3 : b < lbF k) : Calls Tryz.prog 52 #[.agg (sdc k b a n c)] w fun e w' => e = .returned (.tuple #[.agg fzc, .int .i64 1]) ∧ New w w' := by
  have HF := Lib.hid (fun w => fam_of k w)
  rw [hok] at HF
  generalize hW : (w.alloc (.cells (sdc k b a n c) 58)).alloc (.cells fzc 102) = w0
  have HB : Hid (w0.heap[w.heap.size]? = some (.cells (sdc k b a n c) 58 (0, 0))) := Lib.hid (by rw [← hW]; exact ((New.refl _).alloc _).block _ (lt_of_block (heap_alloc_new w _)) |>.trans (heap_alloc_new w _))
  have HR : Hid (w0.heap[w.heap.size + 1]? = some (.cells fzc 102 (0, 0))) := Lib.hid (by rw [← hW]; exact first_blockF w _ _)
  have HN : Hid (New w w0) := Lib.hid (by rw [← hW]; exact ((New.refl w).alloc _).alloc _)
  have HSZ : Hid (w0.heap.size = w.heap.size + 2) := Lib.hid (by rw [← hW]; simp)
  have c0 := cell_of_row _ _ 0 _ _ _ HB.out
  have c1 := cell_of_row _ _ 1 _ _ _ HB.out
  have c2 := cell_of_row _ _ 2 _ _ _ HB.out
  go_enter Tryz.func52, Tryz.ntmps52
  go_wp2_with fail
  refine (HF.out _).mono ?_
  rintro e w1 ⟨⟨cs, rfl, hv⟩, hn⟩
  rcases hv.shape with ⟨u0, u1, u2, u3, p, q, r, s, rfl⟩ | ⟨u0, u1, u2, p, q, r, rfl⟩ | rfl
  · have hr := ((hn.alloc (.cells #[.string (nmF k), .int .i64 (lsF k), .int .i64 (msF k), .int .i64 (lbF k), .int .i64 (mbF k), .int .i64 (kyF k), .func (Fn.func u0) #[] p, .func (Fn.func u1) #[] q, .func (Fn.func u2) #[] r, .func (Fn.func u3) #[] s] 102)).block _ (lt_of_block HR.out)).trans HR.out
    have hs := ((hn.alloc (.cells #[.string (nmF k), .int .i64 (lsF k), .int .i64 (msF k), .int .i64 (lbF k), .int .i64 (mbF k), .int .i64 (kyF k), .func (Fn.func u0) #[] p, .func (Fn.func u1) #[] q, .func (Fn.func u2) #[] r, .func (Fn.func u3) #[] s] 102)).block _ (lt_of_block HB.out)).trans HB.out
    have r0 := cell_of_row _ _ 0 _ _ _ hr
    have r1 := cell_of_row _ _ 1 _ _ _ hr
    have r2 := cell_of_row _ _ 2 _ _ _ hr
    have r3 := cell_of_row _ _ 3 _ _ _ hr
    have r4 := cell_of_row _ _ 4 _ _ _ hr
    have r5 := cell_of_row _ _ 5 _ _ _ hr
    have r6 := cell_of_row _ _ 6 _ _ _ hr
    have r7 := cell_of_row _ _ 7 _ _ _ hr
    have r8 := cell_of_row _ _ 8 _ _ _ hr
    have r9 := cell_of_row _ _ 9 _ _ _ hr
    have s0 := cell_of_row _ _ 0 _ _ _ hs
    have s1 := cell_of_row _ _ 1 _ _ _ hs
    have s2 := cell_of_row _ _ 2 _ _ _ hs
    have rf := fun i => frozen_of_row _ _ i _ _ hr
    clear c0 c1 c2 hv
    go_wp2_with fail
    have hp := put10_facts (.string ⟨#[]⟩) (.int .i64 0) (.int .i64 0) (.int .i64 0) (.int .i64 0) (.int .i64 0) .nilFunc .nilFunc .nilFunc .nilFunc hr
    refine bodyPost_ret (by simp [results, Tryz.results52, go_sem, r0, r1, r2, r3, r4, r5, r6, r7, r8, r9]; try rfl) rfl ?_
    exact ⟨rfl, hp.2.2.1 _ (HN.out.trans (hn.alloc _)) (Nat.le_succ _)⟩
  · have hr := ((hn.alloc (.cells #[.string (nmF k), .int .i64 (lsF k), .int .i64 (msF k), .int .i64 (lbF k), .int .i64 (mbF k), .int .i64 (kyF k), .func (Fn.func u0) #[] p, .func (Fn.func u1) #[] q, .func (Fn.func u2) #[] r, .nilFunc] 102)).block _ (lt_of_block HR.out)).trans HR.out
    have hs := ((hn.alloc (.cells #[.string (nmF k), .int .i64 (lsF k), .int .i64 (msF k), .int .i64 (lbF k), .int .i64 (mbF k), .int .i64 (kyF k), .func (Fn.func u0) #[] p, .func (Fn.func u1) #[] q, .func (Fn.func u2) #[] r, .nilFunc] 102)).block _ (lt_of_block HB.out)).trans HB.out
    have r0 := cell_of_row _ _ 0 _ _ _ hr
    have r1 := cell_of_row _ _ 1 _ _ _ hr
    have r2 := cell_of_row _ _ 2 _ _ _ hr
    have r3 := cell_of_row _ _ 3 _ _ _ hr
    have r4 := cell_of_row _ _ 4 _ _ _ hr
    have r5 := cell_of_row _ _ 5 _ _ _ hr
    have r6 := cell_of_row _ _ 6 _ _ _ hr
    have r7 := cell_of_row _ _ 7 _ _ _ hr
    have r8 := cell_of_row _ _ 8 _ _ _ hr
    have r9 := cell_of_row _ _ 9 _ _ _ hr
    have s0 := cell_of_row _ _ 0 _ _ _ hs
    have s1 := cell_of_row _ _ 1 _ _ _ hs
    have s2 := cell_of_row _ _ 2 _ _ _ hs
    have rf := fun i => frozen_of_row _ _ i _ _ hr
    clear c0 c1 c2 hv
    go_wp2_with fail
    have hp := put10_facts (.string ⟨#[]⟩) (.int .i64 0) (.int .i64 0) (.int .i64 0) (.int .i64 0) (.int .i64 0) .nilFunc .nilFunc .nilFunc .nilFunc hr
    refine bodyPost_ret (by simp [results, Tryz.results52, go_sem, r0, r1, r2, r3, r4, r5, r6, r7, r8, r9]; try rfl) rfl ?_
    exact ⟨rfl, hp.2.2.1 _ (HN.out.trans (hn.alloc _)) (Nat.le_succ _)⟩
  · have hr := ((hn.alloc (.cells #[.string (nmF k), .int .i64 (lsF k), .int .i64 (msF k), .int .i64 (lbF k), .int .i64 (mbF k), .int .i64 (kyF k), .nilFunc, .nilFunc, .nilFunc, .nilFunc] 102)).block _ (lt_of_block HR.out)).trans HR.out
    have hs := ((hn.alloc (.cells #[.string (nmF k), .int .i64 (lsF k), .int .i64 (msF k), .int .i64 (lbF k), .int .i64 (mbF k), .int .i64 (kyF k), .nilFunc, .nilFunc, .nilFunc, .nilFunc] 102)).block _ (lt_of_block HB.out)).trans HB.out
    have r0 := cell_of_row _ _ 0 _ _ _ hr
    have r1 := cell_of_row _ _ 1 _ _ _ hr
    have r2 := cell_of_row _ _ 2 _ _ _ hr
    have r3 := cell_of_row _ _ 3 _ _ _ hr
    have r4 := cell_of_row _ _ 4 _ _ _ hr
    have r5 := cell_of_row _ _ 5 _ _ _ hr
    have r6 := cell_of_row _ _ 6 _ _ _ hr
    have r7 := cell_of_row _ _ 7 _ _ _ hr
    have r8 := cell_of_row _ _ 8 _ _ _ hr
    have r9 := cell_of_row _ _ 9 _ _ _ hr
    have s0 := cell_of_row _ _ 0 _ _ _ hs
    have s1 := cell_of_row _ _ 1 _ _ _ hs
    have s2 := cell_of_row _ _ 2 _ _ _ hs
    have rf := fun i => frozen_of_row _ _ i _ _ hr
    clear c0 c1 c2 hv
    go_wp2_with fail
    have hp := put10_facts (.string ⟨#[]⟩) (.int .i64 0) (.int .i64 0) (.int .i64 0) (.int .i64 0) (.int .i64 0) .nilFunc .nilFunc .nilFunc .nilFunc hr
    refine bodyPost_ret (by simp [results, Tryz.results52, go_sem, r0, r1, r2, r3, r4, r5, r6, r7, r8, r9]; try rfl) rfl ?_
    exact ⟨rfl, hp.2.2.1 _ (HN.out.trans (hn.alloc _)) (Nat.le_succ _)⟩
set_option maxHeartbeats 1000000 in
theorem fos_bit2 (k b : Int) (a : Option Addr) (n c : Nat) (w : World) (hok : okF k = true) (h1 : ¬ (n : Int) < lsF k) (h2 : ¬ msF k < (n : Int)) (h3 : ¬ b < lbF k) (h4 : mbF k < b) : Calls Tryz.prog 52 #[.agg (sdc k b a n c)] w fun e w' => e = .returned (.tuple #[.agg fzc, .int .i64 1]) ∧ New w w' := by
  have HF := Lib.hid (fun w => fam_of k w)
  rw [hok] at HF
  generalize hW : (w.alloc (.cells (sdc k b a n c) 58)).alloc (.cells fzc 102) = w0
  have HB : Hid (w0.heap[w.heap.size]? = some (.cells (sdc k b a n c) 58 (0, 0))) := Lib.hid (by rw [← hW]; exact ((New.refl _).alloc _).block _ (lt_of_block (heap_alloc_new w _)) |>.trans (heap_alloc_new w _))
  have HR : Hid (w0.heap[w.heap.size + 1]? = some (.cells fzc 102 (0, 0))) := Lib.hid (by rw [← hW]; exact first_blockF w _ _)
  have HN : Hid (New w w0) := Lib.hid (by rw [← hW]; exact ((New.refl w).alloc _).alloc _)
  have HSZ : Hid (w0.heap.size = w.heap.size + 2) := Lib.hid (by rw [← hW]; simp)
  have c0 := cell_of_row _ _ 0 _ _ _ HB.out
  have c1 := cell_of_row _ _ 1 _ _ _ HB.out
  have c2 := cell_of_row _ _ 2 _ _ _ HB.out
  go_enter Tryz.func52, Tryz.ntmps52
  go_wp2_with fail
  refine (HF.out _).mono ?_
  rintro e w1 ⟨⟨cs, rfl, hv⟩, hn⟩
  rcases hv.shape with ⟨u0, u1, u2, u3, p, q, r, s, rfl⟩ | ⟨u0, u1, u2, p, q, r, rfl⟩ | rfl
  · have hr := ((hn.alloc (.cells #[.string (nmF k), .int .i64 (lsF k), .int .i64 (msF k), .int .i64 (lbF k), .int .i64 (mbF k), .int .i64 (kyF k), .func (Fn.func u0) #[] p, .func (Fn.func u1) #[] q, .func (Fn.func u2) #[] r, .func (Fn.func u3) #[] s] 102)).block _ (lt_of_block HR.out)).trans HR.out
    have hs := ((hn.alloc (.cells #[.string (nmF k), .int .i64 (lsF k), .int .i64 (msF k), .int .i64 (lbF k), .int .i64 (mbF k), .int .i64 (kyF k), .func (Fn.func u0) #[] p, .func (Fn.func u1) #[] q, .func (Fn.func u2) #[] r, .func (Fn.func u3) #[] s] 102)).block _ (lt_of_block HB.out)).trans HB.out
    have r0 := cell_of_row _ _ 0 _ _ _ hr
    have r1 := cell_of_row _ _ 1 _ _ _ hr
    have r2 := cell_of_row _ _ 2 _ _ _ hr
    have r3 := cell_of_row _ _ 3 _ _ _ hr
    have r4 := cell_of_row _ _ 4 _ _ _ hr
    have r5 := cell_of_row _ _ 5 _ _ _ hr
    have r6 := cell_of_row _ _ 6 _ _ _ hr
    have r7 := cell_of_row _ _ 7 _ _ _ hr
    have r8 := cell_of_row _ _ 8 _ _ _ hr
    have r9 := cell_of_row _ _ 9 _ _ _ hr
    have s0 := cell_of_row _ _ 0 _ _ _ hs
    have s1 := cell_of_row _ _ 1 _ _ _ hs
    have s2 := cell_of_row _ _ 2 _ _ _ hs
    have rf := fun i => frozen_of_row _ _ i _ _ hr
    clear c0 c1 c2 hv
    go_wp2_with fail
    have hp := put10_facts (.string ⟨#[]⟩) (.int .i64 0) (.int .i64 0) (.int .i64 0) (.int .i64 0) (.int .i64 0) .nilFunc .nilFunc .nilFunc .nilFunc hr
    refine bodyPost_ret (by simp [results, Tryz.results52, go_sem, r0, r1, r2, r3, r4, r5, r6, r7, r8, r9]; try rfl) rfl ?_
    exact ⟨rfl, hp.2.2.1 _ (HN.out.trans (hn.alloc _)) (Nat.le_succ _)⟩
  · have hr := ((hn.alloc (.cells #[.string (nmF k), .int .i64 (lsF k), .int .i64 (msF k), .int .i64 (lbF k), .int .i64 (mbF k), .int .i64 (kyF k), .func (Fn.func u0) #[] p, .func (Fn.func u1) #[] q, .func (Fn.func u2) #[] r, .nilFunc] 102)).block _ (lt_of_block HR.out)).trans HR.out
    have hs := ((hn.alloc (.cells #[.string (nmF k), .int .i64 (lsF k), .int .i64 (msF k), .int .i64 (lbF k), .int .i64 (mbF k), .int .i64 (kyF k), .func (Fn.func u0) #[] p, .func (Fn.func u1) #[] q, .func (Fn.func u2) #[] r, .nilFunc] 102)).block _ (lt_of_block HB.out)).trans HB.out
    have r0 := cell_of_row _ _ 0 _ _ _ hr
    have r1 := cell_of_row _ _ 1 _ _ _ hr
    have r2 := cell_of_row _ _ 2 _ _ _ hr
    have r3 := cell_of_row _ _ 3 _ _ _ hr
    have r4 := cell_of_row _ _ 4 _ _ _ hr
    have r5 := cell_of_row _ _ 5 _ _ _ hr
    have r6 := cell_of_row _ _ 6 _ _ _ hr
    have r7 := cell_of_row _ _ 7 _ _ _ hr
    have r8 := cell_of_row _ _ 8 _ _ _ hr
    have r9 := cell_of_row _ _ 9 _ _ _ hr
    have s0 := cell_of_row _ _ 0 _ _ _ hs
    have s1 := cell_of_row _ _ 1 _ _ _ hs
    have s2 := cell_of_row _ _ 2 _ _ _ hs
    have rf := fun i => frozen_of_row _ _ i _ _ hr
    clear c0 c1 c2 hv
    go_wp2_with fail
    have hp := put10_facts (.string ⟨#[]⟩) (.int .i64 0) (.int .i64 0) (.int .i64 0) (.int .i64 0) (.int .i64 0) .nilFunc .nilFunc .nilFunc .nilFunc hr
    refine bodyPost_ret (by simp [results, Tryz.results52, go_sem, r0, r1, r2, r3, r4, r5, r6, r7, r8, r9]; try rfl) rfl ?_
    exact ⟨rfl, hp.2.2.1 _ (HN.out.trans (hn.alloc _)) (Nat.le_succ _)⟩
  · have hr := ((hn.alloc (.cells #[.string (nmF k), .int .i64 (lsF k), .int .i64 (msF k), .int .i64 (lbF k), .int .i64 (mbF k), .int .i64 (kyF k), .nilFunc, .nilFunc, .nilFunc, .nilFunc] 102)).block _ (lt_of_block HR.out)).trans HR.out
    have hs := ((hn.alloc (.cells #[.string (nmF k), .int .i64 (lsF k), .int .i64 (msF k), .int .i64 (lbF k), .int .i64 (mbF k), .int .i64 (kyF k), .nilFunc, .nilFunc, .nilFunc, .nilFunc] 102)).block _ (lt_of_block HB.out)).trans HB.out
    have r0 := cell_of_row _ _ 0 _ _ _ hr
    have r1 := cell_of_row _ _ 1 _ _ _ hr
    have r2 := cell_of_row _ _ 2 _ _ _ hr
    have r3 := cell_of_row _ _ 3 _ _ _ hr
    have r4 := cell_of_row _ _ 4 _ _ _ hr
    have r5 := cell_of_row _ _ 5 _ _ _ hr
    have r6 := cell_of_row _ _ 6 _ _ _ hr
    have r7 := cell_of_row _ _ 7 _ _ _ hr
    have r8 := cell_of_row _ _ 8 _ _ _ hr
    have r9 := cell_of_row _ _ 9 _ _ _ hr
    have s0 := cell_of_row _ _ 0 _ _ _ hs
    have s1 := cell_of_row _ _ 1 _ _ _ hs
    have s2 := cell_of_row _ _ 2 _ _ _ hs
    have rf := fun i => frozen_of_row _ _ i _ _ hr
    clear c0 c1 c2 hv
    go_wp2_with fail
    have hp := put10_facts (.string ⟨#[]⟩) (.int .i64 0) (.int .i64 0) (.int .i64 0) (.int .i64 0) (.int .i64 0) .nilFunc .nilFunc .nilFunc .nilFunc hr
    refine bodyPost_ret (by simp [results, Tryz.results52, go_sem, r0, r1, r2, r3, r4, r5, r6, r7, r8, r9]; try rfl) rfl ?_
    exact ⟨rfl, hp.2.2.1 _ (HN.out.trans (hn.alloc _)) (Nat.le_succ _)⟩
end Go.Proofs.YthkmcnlciefnfaaGreat
