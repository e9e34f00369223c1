import Derived.Test.YthkmcnlciefnfaaGreatZ5FamC
/- Layer 27: the family of a seed of right length and bits: its words. -/
namespace Go.Proofs.YthkmcnlciefnfaaGreat
open Go.RowKit Go.Bv
set_option linter.unusedVariables false
set_option maxHeartbeats 4000000 in
theorem fos_bad (k b : Int) (a : Option Addr) (n c : Nat) (l : List (BitVec 64)) (w : World) (h : QRow w a n c l) (hok : okF k = true) (h1 : ¬ (n : Int) < lsF k) (h2 : ¬ msF k < (n : Int)) (h3 : ¬ b < lbF k) (h4 : ¬ mbF k < b) (hz : ¬ chS k b l = 0) : Calls Tryz.prog 52 #[.agg (sdc k b a n c)] w fun e w' => e = .returned (.tuple #[.agg fzc, .int .i64 (chS k b l)]) ∧ New w w' := by
  have HF := Lib.hid (fun w => fam_of k w)
  rw [hok] at HF
  generalize hW : (w.alloc (.cells (sdc k b a n c) 58)).alloc (.cells fzc 102) = w0
  have HB : Hid (w0.heap[w.heap.size]? = some (.cells (sdc k b a n c) 58 (0, 0))) := Lib.hid (by rw [← hW]; exact ((New.refl _).alloc _).block _ (lt_of_block (heap_alloc_new w _)) |>.trans (heap_alloc_new w _))
  have HR : Hid (w0.heap[w.heap.size + 1]? = some (.cells fzc 102 (0, 0))) := Lib.hid (by rw [← hW]; exact first_blockF w _ _)
  have HN : Hid (New w w0) := Lib.hid (by rw [← hW]; exact ((New.refl w).alloc _).alloc _)
  have HSZ : Hid (w0.heap.size = w.heap.size + 2) := Lib.hid (by rw [← hW]; simp)
  have c0 := cell_of_row _ _ 0 _ _ _ HB.out
  have c1 := cell_of_row _ _ 1 _ _ _ HB.out
  have c2 := cell_of_row _ _ 2 _ _ _ HB.out
  go_enter Tryz.func52, Tryz.ntmps52
  go_wp2_with fail
  refine (HF.out _).mono ?_
  rintro e w1 ⟨⟨cs, rfl, hv⟩, hn⟩
  obtain ⟨f, rfl, hg⟩ : ∃ f : Fm, cs = f.cells ∧ OwnF w0.heap.size w1 k f := by
    rcases hv with ⟨_, f, e, hg⟩ | ⟨hk, _⟩
    · exact ⟨f, e, hg⟩
    · rw [hok] at hk; cases hk
  have hv := hg.now
  cases hv with
  | poly =>
    have hr := ((hn.alloc (.cells #[.string (nmF 1), .int .i64 (lsF 1), .int .i64 (msF 1), .int .i64 (lbF 1), .int .i64 (mbF 1), .int .i64 (kyF 1), (.func (Fn.func 192) #[] #[]), (.func (Fn.func 194) #[] #[]), (.func (Fn.func 195) #[] #[]), (.func (Fn.func 197) #[] #[])] 102)).block _ (lt_of_block HR.out)).trans HR.out
    have hs := ((hn.alloc (.cells #[.string (nmF 1), .int .i64 (lsF 1), .int .i64 (msF 1), .int .i64 (lbF 1), .int .i64 (mbF 1), .int .i64 (kyF 1), (.func (Fn.func 192) #[] #[]), (.func (Fn.func 194) #[] #[]), (.func (Fn.func 195) #[] #[]), (.func (Fn.func 197) #[] #[])] 102)).block _ (lt_of_block HB.out)).trans HB.out
    have HCK := Lib.hid (ck_poly 1 b a n c l _ (h.stay (HN.out.trans (hn.alloc (.cells #[.string (nmF 1), .int .i64 (lsF 1), .int .i64 (msF 1), .int .i64 (lbF 1), .int .i64 (mbF 1), .int .i64 (kyF 1), (.func (Fn.func 192) #[] #[]), (.func (Fn.func 194) #[] #[]), (.func (Fn.func 195) #[] #[]), (.func (Fn.func 197) #[] #[])] 102)))))
    have hcv : chkC l = chS 1 b l := rfl
    rw [hcv] at HCK
    have hzb : (chS 1 b l != 0) = true := by rw [bne_iff_ne]; exact hz
    clear hz hcv
    have s0 := cell_of_row _ _ 0 _ _ _ hs
    have s1 := cell_of_row _ _ 1 _ _ _ hs
    have s2 := cell_of_row _ _ 2 _ _ _ hs
    clear c0 c1 c2 hv
    go_wp2_with fail
    refine HCK.out.mono ?_
    rintro e w2 ⟨rfl, hn2⟩
    clear s0 s1 s2
    have hr2 := (hn2.block _ (lt_of_block hr)).trans hr
    have hf2 := (hn2.block _ (lt_of_block (heap_alloc_new w1 (.cells #[.string (nmF 1), .int .i64 (lsF 1), .int .i64 (msF 1), .int .i64 (lbF 1), .int .i64 (mbF 1), .int .i64 (kyF 1), (.func (Fn.func 192) #[] #[]), (.func (Fn.func 194) #[] #[]), (.func (Fn.func 195) #[] #[]), (.func (Fn.func 197) #[] #[])] 102)))).trans (heap_alloc_new w1 _)
    have r0 := cell_of_row _ _ 0 _ _ _ hr2
    have r1 := cell_of_row _ _ 1 _ _ _ hr2
    have r2 := cell_of_row _ _ 2 _ _ _ hr2
    have r3 := cell_of_row _ _ 3 _ _ _ hr2
    have r4 := cell_of_row _ _ 4 _ _ _ hr2
    have r5 := cell_of_row _ _ 5 _ _ _ hr2
    have r6 := cell_of_row _ _ 6 _ _ _ hr2
    have r7 := cell_of_row _ _ 7 _ _ _ hr2
    have r8 := cell_of_row _ _ 8 _ _ _ hr2
    have r9 := cell_of_row _ _ 9 _ _ _ hr2
    have f0 := cell_of_row _ _ 0 _ _ _ hf2
    have f1 := cell_of_row _ _ 1 _ _ _ hf2
    have f2 := cell_of_row _ _ 2 _ _ _ hf2
    have f3 := cell_of_row _ _ 3 _ _ _ hf2
    have f4 := cell_of_row _ _ 4 _ _ _ hf2
    have f5 := cell_of_row _ _ 5 _ _ _ hf2
    have f6 := cell_of_row _ _ 6 _ _ _ hf2
    have f7 := cell_of_row _ _ 7 _ _ _ hf2
    have f8 := cell_of_row _ _ 8 _ _ _ hf2
    have f9 := cell_of_row _ _ 9 _ _ _ hf2
    have rf := fun i => frozen_of_row _ _ i _ _ hr2
    go_wp2_with fail
    have hp := put10_facts (.string ⟨#[]⟩) (.int .i64 0) (.int .i64 0) (.int .i64 0) (.int .i64 0) (.int .i64 0) .nilFunc .nilFunc .nilFunc .nilFunc hr2
    refine bodyPost_ret (by simp [results, Tryz.results52, go_sem, r0, r1, r2, r3, r4, r5, r6, r7, r8, r9]; try rfl) rfl ?_
    exact ⟨rfl, hp.2.2.1 _ (HN.out.trans ((hn.alloc _).trans hn2)) (Nat.le_succ _)⟩
  | odd bq hq =>
    have hr := ((hn.alloc (.cells #[.string (nmF 2), .int .i64 (lsF 2), .int .i64 (msF 2), .int .i64 (lbF 2), .int .i64 (mbF 2), .int .i64 (kyF 2), (.func (Fn.func 199) #[] #[]), (.func (Fn.func 319) #[] #[.pointer (some ⟨bq, 0, none⟩)]), (.func (Fn.func 202) #[] #[]), .nilFunc] 102)).block _ (lt_of_block HR.out)).trans HR.out
    have hs := ((hn.alloc (.cells #[.string (nmF 2), .int .i64 (lsF 2), .int .i64 (msF 2), .int .i64 (lbF 2), .int .i64 (mbF 2), .int .i64 (kyF 2), (.func (Fn.func 199) #[] #[]), (.func (Fn.func 319) #[] #[.pointer (some ⟨bq, 0, none⟩)]), (.func (Fn.func 202) #[] #[]), .nilFunc] 102)).block _ (lt_of_block HB.out)).trans HB.out
    have hn1 : 1 ≤ n := by have : lsF 2 = 1 := rfl; omega
    have HCK := Lib.hid (ck_odd 2 b a n c l _ (h.stay (HN.out.trans (hn.alloc (.cells #[.string (nmF 2), .int .i64 (lsF 2), .int .i64 (msF 2), .int .i64 (lbF 2), .int .i64 (mbF 2), .int .i64 (kyF 2), (.func (Fn.func 199) #[] #[]), (.func (Fn.func 319) #[] #[.pointer (some ⟨bq, 0, none⟩)]), (.func (Fn.func 202) #[] #[]), .nilFunc] 102)))) hn1)
    have hcv : chkM (l.getD 0 0#64) b = chS 2 b l := rfl
    rw [hcv] at HCK
    have hzb : (chS 2 b l != 0) = true := by rw [bne_iff_ne]; exact hz
    clear hz hcv
    have s0 := cell_of_row _ _ 0 _ _ _ hs
    have s1 := cell_of_row _ _ 1 _ _ _ hs
    have s2 := cell_of_row _ _ 2 _ _ _ hs
    clear c0 c1 c2 hv
    go_wp2_with fail
    refine HCK.out.mono ?_
    rintro e w2 ⟨rfl, hn2⟩
    clear s0 s1 s2
    have hr2 := (hn2.block _ (lt_of_block hr)).trans hr
    have hf2 := (hn2.block _ (lt_of_block (heap_alloc_new w1 (.cells #[.string (nmF 2), .int .i64 (lsF 2), .int .i64 (msF 2), .int .i64 (lbF 2), .int .i64 (mbF 2), .int .i64 (kyF 2), (.func (Fn.func 199) #[] #[]), (.func (Fn.func 319) #[] #[.pointer (some ⟨bq, 0, none⟩)]), (.func (Fn.func 202) #[] #[]), .nilFunc] 102)))).trans (heap_alloc_new w1 _)
    have r0 := cell_of_row _ _ 0 _ _ _ hr2
    have r1 := cell_of_row _ _ 1 _ _ _ hr2
    have r2 := cell_of_row _ _ 2 _ _ _ hr2
    have r3 := cell_of_row _ _ 3 _ _ _ hr2
    have r4 := cell_of_row _ _ 4 _ _ _ hr2
    have r5 := cell_of_row _ _ 5 _ _ _ hr2
    have r6 := cell_of_row _ _ 6 _ _ _ hr2
    have r7 := cell_of_row _ _ 7 _ _ _ hr2
    have r8 := cell_of_row _ _ 8 _ _ _ hr2
    have r9 := cell_of_row _ _ 9 _ _ _ hr2
    have f0 := cell_of_row _ _ 0 _ _ _ hf2
    have f1 := cell_of_row _ _ 1 _ _ _ hf2
    have f2 := cell_of_row _ _ 2 _ _ _ hf2
    have f3 := cell_of_row _ _ 3 _ _ _ hf2
    have f4 := cell_of_row _ _ 4 _ _ _ hf2
    have f5 := cell_of_row _ _ 5 _ _ _ hf2
    have f6 := cell_of_row _ _ 6 _ _ _ hf2
    have f7 := cell_of_row _ _ 7 _ _ _ hf2
    have f8 := cell_of_row _ _ 8 _ _ _ hf2
    have f9 := cell_of_row _ _ 9 _ _ _ hf2
    have rf := fun i => frozen_of_row _ _ i _ _ hr2
    go_wp2_with fail
    have hp := put10_facts (.string ⟨#[]⟩) (.int .i64 0) (.int .i64 0) (.int .i64 0) (.int .i64 0) (.int .i64 0) .nilFunc .nilFunc .nilFunc .nilFunc hr2
    refine bodyPost_ret (by simp [results, Tryz.results52, go_sem, r0, r1, r2, r3, r4, r5, r6, r7, r8, r9]; try rfl) rfl ?_
    exact ⟨rfl, hp.2.2.1 _ (HN.out.trans ((hn.alloc _).trans hn2)) (Nat.le_succ _)⟩
  | str bq hq =>
    have hr := ((hn.alloc (.cells #[.string (nmF 8), .int .i64 (lsF 8), .int .i64 (msF 8), .int .i64 (lbF 8), .int .i64 (mbF 8), .int .i64 (kyF 8), (.func (Fn.func 227) #[] #[]), (.func (Fn.func 319) #[] #[.pointer (some ⟨bq, 0, none⟩)]), (.func (Fn.func 228) #[] #[]), .nilFunc] 102)).block _ (lt_of_block HR.out)).trans HR.out
    have hs := ((hn.alloc (.cells #[.string (nmF 8), .int .i64 (lsF 8), .int .i64 (msF 8), .int .i64 (lbF 8), .int .i64 (mbF 8), .int .i64 (kyF 8), (.func (Fn.func 227) #[] #[]), (.func (Fn.func 319) #[] #[.pointer (some ⟨bq, 0, none⟩)]), (.func (Fn.func 228) #[] #[]), .nilFunc] 102)).block _ (lt_of_block HB.out)).trans HB.out
    have hn1 : 1 ≤ n := by have : lsF 8 = 1 := rfl; omega
    have HCK := Lib.hid (ck_str 8 b a n c l _ (h.stay (HN.out.trans (hn.alloc (.cells #[.string (nmF 8), .int .i64 (lsF 8), .int .i64 (msF 8), .int .i64 (lbF 8), .int .i64 (mbF 8), .int .i64 (kyF 8), (.func (Fn.func 227) #[] #[]), (.func (Fn.func 319) #[] #[.pointer (some ⟨bq, 0, none⟩)]), (.func (Fn.func 228) #[] #[]), .nilFunc] 102)))) hn1)
    have hcv : (if PP ≤ (l.getD 0 0#64).toNat then 2 else 0) = chS 8 b l := rfl
    rw [hcv] at HCK
    have hzb : (chS 8 b l != 0) = true := by rw [bne_iff_ne]; exact hz
    clear hz hcv
    have s0 := cell_of_row _ _ 0 _ _ _ hs
    have s1 := cell_of_row _ _ 1 _ _ _ hs
    have s2 := cell_of_row _ _ 2 _ _ _ hs
    clear c0 c1 c2 hv
    go_wp2_with fail
    refine HCK.out.mono ?_
    rintro e w2 ⟨rfl, hn2⟩
    clear s0 s1 s2
    have hr2 := (hn2.block _ (lt_of_block hr)).trans hr
    have hf2 := (hn2.block _ (lt_of_block (heap_alloc_new w1 (.cells #[.string (nmF 8), .int .i64 (lsF 8), .int .i64 (msF 8), .int .i64 (lbF 8), .int .i64 (mbF 8), .int .i64 (kyF 8), (.func (Fn.func 227) #[] #[]), (.func (Fn.func 319) #[] #[.pointer (some ⟨bq, 0, none⟩)]), (.func (Fn.func 228) #[] #[]), .nilFunc] 102)))).trans (heap_alloc_new w1 _)
    have r0 := cell_of_row _ _ 0 _ _ _ hr2
    have r1 := cell_of_row _ _ 1 _ _ _ hr2
    have r2 := cell_of_row _ _ 2 _ _ _ hr2
    have r3 := cell_of_row _ _ 3 _ _ _ hr2
    have r4 := cell_of_row _ _ 4 _ _ _ hr2
    have r5 := cell_of_row _ _ 5 _ _ _ hr2
    have r6 := cell_of_row _ _ 6 _ _ _ hr2
    have r7 := cell_of_row _ _ 7 _ _ _ hr2
    have r8 := cell_of_row _ _ 8 _ _ _ hr2
    have r9 := cell_of_row _ _ 9 _ _ _ hr2
    have f0 := cell_of_row _ _ 0 _ _ _ hf2
    have f1 := cell_of_row _ _ 1 _ _ _ hf2
    have f2 := cell_of_row _ _ 2 _ _ _ hf2
    have f3 := cell_of_row _ _ 3 _ _ _ hf2
    have f4 := cell_of_row _ _ 4 _ _ _ hf2
    have f5 := cell_of_row _ _ 5 _ _ _ hf2
    have f6 := cell_of_row _ _ 6 _ _ _ hf2
    have f7 := cell_of_row _ _ 7 _ _ _ hf2
    have f8 := cell_of_row _ _ 8 _ _ _ hf2
    have f9 := cell_of_row _ _ 9 _ _ _ hf2
    have rf := fun i => frozen_of_row _ _ i _ _ hr2
    go_wp2_with fail
    have hp := put10_facts (.string ⟨#[]⟩) (.int .i64 0) (.int .i64 0) (.int .i64 0) (.int .i64 0) (.int .i64 0) .nilFunc .nilFunc .nilFunc .nilFunc hr2
    refine bodyPost_ret (by simp [results, Tryz.results52, go_sem, r0, r1, r2, r3, r4, r5, r6, r7, r8, r9]; try rfl) rfl ?_
    exact ⟨rfl, hp.2.2.1 _ (HN.out.trans ((hn.alloc _).trans hn2)) (Nat.le_succ _)⟩
  | sum k hk bq b9 hq h9 =>
    exact absurd (by unfold chS; rw [if_neg (by omega), if_neg (by omega), if_neg (by omega)]) hz
  | table k hk bq be bs hq he hs2 =>
    exact absurd (by unfold chS; rw [if_neg (by omega), if_neg (by omega), if_neg (by omega)]) hz
set_option maxHeartbeats 4000000 in
theorem fos_ok (k b : Int) (a : Option Addr) (n c : Nat) (l : List (BitVec 64)) (w : World) (h : QRow w a n c l) (hok : okF k = true) (h1 : ¬ (n : Int) < lsF k) (h2 : ¬ msF k < (n : Int)) (h3 : ¬ b < lbF k) (h4 : ¬ mbF k < b) (hz : chS k b l = 0) : Calls Tryz.prog 52 #[.agg (sdc k b a n c)] w fun e w' => (∃ f : Fm, e = .returned (.tuple #[.agg f.cells, .int .i64 0]) ∧ OwnF w.heap.size w' k f) ∧ New w w' := by
  have HF := Lib.hid (fun w => fam_of k w)
  rw [hok] at HF
  generalize hW : (w.alloc (.cells (sdc k b a n c) 58)).alloc (.cells fzc 102) = w0
  have HB : Hid (w0.heap[w.heap.size]? = some (.cells (sdc k b a n c) 58 (0, 0))) := Lib.hid (by rw [← hW]; exact ((New.refl _).alloc _).block _ (lt_of_block (heap_alloc_new w _)) |>.trans (heap_alloc_new w _))
  have HR : Hid (w0.heap[w.heap.size + 1]? = some (.cells fzc 102 (0, 0))) := Lib.hid (by rw [← hW]; exact first_blockF w _ _)
  have HN : Hid (New w w0) := Lib.hid (by rw [← hW]; exact ((New.refl w).alloc _).alloc _)
  have HSZ : Hid (w0.heap.size = w.heap.size + 2) := Lib.hid (by rw [← hW]; simp)
  have c0 := cell_of_row _ _ 0 _ _ _ HB.out
  have c1 := cell_of_row _ _ 1 _ _ _ HB.out
  have c2 := cell_of_row _ _ 2 _ _ _ HB.out
  go_enter Tryz.func52, Tryz.ntmps52
  go_wp2_with fail
  refine (HF.out _).mono ?_
  rintro e w1 ⟨⟨cs, rfl, hv⟩, hn⟩
  obtain ⟨f, rfl, hg⟩ : ∃ f : Fm, cs = f.cells ∧ OwnF w0.heap.size w1 k f := by
    rcases hv with ⟨_, f, e, hg⟩ | ⟨hk, _⟩
    · exact ⟨f, e, hg⟩
    · rw [hok] at hk; cases hk
  have hv := hg.now
  cases hv with
  | poly =>
    have hr := ((hn.alloc (.cells #[.string (nmF 1), .int .i64 (lsF 1), .int .i64 (msF 1), .int .i64 (lbF 1), .int .i64 (mbF 1), .int .i64 (kyF 1), (.func (Fn.func 192) #[] #[]), (.func (Fn.func 194) #[] #[]), (.func (Fn.func 195) #[] #[]), (.func (Fn.func 197) #[] #[])] 102)).block _ (lt_of_block HR.out)).trans HR.out
    have hs := ((hn.alloc (.cells #[.string (nmF 1), .int .i64 (lsF 1), .int .i64 (msF 1), .int .i64 (lbF 1), .int .i64 (mbF 1), .int .i64 (kyF 1), (.func (Fn.func 192) #[] #[]), (.func (Fn.func 194) #[] #[]), (.func (Fn.func 195) #[] #[]), (.func (Fn.func 197) #[] #[])] 102)).block _ (lt_of_block HB.out)).trans HB.out
    have HCK := Lib.hid (ck_poly 1 b a n c l _ (h.stay (HN.out.trans (hn.alloc (.cells #[.string (nmF 1), .int .i64 (lsF 1), .int .i64 (msF 1), .int .i64 (lbF 1), .int .i64 (mbF 1), .int .i64 (kyF 1), (.func (Fn.func 192) #[] #[]), (.func (Fn.func 194) #[] #[]), (.func (Fn.func 195) #[] #[]), (.func (Fn.func 197) #[] #[])] 102)))))
    have hcv : chkC l = chS 1 b l := rfl
    rw [hcv] at HCK
    rw [hz] at HCK
    clear hcv hz
    have s0 := cell_of_row _ _ 0 _ _ _ hs
    have s1 := cell_of_row _ _ 1 _ _ _ hs
    have s2 := cell_of_row _ _ 2 _ _ _ hs
    clear c0 c1 c2 hv
    go_wp2_with fail
    refine HCK.out.mono ?_
    rintro e w2 ⟨rfl, hn2⟩
    clear s0 s1 s2
    have hr2 := (hn2.block _ (lt_of_block hr)).trans hr
    have hf2 := (hn2.block _ (lt_of_block (heap_alloc_new w1 (.cells #[.string (nmF 1), .int .i64 (lsF 1), .int .i64 (msF 1), .int .i64 (lbF 1), .int .i64 (mbF 1), .int .i64 (kyF 1), (.func (Fn.func 192) #[] #[]), (.func (Fn.func 194) #[] #[]), (.func (Fn.func 195) #[] #[]), (.func (Fn.func 197) #[] #[])] 102)))).trans (heap_alloc_new w1 _)
    have r0 := cell_of_row _ _ 0 _ _ _ hr2
    have r1 := cell_of_row _ _ 1 _ _ _ hr2
    have r2 := cell_of_row _ _ 2 _ _ _ hr2
    have r3 := cell_of_row _ _ 3 _ _ _ hr2
    have r4 := cell_of_row _ _ 4 _ _ _ hr2
    have r5 := cell_of_row _ _ 5 _ _ _ hr2
    have r6 := cell_of_row _ _ 6 _ _ _ hr2
    have r7 := cell_of_row _ _ 7 _ _ _ hr2
    have r8 := cell_of_row _ _ 8 _ _ _ hr2
    have r9 := cell_of_row _ _ 9 _ _ _ hr2
    have f0 := cell_of_row _ _ 0 _ _ _ hf2
    have f1 := cell_of_row _ _ 1 _ _ _ hf2
    have f2 := cell_of_row _ _ 2 _ _ _ hf2
    have f3 := cell_of_row _ _ 3 _ _ _ hf2
    have f4 := cell_of_row _ _ 4 _ _ _ hf2
    have f5 := cell_of_row _ _ 5 _ _ _ hf2
    have f6 := cell_of_row _ _ 6 _ _ _ hf2
    have f7 := cell_of_row _ _ 7 _ _ _ hf2
    have f8 := cell_of_row _ _ 8 _ _ _ hf2
    have f9 := cell_of_row _ _ 9 _ _ _ hf2
    have rf := fun i => frozen_of_row _ _ i _ _ hr2
    go_wp2_with fail
    have hp := put10_facts (.string (nmF 1)) (.int .i64 (lsF 1)) (.int .i64 (msF 1)) (.int .i64 (lbF 1)) (.int .i64 (mbF 1)) (.int .i64 (kyF 1)) (.func (Fn.func 192) #[] #[]) (.func (Fn.func 194) #[] #[]) (.func (Fn.func 195) #[] #[]) (.func (Fn.func 197) #[] #[]) hr2
    refine bodyPost_ret (by simp [results, Tryz.results52, go_sem, r0, r1, r2, r3, r4, r5, r6, r7, r8, r9]; try rfl) rfl ?_
    refine ⟨⟨⟨nmF 1, lsF 1, msF 1, lbF 1, mbF 1, kyF 1, (.func (Fn.func 192) #[] #[]), (.func (Fn.func 194) #[] #[]), (.func (Fn.func 195) #[] #[]), (.func (Fn.func 197) #[] #[])⟩, rfl, ?_⟩, hp.2.2.1 _ (HN.out.trans ((hn.alloc _).trans hn2)) (Nat.le_succ _)⟩
    exact ((hg.stay ((New.refl w1).alloc _ |>.trans hn2)).kept (Nat.le_of_eq hp.2.2.2.symm) fun j hj _ => hp.2.1 j (by have := HSZ.out; omega)).le (by have := HSZ.out; omega)
  | odd bq hq =>
    have hr := ((hn.alloc (.cells #[.string (nmF 2), .int .i64 (lsF 2), .int .i64 (msF 2), .int .i64 (lbF 2), .int .i64 (mbF 2), .int .i64 (kyF 2), (.func (Fn.func 199) #[] #[]), (.func (Fn.func 319) #[] #[.pointer (some ⟨bq, 0, none⟩)]), (.func (Fn.func 202) #[] #[]), .nilFunc] 102)).block _ (lt_of_block HR.out)).trans HR.out
    have hs := ((hn.alloc (.cells #[.string (nmF 2), .int .i64 (lsF 2), .int .i64 (msF 2), .int .i64 (lbF 2), .int .i64 (mbF 2), .int .i64 (kyF 2), (.func (Fn.func 199) #[] #[]), (.func (Fn.func 319) #[] #[.pointer (some ⟨bq, 0, none⟩)]), (.func (Fn.func 202) #[] #[]), .nilFunc] 102)).block _ (lt_of_block HB.out)).trans HB.out
    have hn1 : 1 ≤ n := by have : lsF 2 = 1 := rfl; omega
    have HCK := Lib.hid (ck_odd 2 b a n c l _ (h.stay (HN.out.trans (hn.alloc (.cells #[.string (nmF 2), .int .i64 (lsF 2), .int .i64 (msF 2), .int .i64 (lbF 2), .int .i64 (mbF 2), .int .i64 (kyF 2), (.func (Fn.func 199) #[] #[]), (.func (Fn.func 319) #[] #[.pointer (some ⟨bq, 0, none⟩)]), (.func (Fn.func 202) #[] #[]), .nilFunc] 102)))) hn1)
    have hcv : chkM (l.getD 0 0#64) b = chS 2 b l := rfl
    rw [hcv] at HCK
    rw [hz] at HCK
    clear hcv hz
    have s0 := cell_of_row _ _ 0 _ _ _ hs
    have s1 := cell_of_row _ _ 1 _ _ _ hs
    have s2 := cell_of_row _ _ 2 _ _ _ hs
    clear c0 c1 c2 hv
    go_wp2_with fail
    refine HCK.out.mono ?_
    rintro e w2 ⟨rfl, hn2⟩
    clear s0 s1 s2
    have hr2 := (hn2.block _ (lt_of_block hr)).trans hr
    have hf2 := (hn2.block _ (lt_of_block (heap_alloc_new w1 (.cells #[.string (nmF 2), .int .i64 (lsF 2), .int .i64 (msF 2), .int .i64 (lbF 2), .int .i64 (mbF 2), .int .i64 (kyF 2), (.func (Fn.func 199) #[] #[]), (.func (Fn.func 319) #[] #[.pointer (some ⟨bq, 0, none⟩)]), (.func (Fn.func 202) #[] #[]), .nilFunc] 102)))).trans (heap_alloc_new w1 _)
    have r0 := cell_of_row _ _ 0 _ _ _ hr2
    have r1 := cell_of_row _ _ 1 _ _ _ hr2
    have r2 := cell_of_row _ _ 2 _ _ _ hr2
    have r3 := cell_of_row _ _ 3 _ _ _ hr2
    have r4 := cell_of_row _ _ 4 _ _ _ hr2
    have r5 := cell_of_row _ _ 5 _ _ _ hr2
    have r6 := cell_of_row _ _ 6 _ _ _ hr2
    have r7 := cell_of_row _ _ 7 _ _ _ hr2
    have r8 := cell_of_row _ _ 8 _ _ _ hr2
    have r9 := cell_of_row _ _ 9 _ _ _ hr2
    have f0 := cell_of_row _ _ 0 _ _ _ hf2
    have f1 := cell_of_row _ _ 1 _ _ _ hf2
    have f2 := cell_of_row _ _ 2 _ _ _ hf2
    have f3 := cell_of_row _ _ 3 _ _ _ hf2
    have f4 := cell_of_row _ _ 4 _ _ _ hf2
    have f5 := cell_of_row _ _ 5 _ _ _ hf2
    have f6 := cell_of_row _ _ 6 _ _ _ hf2
    have f7 := cell_of_row _ _ 7 _ _ _ hf2
    have f8 := cell_of_row _ _ 8 _ _ _ hf2
    have f9 := cell_of_row _ _ 9 _ _ _ hf2
    have rf := fun i => frozen_of_row _ _ i _ _ hr2
    go_wp2_with fail
    have hp := put10_facts (.string (nmF 2)) (.int .i64 (lsF 2)) (.int .i64 (msF 2)) (.int .i64 (lbF 2)) (.int .i64 (mbF 2)) (.int .i64 (kyF 2)) (.func (Fn.func 199) #[] #[]) (.func (Fn.func 319) #[] #[.pointer (some ⟨bq, 0, none⟩)]) (.func (Fn.func 202) #[] #[]) .nilFunc hr2
    refine bodyPost_ret (by simp [results, Tryz.results52, go_sem, r0, r1, r2, r3, r4, r5, r6, r7, r8, r9]; try rfl) rfl ?_
    refine ⟨⟨⟨nmF 2, lsF 2, msF 2, lbF 2, mbF 2, kyF 2, (.func (Fn.func 199) #[] #[]), (.func (Fn.func 319) #[] #[.pointer (some ⟨bq, 0, none⟩)]), (.func (Fn.func 202) #[] #[]), .nilFunc⟩, rfl, ?_⟩, hp.2.2.1 _ (HN.out.trans ((hn.alloc _).trans hn2)) (Nat.le_succ _)⟩
    exact ((hg.stay ((New.refl w1).alloc _ |>.trans hn2)).kept (Nat.le_of_eq hp.2.2.2.symm) fun j hj _ => hp.2.1 j (by have := HSZ.out; omega)).le (by have := HSZ.out; omega)
  | str bq hq =>
    have hr := ((hn.alloc (.cells #[.string (nmF 8), .int .i64 (lsF 8), .int .i64 (msF 8), .int .i64 (lbF 8), .int .i64 (mbF 8), .int .i64 (kyF 8), (.func (Fn.func 227) #[] #[]), (.func (Fn.func 319) #[] #[.pointer (some ⟨bq, 0, none⟩)]), (.func (Fn.func 228) #[] #[]), .nilFunc] 102)).block _ (lt_of_block HR.out)).trans HR.out
    have hs := ((hn.alloc (.cells #[.string (nmF 8), .int .i64 (lsF 8), .int .i64 (msF 8), .int .i64 (lbF 8), .int .i64 (mbF 8), .int .i64 (kyF 8), (.func (Fn.func 227) #[] #[]), (.func (Fn.func 319) #[] #[.pointer (some ⟨bq, 0, none⟩)]), (.func (Fn.func 228) #[] #[]), .nilFunc] 102)).block _ (lt_of_block HB.out)).trans HB.out
    have hn1 : 1 ≤ n := by have : lsF 8 = 1 := rfl; omega
    have HCK := Lib.hid (ck_str 8 b a n c l _ (h.stay (HN.out.trans (hn.alloc (.cells #[.string (nmF 8), .int .i64 (lsF 8), .int .i64 (msF 8), .int .i64 (lbF 8), .int .i64 (mbF 8), .int .i64 (kyF 8), (.func (Fn.func 227) #[] #[]), (.func (Fn.func 319) #[] #[.pointer (some ⟨bq, 0, none⟩)]), (.func (Fn.func 228) #[] #[]), .nilFunc] 102)))) hn1)
    have hcv : (if PP ≤ (l.getD 0 0#64).toNat then 2 else 0) = chS 8 b l := rfl
    rw [hcv] at HCK
    rw [hz] at HCK
    clear hcv hz
    have s0 := cell_of_row _ _ 0 _ _ _ hs
    have s1 := cell_of_row _ _ 1 _ _ _ hs
    have s2 := cell_of_row _ _ 2 _ _ _ hs
    clear c0 c1 c2 hv
    go_wp2_with fail
    refine HCK.out.mono ?_
    rintro e w2 ⟨rfl, hn2⟩
    clear s0 s1 s2
    have hr2 := (hn2.block _ (lt_of_block hr)).trans hr
    have hf2 := (hn2.block _ (lt_of_block (heap_alloc_new w1 (.cells #[.string (nmF 8), .int .i64 (lsF 8), .int .i64 (msF 8), .int .i64 (lbF 8), .int .i64 (mbF 8), .int .i64 (kyF 8), (.func (Fn.func 227) #[] #[]), (.func (Fn.func 319) #[] #[.pointer (some ⟨bq, 0, none⟩)]), (.func (Fn.func 228) #[] #[]), .nilFunc] 102)))).trans (heap_alloc_new w1 _)
    have r0 := cell_of_row _ _ 0 _ _ _ hr2
    have r1 := cell_of_row _ _ 1 _ _ _ hr2
    have r2 := cell_of_row _ _ 2 _ _ _ hr2
    have r3 := cell_of_row _ _ 3 _ _ _ hr2
    have r4 := cell_of_row _ _ 4 _ _ _ hr2
    have r5 := cell_of_row _ _ 5 _ _ _ hr2
    have r6 := cell_of_row _ _ 6 _ _ _ hr2
    have r7 := cell_of_row _ _ 7 _ _ _ hr2
    have r8 := cell_of_row _ _ 8 _ _ _ hr2
    have r9 := cell_of_row _ _ 9 _ _ _ hr2
    have f0 := cell_of_row _ _ 0 _ _ _ hf2
    have f1 := cell_of_row _ _ 1 _ _ _ hf2
    have f2 := cell_of_row _ _ 2 _ _ _ hf2
    have f3 := cell_of_row _ _ 3 _ _ _ hf2
    have f4 := cell_of_row _ _ 4 _ _ _ hf2
    have f5 := cell_of_row _ _ 5 _ _ _ hf2
    have f6 := cell_of_row _ _ 6 _ _ _ hf2
    have f7 := cell_of_row _ _ 7 _ _ _ hf2
    have f8 := cell_of_row _ _ 8 _ _ _ hf2
    have f9 := cell_of_row _ _ 9 _ _ _ hf2
    have rf := fun i => frozen_of_row _ _ i _ _ hr2
    go_wp2_with fail
    have hp := put10_facts (.string (nmF 8)) (.int .i64 (lsF 8)) (.int .i64 (msF 8)) (.int .i64 (lbF 8)) (.int .i64 (mbF 8)) (.int .i64 (kyF 8)) (.func (Fn.func 227) #[] #[]) (.func (Fn.func 319) #[] #[.pointer (some ⟨bq, 0, none⟩)]) (.func (Fn.func 228) #[] #[]) .nilFunc hr2
    refine bodyPost_ret (by simp [results, Tryz.results52, go_sem, r0, r1, r2, r3, r4, r5, r6, r7, r8, r9]; try rfl) rfl ?_
    refine ⟨⟨⟨nmF 8, lsF 8, msF 8, lbF 8, mbF 8, kyF 8, (.func (Fn.func 227) #[] #[]), (.func (Fn.func 319) #[] #[.pointer (some ⟨bq, 0, none⟩)]), (.func (Fn.func 228) #[] #[]), .nilFunc⟩, rfl, ?_⟩, hp.2.2.1 _ (HN.out.trans ((hn.alloc _).trans hn2)) (Nat.le_succ _)⟩
    exact ((hg.stay ((New.refl w1).alloc _ |>.trans hn2)).kept (Nat.le_of_eq hp.2.2.2.symm) fun j hj _ => hp.2.1 j (by have := HSZ.out; omega)).le (by have := HSZ.out; omega)
  | sum k hk bq b9 hq h9 =>
    have hr := ((hn.alloc (.cells #[.string (nmF k), .int .i64 (lsF k), .int .i64 (msF k), .int .i64 (lbF k), .int .i64 (mbF k), .int .i64 (kyF k), (.func (Fn.func 204) #[] #[]), (.func (Fn.func 319) #[] #[.pointer (some ⟨bq, 0, none⟩)]), (.func (Fn.func 205) #[] #[]), (.func (Fn.func 208) #[] #[.pointer (some ⟨b9, 0, none⟩)])] 102)).block _ (lt_of_block HR.out)).trans HR.out
    have hs := ((hn.alloc (.cells #[.string (nmF k), .int .i64 (lsF k), .int .i64 (msF k), .int .i64 (lbF k), .int .i64 (mbF k), .int .i64 (kyF k), (.func (Fn.func 204) #[] #[]), (.func (Fn.func 319) #[] #[.pointer (some ⟨bq, 0, none⟩)]), (.func (Fn.func 205) #[] #[]), (.func (Fn.func 208) #[] #[.pointer (some ⟨b9, 0, none⟩)])] 102)).block _ (lt_of_block HB.out)).trans HB.out
    have HCK := Lib.hid (ck_all k b a n c (w1.alloc (.cells #[.string (nmF k), .int .i64 (lsF k), .int .i64 (msF k), .int .i64 (lbF k), .int .i64 (mbF k), .int .i64 (kyF k), (.func (Fn.func 204) #[] #[]), (.func (Fn.func 319) #[] #[.pointer (some ⟨bq, 0, none⟩)]), (.func (Fn.func 205) #[] #[]), (.func (Fn.func 208) #[] #[.pointer (some ⟨b9, 0, none⟩)])] 102)))
    have s0 := cell_of_row _ _ 0 _ _ _ hs
    have s1 := cell_of_row _ _ 1 _ _ _ hs
    have s2 := cell_of_row _ _ 2 _ _ _ hs
    clear c0 c1 c2 hv
    go_wp2_with fail
    refine HCK.out.mono ?_
    rintro e w2 ⟨rfl, hn2⟩
    clear s0 s1 s2
    have hr2 := (hn2.block _ (lt_of_block hr)).trans hr
    have hf2 := (hn2.block _ (lt_of_block (heap_alloc_new w1 (.cells #[.string (nmF k), .int .i64 (lsF k), .int .i64 (msF k), .int .i64 (lbF k), .int .i64 (mbF k), .int .i64 (kyF k), (.func (Fn.func 204) #[] #[]), (.func (Fn.func 319) #[] #[.pointer (some ⟨bq, 0, none⟩)]), (.func (Fn.func 205) #[] #[]), (.func (Fn.func 208) #[] #[.pointer (some ⟨b9, 0, none⟩)])] 102)))).trans (heap_alloc_new w1 _)
    have r0 := cell_of_row _ _ 0 _ _ _ hr2
    have r1 := cell_of_row _ _ 1 _ _ _ hr2
    have r2 := cell_of_row _ _ 2 _ _ _ hr2
    have r3 := cell_of_row _ _ 3 _ _ _ hr2
    have r4 := cell_of_row _ _ 4 _ _ _ hr2
    have r5 := cell_of_row _ _ 5 _ _ _ hr2
    have r6 := cell_of_row _ _ 6 _ _ _ hr2
    have r7 := cell_of_row _ _ 7 _ _ _ hr2
    have r8 := cell_of_row _ _ 8 _ _ _ hr2
    have r9 := cell_of_row _ _ 9 _ _ _ hr2
    have f0 := cell_of_row _ _ 0 _ _ _ hf2
    have f1 := cell_of_row _ _ 1 _ _ _ hf2
    have f2 := cell_of_row _ _ 2 _ _ _ hf2
    have f3 := cell_of_row _ _ 3 _ _ _ hf2
    have f4 := cell_of_row _ _ 4 _ _ _ hf2
    have f5 := cell_of_row _ _ 5 _ _ _ hf2
    have f6 := cell_of_row _ _ 6 _ _ _ hf2
    have f7 := cell_of_row _ _ 7 _ _ _ hf2
    have f8 := cell_of_row _ _ 8 _ _ _ hf2
    have f9 := cell_of_row _ _ 9 _ _ _ hf2
    have rf := fun i => frozen_of_row _ _ i _ _ hr2
    go_wp2_with fail
    have hp := put10_facts (.string (nmF k)) (.int .i64 (lsF k)) (.int .i64 (msF k)) (.int .i64 (lbF k)) (.int .i64 (mbF k)) (.int .i64 (kyF k)) (.func (Fn.func 204) #[] #[]) (.func (Fn.func 319) #[] #[.pointer (some ⟨bq, 0, none⟩)]) (.func (Fn.func 205) #[] #[]) (.func (Fn.func 208) #[] #[.pointer (some ⟨b9, 0, none⟩)]) hr2
    refine bodyPost_ret (by simp [results, Tryz.results52, go_sem, r0, r1, r2, r3, r4, r5, r6, r7, r8, r9]; try rfl) rfl ?_
    refine ⟨⟨⟨nmF k, lsF k, msF k, lbF k, mbF k, kyF k, (.func (Fn.func 204) #[] #[]), (.func (Fn.func 319) #[] #[.pointer (some ⟨bq, 0, none⟩)]), (.func (Fn.func 205) #[] #[]), (.func (Fn.func 208) #[] #[.pointer (some ⟨b9, 0, none⟩)])⟩, rfl, ?_⟩, hp.2.2.1 _ (HN.out.trans ((hn.alloc _).trans hn2)) (Nat.le_succ _)⟩
    exact ((hg.stay ((New.refl w1).alloc _ |>.trans hn2)).kept (Nat.le_of_eq hp.2.2.2.symm) fun j hj _ => hp.2.1 j (by have := HSZ.out; omega)).le (by have := HSZ.out; omega)
  | table k hk bq be bs hq he hs2 =>
    have hr := ((hn.alloc (.cells #[.string (nmF k), .int .i64 (lsF k), .int .i64 (msF k), .int .i64 (lbF k), .int .i64 (mbF k), .int .i64 (kyF k), (.func (Fn.func 204) #[] #[]), (.func (Fn.func 319) #[] #[.pointer (some ⟨bq, 0, none⟩)]), (.func (Fn.func 210) #[] #[.pointer (some ⟨be, 0, none⟩)]), (.func (Fn.func 211) #[] #[.pointer (some ⟨bs, 0, none⟩)])] 102)).block _ (lt_of_block HR.out)).trans HR.out
    have hs := ((hn.alloc (.cells #[.string (nmF k), .int .i64 (lsF k), .int .i64 (msF k), .int .i64 (lbF k), .int .i64 (mbF k), .int .i64 (kyF k), (.func (Fn.func 204) #[] #[]), (.func (Fn.func 319) #[] #[.pointer (some ⟨bq, 0, none⟩)]), (.func (Fn.func 210) #[] #[.pointer (some ⟨be, 0, none⟩)]), (.func (Fn.func 211) #[] #[.pointer (some ⟨bs, 0, none⟩)])] 102)).block _ (lt_of_block HB.out)).trans HB.out
    have HCK := Lib.hid (ck_all k b a n c (w1.alloc (.cells #[.string (nmF k), .int .i64 (lsF k), .int .i64 (msF k), .int .i64 (lbF k), .int .i64 (mbF k), .int .i64 (kyF k), (.func (Fn.func 204) #[] #[]), (.func (Fn.func 319) #[] #[.pointer (some ⟨bq, 0, none⟩)]), (.func (Fn.func 210) #[] #[.pointer (some ⟨be, 0, none⟩)]), (.func (Fn.func 211) #[] #[.pointer (some ⟨bs, 0, none⟩)])] 102)))
    have s0 := cell_of_row _ _ 0 _ _ _ hs
    have s1 := cell_of_row _ _ 1 _ _ _ hs
    have s2 := cell_of_row _ _ 2 _ _ _ hs
    clear c0 c1 c2 hv
    go_wp2_with fail
    refine HCK.out.mono ?_
    rintro e w2 ⟨rfl, hn2⟩
    clear s0 s1 s2
    have hr2 := (hn2.block _ (lt_of_block hr)).trans hr
    have hf2 := (hn2.block _ (lt_of_block (heap_alloc_new w1 (.cells #[.string (nmF k), .int .i64 (lsF k), .int .i64 (msF k), .int .i64 (lbF k), .int .i64 (mbF k), .int .i64 (kyF k), (.func (Fn.func 204) #[] #[]), (.func (Fn.func 319) #[] #[.pointer (some ⟨bq, 0, none⟩)]), (.func (Fn.func 210) #[] #[.pointer (some ⟨be, 0, none⟩)]), (.func (Fn.func 211) #[] #[.pointer (some ⟨bs, 0, none⟩)])] 102)))).trans (heap_alloc_new w1 _)
    have r0 := cell_of_row _ _ 0 _ _ _ hr2
    have r1 := cell_of_row _ _ 1 _ _ _ hr2
    have r2 := cell_of_row _ _ 2 _ _ _ hr2
    have r3 := cell_of_row _ _ 3 _ _ _ hr2
    have r4 := cell_of_row _ _ 4 _ _ _ hr2
    have r5 := cell_of_row _ _ 5 _ _ _ hr2
    have r6 := cell_of_row _ _ 6 _ _ _ hr2
    have r7 := cell_of_row _ _ 7 _ _ _ hr2
    have r8 := cell_of_row _ _ 8 _ _ _ hr2
    have r9 := cell_of_row _ _ 9 _ _ _ hr2
    have f0 := cell_of_row _ _ 0 _ _ _ hf2
    have f1 := cell_of_row _ _ 1 _ _ _ hf2
    have f2 := cell_of_row _ _ 2 _ _ _ hf2
    have f3 := cell_of_row _ _ 3 _ _ _ hf2
    have f4 := cell_of_row _ _ 4 _ _ _ hf2
    have f5 := cell_of_row _ _ 5 _ _ _ hf2
    have f6 := cell_of_row _ _ 6 _ _ _ hf2
    have f7 := cell_of_row _ _ 7 _ _ _ hf2
    have f8 := cell_of_row _ _ 8 _ _ _ hf2
    have f9 := cell_of_row _ _ 9 _ _ _ hf2
    have rf := fun i => frozen_of_row _ _ i _ _ hr2
    go_wp2_with fail
    have hp := put10_facts (.string (nmF k)) (.int .i64 (lsF k)) (.int .i64 (msF k)) (.int .i64 (lbF k)) (.int .i64 (mbF k)) (.int .i64 (kyF k)) (.func (Fn.func 204) #[] #[]) (.func (Fn.func 319) #[] #[.pointer (some ⟨bq, 0, none⟩)]) (.func (Fn.func 210) #[] #[.pointer (some ⟨be, 0, none⟩)]) (.func (Fn.func 211) #[] #[.pointer (some ⟨bs, 0, none⟩)]) hr2
    refine bodyPost_ret (by simp [results, Tryz.results52, go_sem, r0, r1, r2, r3, r4, r5, r6, r7, r8, r9]; try rfl) rfl ?_
    refine ⟨⟨⟨nmF k, lsF k, msF k, lbF k, mbF k, kyF k, (.func (Fn.func 204) #[] #[]), (.func (Fn.func 319) #[] #[.pointer (some ⟨bq, 0, none⟩)]), (.func (Fn.func 210) #[] #[.pointer (some ⟨be, 0, none⟩)]), (.func (Fn.func 211) #[] #[.pointer (some ⟨bs, 0, none⟩)])⟩, rfl, ?_⟩, hp.2.2.1 _ (HN.out.trans ((hn.alloc _).trans hn2)) (Nat.le_succ _)⟩
    exact ((hg.stay ((New.refl w1).alloc _ |>.trans hn2)).kept (Nat.le_of_eq hp.2.2.2.symm) fun j hj _ => hp.2.1 j (by have := HSZ.out; omega)).le (by have := HSZ.out; omega)
end Go.Proofs.YthkmcnlciefnfaaGreat
