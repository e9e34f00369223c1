import Derived.Test.YtoplabhoedloeaaGreatZDrvD
import Derived.Test.YtoplabhoedloeaaGreatGsS
import Derived.Test.YtoplabhoedloeaaGreatFrame
/- Layer 45: DeriveSources. -/
namespace Go.Proofs.YtoplabhoedloeaaGreat
open Go Go.RowKit Go.Bv Go.Drv
set_option linter.unusedVariables false
set_option maxRecDepth 100000
theorem two_new (w : World) (o1 o2 : Obj) : ((w.alloc o1).alloc o2).heap[w.heap.size]? = some o1 ∧ ((w.alloc o1).alloc o2).heap[w.heap.size + 1]? = some o2 ∧ New w ((w.alloc o1).alloc o2) := by
  have hs1 : (w.alloc o1).heap.size = w.heap.size + 1 := by simp
  have hn2 := (New.refl (w.alloc o1)).alloc o2
  have hb1 := World.alloc_heap_new w o1
  have hb2 := World.alloc_heap_new (w.alloc o1) o2
  rw [hs1] at hb2
  exact ⟨(hn2.block _ (by rw [hs1]; omega)).trans hb1, hb2, ((New.refl w).alloc _).alloc _⟩
set_option maxHeartbeats 2000000 in
theorem source_of (k : BitVec 64 × BitVec 64) (kind : Int) (x q0 q1 q2 q3 er : Int) (HG : ∀ w, Calls Tryz.prog 10 #[.int .i64 kind, .int .u64 (W64 (k.2 ^^^ k.1))] w fun e w' => e = .returned (.tuple #[.agg #[.int .i64 x, .int .u64 q0, .int .u64 q1, .int .u64 q2, .int .u64 q3], .int .i64 er]) ∧ New w w') (w : World) :
    Calls Tryz.prog 5 #[.agg #[.int .u64 (W64 k.1), .int .u64 (W64 k.2)], .int .i64 kind] w fun e w' => e = .returned (.tuple #[.agg #[.int .i64 x, .int .u64 q0, .int .u64 q1, .int .u64 q2, .int .u64 q3], .int .i64 er]) ∧ New w w' := by
  have HH := Lib.hid HG
  clear HG
  obtain ⟨h1, h2, h3⟩ := two_new w (.cells #[.int .u64 (W64 k.1), .int .u64 (W64 k.2)] 24) (.cells zst 28)
  have c0 := cell_of_row _ _ 0 _ _ _ h1
  have c1 := cell_of_row _ _ 1 _ _ _ h1
  go_enter Tryz.func5, Tryz.ntmps5
  go_wp2_with fail
  generalize ((w.alloc (.cells #[.int .u64 (W64 k.1), .int .u64 (W64 k.2)] 24)).alloc (.cells zst 28)) = w1 at *
  refine (HH.out _).mono ?_
  rintro e w2 ⟨rfl, hn⟩
  have hy := (hn.block _ (lt_of_block h2)).trans h2
  have d0 := cell_of_row _ _ 0 _ _ _ hy
  have d1 := cell_of_row _ _ 1 _ _ _ hy
  have d2 := cell_of_row _ _ 2 _ _ _ hy
  have d3 := cell_of_row _ _ 3 _ _ _ hy
  have d4 := cell_of_row _ _ 4 _ _ _ hy
  have df := fun i => frozen_of_row _ _ i _ _ hy
  have HN := Lib.hid (h3.trans hn)
  have HY := Lib.hid hy
  clear hy hn h1 h2 h3 c0 c1
  go_wp2_with fail
  have hp := put5_facts (.int .i64 x) (.int .u64 q0) (.int .u64 q1) (.int .u64 q2) (.int .u64 q3) HY.out
  refine bodyPost_ret (by simp [results, Tryz.results5, go_sem, d0, d1, d2, d3, d4]; try rfl) rfl ?_
  exact ⟨rfl, hp.2.2.1 _ HN.out (by omega)⟩
set_option maxHeartbeats 2000000 in
theorem rsource_of (k : BitVec 64 × BitVec 64) (kind : Int) (x q0 q1 q2 q3 : Int) (HG : ∀ w, Calls Tryz.prog 11 #[.int .i64 kind, .int .u64 (W64 (k.2 ^^^ k.1))] w fun e w' => e = .returned (.agg #[.int .i64 x, .int .u64 q0, .int .u64 q1, .int .u64 q2, .int .u64 q3]) ∧ New w w') (w : World) :
    Calls Tryz.prog 7 #[.agg #[.int .u64 (W64 k.1), .int .u64 (W64 k.2)], .int .i64 kind] w fun e w' => e = .returned (.agg #[.int .i64 x, .int .u64 q0, .int .u64 q1, .int .u64 q2, .int .u64 q3]) ∧ New w w' := by
  have HH := Lib.hid HG
  clear HG
  obtain ⟨h1, h2, h3⟩ := two_new w (.cells #[.int .u64 (W64 k.1), .int .u64 (W64 k.2)] 24) (.cells zst 28)
  have c0 := cell_of_row _ _ 0 _ _ _ h1
  have c1 := cell_of_row _ _ 1 _ _ _ h1
  go_enter Tryz.func7, Tryz.ntmps7
  go_wp2_with fail
  generalize ((w.alloc (.cells #[.int .u64 (W64 k.1), .int .u64 (W64 k.2)] 24)).alloc (.cells zst 28)) = w1 at *
  refine (HH.out _).mono ?_
  rintro e w2 ⟨rfl, hn⟩
  have hy := (hn.block _ (lt_of_block h2)).trans h2
  have d0 := cell_of_row _ _ 0 _ _ _ hy
  have d1 := cell_of_row _ _ 1 _ _ _ hy
  have d2 := cell_of_row _ _ 2 _ _ _ hy
  have d3 := cell_of_row _ _ 3 _ _ _ hy
  have d4 := cell_of_row _ _ 4 _ _ _ hy
  have df := fun i => frozen_of_row _ _ i _ _ hy
  have HN := Lib.hid (h3.trans hn)
  have HY := Lib.hid hy
  clear hy hn h1 h2 h3 c0 c1
  go_wp2_with fail
  have hp := put5_facts (.int .i64 x) (.int .u64 q0) (.int .u64 q1) (.int .u64 q2) (.int .u64 q3) HY.out
  refine bodyPost_ret (by simp [results, Tryz.results7, go_sem, d0, d1, d2, d3, d4]; try rfl) rfl ?_
  exact ⟨rfl, hp.2.2.1 _ HN.out (by omega)⟩
set_option maxHeartbeats 4000000 in
theorem sources_45 (k : BitVec 64 × BitVec 64) (a0 : Int) (w : World) (hx : MaxL w) :
    Calls Tryz.prog 3 #[.agg #[.int .u64 (W64 k.1), .int .u64 (W64 k.2)], .int .i64 a0] w fun e w' => e = .returned (.bool true) ∧ New w w' := by
  have HAW := Lib.hid (fun (w' : World) (hn : New w w') => awake_q w' (hx.stay hn))
  clear hx
  have hb1 := heap_alloc_new w (.cells #[.int .u64 (W64 k.1), .int .u64 (W64 k.2)] 24)
  have hn1 := (New.refl w).alloc (.cells #[.int .u64 (W64 k.1), .int .u64 (W64 k.2)] 24)
  rcases hk : okK a0 with _ | _
  · have hz := szK_none hk
    have hq := eqSt_zero
    have HNO := Lib.hid (fun w => source_of k a0 0 0 0 0 0 6 (fun w => new_no a0 _ hk w) w)
    have HSZ := Lib.hid (fun w => rsize_any a0 w)
    rw [hz] at HSZ
    clear hz
    go_enter Tryz.func3, Tryz.ntmps3
    go_wp2_with fail
    obtain ⟨b1, hb1e⟩ : ∃ b, w.heap.size = b := ⟨_, rfl⟩
    rw [hb1e] at hb1
    rw [hb1e]
    generalize w.alloc (.cells #[.int .u64 (W64 k.1), .int .u64 (W64 k.2)] 24) = w0 at *
    refine (HAW.out _ hn1).mono ?_
    rintro e w1 ⟨rfl, n1⟩
    have kb := (n1.block _ (lt_of_block hb1)).trans hb1
    have k0 := cell_of_row _ _ 0 _ _ _ kb
    have k1 := cell_of_row _ _ 1 _ _ _ kb
    replace n1 := hn1.trans n1
    clear hn1 hb1 kb HAW hb1e
    go_wp2_with fail
    refine (HNO.out _).mono ?_
    rintro e w2 ⟨rfl, n2⟩
    have hb := heap_alloc_new w2 (.cells zst 28)
    have N2 := (n1.trans n2).alloc (.cells zst 28)
    have HB := Lib.hid hb
    have HN2 := Lib.hid N2
    clear hb N2
    go_wp2_with fail
    refine (HSZ.out _).mono ?_
    rintro e w3 ⟨rfl, n3⟩
    have hb := (n3.block _ (lt_of_block HB.out)).trans HB.out
    have d0 := cell_of_row _ _ 0 _ _ _ hb
    have d1 := cell_of_row _ _ 1 _ _ _ hb
    have d2 := cell_of_row _ _ 2 _ _ _ hb
    have d3 := cell_of_row _ _ 3 _ _ _ hb
    have d4 := cell_of_row _ _ 4 _ _ _ hb
    have HN := Lib.hid (HN2.out.trans n3)
    clear hb n1 n2 n3 HB HN2 HNO HSZ
    go_wp2
    go_ret
    exact ⟨rfl, HN.out⟩
  · have hz : (szK a0 == 0) = false := by
      rw [beq_eq_false_iff_ne]
      exact szK_pos (by unfold okK at hk; simpa using hk)
    obtain ⟨sz, hsz⟩ : ∃ z, szK a0 = z := ⟨_, rfl⟩
    have HNO := Lib.hid (fun w => source_of k a0 _ _ _ _ _ 0 (fun w => new_of a0 (k.2 ^^^ k.1) (sdW a0 (k.2 ^^^ k.1)) hk (sd_all a0 hk _) w) w)
    have HSZ := Lib.hid (fun w => rsize_any a0 w)
    have HRN := Lib.hid (fun w => rsource_of k a0 _ _ _ _ _ (fun w => rnew_any a0 hk (k.2 ^^^ k.1) w) w)
    have HRC := Lib.hid (fun w => rcheck_any a0 (sdW a0 (k.2 ^^^ k.1)) w)
    rw [chk_sd a0 hk (k.2 ^^^ k.1)] at HRC
    obtain ⟨q, hq⟩ : ∃ q, sdW a0 (k.2 ^^^ k.1) = q := ⟨_, rfl⟩
    rw [hq] at HNO HRN HRC
    rw [hsz] at HSZ hz
    have hq := fun w => eqSt_self w a0 q
    clear hsz
    go_enter Tryz.func3, Tryz.ntmps3
    go_wp2_with fail
    obtain ⟨b1, hb1e⟩ : ∃ b, w.heap.size = b := ⟨_, rfl⟩
    rw [hb1e] at hb1
    rw [hb1e]
    generalize w.alloc (.cells #[.int .u64 (W64 k.1), .int .u64 (W64 k.2)] 24) = w0 at *
    refine (HAW.out _ hn1).mono ?_
    rintro e w1 ⟨rfl, n1⟩
    have kb := (n1.block _ (lt_of_block hb1)).trans hb1
    have k0 := cell_of_row _ _ 0 _ _ _ kb
    have k1 := cell_of_row _ _ 1 _ _ _ kb
    replace n1 := hn1.trans n1
    clear hn1 hb1 HAW hb1e
    go_wp2_with fail
    refine (HNO.out _).mono ?_
    rintro e w2 ⟨rfl, n2⟩
    have hb := heap_alloc_new w2 (.cells (stc a0 q) 28)
    have N2 := (n1.trans n2).alloc (.cells (stc a0 q) 28)
    have hm := n2.alloc (.cells (stc a0 q) 28)
    have KB := Lib.hid ((hm.block _ (lt_of_block kb)).trans kb)
    have HB := Lib.hid hb
    have HN2 := Lib.hid N2
    clear hb N2 kb k0 k1 hm
    go_wp2_with fail
    refine (HSZ.out _).mono ?_
    rintro e w ⟨rfl, n3⟩
    have hb := (n3.block _ (lt_of_block HB.out)).trans HB.out
    have kb := (n3.block _ (lt_of_block KB.out)).trans KB.out
    have HN := Lib.hid (HN2.out.trans n3)
    obtain ⟨b, hbb⟩ : ∃ b, w2.heap.size = b := ⟨_, rfl⟩
    rw [hbb] at hb
    go_wp2_with fail
    clear n1 n2 n3 HB HN2 HNO HSZ KB
    try rw [hbb]
    clear hbb
    refine wp_region_class (fun w' => (w'.heap[b]? = some (.cells (stc a0 q) 28 (0, 0))) ∧ (w'.heap[b1]? = some (.cells #[.int .u64 (W64 k.1), .int .u64 (W64 k.2)] 24 (0, 0))) ∧ New _ w') (by kernel_rfl) (by kernel_rfl) ⟨hb, kb, HN.out.drew⟩ ?_
    intro I _ f hall hback
    have HSTEP : Hid (∀ n w', New (f n) w' → ∃ m, w' = f m) := Lib.hid fun n w' hn => hback w' ⟨(hn.block _ (lt_of_block (hall n).1)).trans (hall n).1, (hn.block _ (lt_of_block (hall n).2.1)).trans (hall n).2.1, (hall n).2.2.trans hn⟩
    have HALL := Lib.hid fun n => (hall n).2.2
    have s0 := fun n => cell_of_row _ _ 0 _ _ _ ((hall n).1)
    have s1 := fun n => cell_of_row _ _ 1 _ _ _ ((hall n).1)
    have s2 := fun n => cell_of_row _ _ 2 _ _ _ ((hall n).1)
    have s3 := fun n => cell_of_row _ _ 3 _ _ _ ((hall n).1)
    have s4 := fun n => cell_of_row _ _ 4 _ _ _ ((hall n).1)
    have k0 := fun n => cell_of_row _ _ 0 _ _ _ ((hall n).2.1)
    have k1 := fun n => cell_of_row _ _ 1 _ _ _ ((hall n).2.1)
    clear hall hback hb kb
    repeat (go_big_quiet_step (first
      | (go_at_call 7; refine class_new HSTEP.out (HRN.out _))
      | (go_at_call 8; refine class_new HSTEP.out (HRC.out _))))
    refine wpQuiet_nil ?_
    rintro w9 ⟨n1, hw1⟩
    have hS := HALL.out n1
    rw [← hw1] at hS
    have HN := Lib.hid hS
    clear HALL HSTEP hw1 hS s0 s1 s2 s3 s4 k0 k1
    go_wp2
    go_ret
    exact ⟨rfl, HN.out⟩
theorem maxl_of (W : World) (h : W.ShapedOpen Tryz.prog) : MaxL W := Tryz.laysM145.s1_3 W h
theorem DeriveSources_walk (W : World) (x0_0 : BitVec 64) (x0_1 : BitVec 64) (a1 : Int) (w1 : (Lit.int .i64 a1).wf = true) (hm : MaxL W) :
    Calls Tryz.prog 3 #[.agg #[.int .u64 (W64 x0_0), .int .u64 (W64 x0_1)], .int .i64 a1] W fun e w' => e = .returned (.bool true) ∧ Below W.heap.size W w' := sources_45 (x0_0, x0_1) a1 W hm
end Go.Proofs.YtoplabhoedloeaaGreat
