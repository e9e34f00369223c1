/- The statement GensSeeds: for every kind and every number. -/
import Derived.Test.YtfaobdmoifnglaaGreatGsP
namespace Go.Proofs.YtfaobdmoifnglaaGreat
open Go.RowKit Go.Bv
set_option linter.unusedVariables false
set_option maxRecDepth 100000
set_option maxHeartbeats 1000000 in
theorem new_no (k : Int) (n : BitVec 64) (hk : okK k = false) (w : World) : Calls Tryz.prog 16 #[.int .i64 k, .int .u64 (W64 n)] w fun e w' => e = .returned (.tuple #[.agg zst, .int .i64 6]) ∧ New w w' := by
  have hz := heap_alloc_new w (.cells zst 25)
  have HZ := Lib.hid hz
  clear hz
  go_enter Tryz.func16, Tryz.ntmps16
  go_wp2_with fail
  refine (gen_of k _).mono ?_
  rintro e w' ⟨⟨cs, rfl, hv⟩, hn⟩
  obtain rfl : cs = gzc := by
    rcases hv with h | h
    · rw [hk] at h; exact absurd h.1 (by simp)
    · exact h.2
  rw [hk]
  clear hv
  have n2 := hn.alloc (.cells gzc 62)
  have hy := (n2.block _ (lt_of_block HZ.out)).trans HZ.out
  have d0 := cell_of_row _ _ 0 _ _ _ hy
  have d1 := cell_of_row _ _ 1 _ _ _ hy
  have d2 := cell_of_row _ _ 2 _ _ _ hy
  have d3 := cell_of_row _ _ 3 _ _ _ hy
  have d4 := cell_of_row _ _ 4 _ _ _ hy
  have df := fun i => frozen_of_row _ _ i _ _ hy
  have HN := Lib.hid (((New.refl w).alloc (.cells zst 25)).trans n2)
  have HY := Lib.hid hy
  clear hy n2 hn
  go_wp2_with fail
  have hp := put5_facts (.int .i64 0) (.int .u64 0) (.int .u64 0) (.int .u64 0) (.int .u64 0) HY.out
  refine bodyPost_ret (by simp [results, Tryz.results16, go_sem, d0, d1, d2, d3, d4]; try rfl) rfl ?_
  exact ⟨rfl, hp.2.2.1 _ HN.out (by omega)⟩
theorem szK_none {k : Int} (h : okK k = false) : szK k = 0 := by
  unfold okK at h; simp at h
  unfold szK
  rw [if_neg (by omega), if_neg (by omega), if_neg (by omega)]
set_option maxHeartbeats 2000000 in
theorem GensSeeds_walk (W : World) (a0 : Int) (w0 : (Lit.int .i64 a0).wf = true) (a1 : Int) (w1 : (Lit.int .u64 a1).wf = true) :
    Calls Tryz.prog 4 #[.int .i64 a0, .int .u64 a1] W fun e w' => e = .returned (.bool true) ∧ Below W.heap.size W w' := by
  obtain ⟨n, rfl⟩ := wf64 w1
  clear w0 w1
  rcases hk : okK a0 with _ | _
  · have hz := szK_none hk
    have hq := eqSt_zero
    have HNO := Lib.hid (fun w => new_no a0 n hk w)
    have HSZ := Lib.hid (fun w => rsize_any a0 w)
    rw [hz] at HSZ
    clear hz
    go_enter Tryz.func4, Tryz.ntmps4
    go_wp2_with fail
    refine (awake15 _).mono ?_
    rintro e w1 ⟨rfl, n1⟩
    go_wp2_with fail
    refine (HNO.out _).mono ?_
    rintro e w2 ⟨rfl, n2⟩
    have hb := heap_alloc_new w2 (.cells zst 25)
    have N2 := (n1.trans n2).alloc (.cells zst 25)
    have HB := Lib.hid hb
    have HN2 := Lib.hid N2
    clear hb N2
    go_wp2_with fail
    refine (HSZ.out _).mono ?_
    rintro e w3 ⟨rfl, n3⟩
    have hb := (n3.block _ (lt_of_block HB.out)).trans HB.out
    have d0 := cell_of_row _ _ 0 _ _ _ hb
    have d1 := cell_of_row _ _ 1 _ _ _ hb
    have d2 := cell_of_row _ _ 2 _ _ _ hb
    have d3 := cell_of_row _ _ 3 _ _ _ hb
    have d4 := cell_of_row _ _ 4 _ _ _ hb
    have HN := Lib.hid (HN2.out.trans n3)
    clear hb n1 n2 n3 HB HN2 HNO HSZ
    go_wp2
    go_ret
    exact ⟨rfl, HN.out⟩
  · have hz : (szK a0 == 0) = false := by
      rw [beq_eq_false_iff_ne]
      exact szK_pos (by unfold okK at hk; simpa using hk)
    obtain ⟨sz, hsz⟩ : ∃ z, szK a0 = z := ⟨_, rfl⟩
    have HNO := Lib.hid (fun w => new_of a0 n (sdW a0 n) hk (sd_all a0 hk n) w)
    have HSZ := Lib.hid (fun w => rsize_any a0 w)
    have HRN := Lib.hid (fun w => rnew_any a0 hk n w)
    have HRC := Lib.hid (fun w => rcheck_any a0 (sdW a0 n) w)
    rw [chk_sd a0 hk n] at HRC
    obtain ⟨q, hq⟩ : ∃ q, sdW a0 n = q := ⟨_, rfl⟩
    rw [hq] at HNO HRN HRC
    rw [hsz] at HSZ hz
    have hq := fun w => eqSt_self w a0 q
    clear hsz
    go_enter Tryz.func4, Tryz.ntmps4
    go_wp2_with fail
    refine (awake15 _).mono ?_
    rintro e w1 ⟨rfl, n1⟩
    go_wp2_with fail
    refine (HNO.out _).mono ?_
    rintro e w2 ⟨rfl, n2⟩
    have hb := heap_alloc_new w2 (.cells (stc a0 q) 25)
    have N2 := (n1.trans n2).alloc (.cells (stc a0 q) 25)
    have HB := Lib.hid hb
    have HN2 := Lib.hid N2
    clear hb N2
    go_wp2_with fail
    refine (HSZ.out _).mono ?_
    rintro e w ⟨rfl, n3⟩
    have hb := (n3.block _ (lt_of_block HB.out)).trans HB.out
    have HN := Lib.hid (HN2.out.trans n3)
    obtain ⟨b, hbb⟩ : ∃ b, w2.heap.size = b := ⟨_, rfl⟩
    rw [hbb] at hb
    go_wp2_with fail
    clear n1 n2 n3 HB HN2 HNO HSZ hbb
    refine wp_region_class (fun w' => (w'.heap[b]? = some (.cells (stc a0 q) 25 (0, 0))) ∧ New W w') (by kernel_rfl) (by kernel_rfl) ⟨hb, HN.out.drew⟩ ?_
    intro I _ f hall hback
    have HSTEP : Hid (∀ n w', New (f n) w' → ∃ m, w' = f m) := Lib.hid fun n w' hn => hback w' ⟨(hn.block _ (lt_of_block (hall n).1)).trans (hall n).1, (hall n).2.trans hn⟩
    have HALL := Lib.hid fun n => (hall n).2
    have s0 := fun n => cell_of_row _ _ 0 _ _ _ ((hall n).1)
    have s1 := fun n => cell_of_row _ _ 1 _ _ _ ((hall n).1)
    have s2 := fun n => cell_of_row _ _ 2 _ _ _ ((hall n).1)
    have s3 := fun n => cell_of_row _ _ 3 _ _ _ ((hall n).1)
    have s4 := fun n => cell_of_row _ _ 4 _ _ _ ((hall n).1)
    clear hall hback hb
    repeat (go_big_quiet_step (first
      | (go_at_call 17; refine class_new HSTEP.out (HRN.out _))
      | (go_at_call 9; refine class_new HSTEP.out (HRC.out _))))
    refine wpQuiet_nil ?_
    rintro w9 ⟨n1, hw1⟩
    have hS := HALL.out n1
    rw [← hw1] at hS
    have HN := Lib.hid hS
    clear HALL HSTEP hw1 hS s0 s1 s2 s3 s4
    go_wp2
    go_ret
    exact ⟨rfl, HN.out⟩
end Go.Proofs.YtfaobdmoifnglaaGreat
