/- Layer 34: the methods of a hash. -/
import Derived.Test.YtbikekjcbfhoaaaM34D
import Derived.Test.YtbikekjcbfhoaaaM34F
import Derived.Test.YtbikekjcbfhoaaaB34F
import Derived.Defers
import Derived.Recover
import Derived.Laws.Pointers
import Derived.Handy
import Derived.Laws.EntriesVeiled
namespace Go.Proofs.Ytbikekjcbfhoaaa
open Go.RowKit Go.Bv
set_option linter.unusedVariables false
theorem put_2h {w : World} {q : Nat} {u0 u1 : Value} {T : TypeId} (v0 v1 : Value) (h : w.heap[q]? = some (.cells #[u0, u1] T (0, 0))) :
    ((w.setCell ⟨q, 0, none⟩ v0).setCell ⟨q, 1, none⟩ v1).heap[q]? = some (.cells #[v0, v1] T (0, 0)) ∧ (∀ k, k ≠ q → ((w.setCell ⟨q, 0, none⟩ v0).setCell ⟨q, 1, none⟩ v1).heap[k]? = w.heap[k]?) ∧ (∀ W : World, New W w → W.heap.size ≤ q → New W ((w.setCell ⟨q, 0, none⟩ v0).setCell ⟨q, 1, none⟩ v1)) := by
  have h1 := heap_setCell_same w q 0 _ _ v0 h
  have h2 := heap_setCell_same (w.setCell ⟨q, 0, none⟩ v0) q 1 _ _ v1 h1
  refine ⟨h2, fun k hk => ?_, fun W hn hq => (hn.setCell (p := ⟨q, 0, none⟩) hq v0).setCell (p := ⟨q, 1, none⟩) hq v1⟩
  rw [heap_setCell_other _ _ _ _ (by show k ≠ q; exact hk), heap_setCell_other _ _ _ _ (by show k ≠ q; exact hk)]
theorem content_n_34 (sd : Sd34) (w : World) : Calls Try.prog 30 #[.pointer none] w fun e w' => e = .returned (.pointer none) ∧ w' = w := by
  go_enter Try.func30, Try.ntmps30
  go_wp2
  go_ret
  exact ⟨rfl, rfl⟩
theorem content_34 (sd : Sd34) (p h : Nat) (w : World) (hx : w.heap[h]? = some (.cells #[.int .i64 (sd.kd.1 : Nat), .int .i64 (sd.kd.2.1 : Nat), .bool sd.kd.2.2, .pointer (some ⟨p, 0, none⟩)] 64 (0, 0))) : Calls Try.prog 30 #[.pointer (some ⟨h, 0, none⟩)] w fun e w' => e = .returned (.pointer (some ⟨p, 0, none⟩)) ∧ w' = w := by
  have k3 := cell_of_row _ _ 3 _ _ _ hx
  go_enter Try.func30, Try.ntmps30
  go_wp2
  go_ret
  exact ⟨rfl, rfl⟩
theorem hwrite_n_34 (sd : Sd34) (v : Value) (w : World) : Calls Try.prog 14 #[.pointer none, v] w fun e w' => e = .returned (.tuple #[]) ∧ w' = w := by
  go_enter Try.func14, Try.ntmps14
  go_wp2_with fail
  refine (content_n_34 sd _).mono ?_
  rintro e w' ⟨rfl, rfl⟩
  go_wp2_with fail
  refine (write_n_34 sd.kd _ _).mono ?_
  rintro e w' ⟨rfl, rfl⟩
  go_wp2_with fail
  first | go_end0 | refine bodyPost_ret (results_none rfl _ _ _) rfl ?_
  exact ⟨rfl, rfl⟩
theorem hwrite_34 (sd : Sd34) (p h : Nat) (fs st : BitVec 64 × BitVec 64 × BitVec 64 × BitVec 64) (tl : List (BitVec 8)) (long : BitVec 64) (b : Option Addr) (lb cb : Nat) (m : List (BitVec 8)) (w : World) (hx : w.heap[h]? = some (.cells #[.int .i64 (sd.kd.1 : Nat), .int .i64 (sd.kd.2.1 : Nat), .bool sd.kd.2.2, .pointer (some ⟨p, 0, none⟩)] 64 (0, 0))) (hs : Strm_34 sd.kd w p 8 fs st tl long) (hm : BRow w b lb cb m) (hsum : tl.length + lb ≤ 140737488355328) :
    Calls Try.prog 14 #[.pointer (some ⟨h, 0, none⟩), .slice b lb cb] w fun e w' => e = .returned (.tuple #[]) ∧ Strm_34 sd.kd w' p 8 fs (bState 8 (stp34 sd.kd) st (tl ++ m)) (bTail 8 (tl ++ m)) (long + BitVec.ofNat 64 lb) ∧ But p w w' := by
  have HC := Lib.hid (content_34 sd p h w hx)
  have HW := Lib.hid (write_34 sd.kd sd.h1 p fs st tl long b lb cb m w hs hm hsum)
  clear hx hs hm hsum
  generalize bState 8 (stp34 sd.kd) st (tl ++ m) = st2 at *
  generalize bTail 8 (tl ++ m) = tl2 at *
  go_enter Try.func14, Try.ntmps14
  go_wp2_with fail
  refine HC.out.mono ?_
  rintro e w' ⟨rfl, rfl⟩
  go_wp2_with fail
  refine HW.out.mono ?_
  rintro e w' ⟨rfl, hs, hb⟩
  have HS := Lib.hid hs
  have HBU := Lib.hid hb
  clear hs hb
  go_wp2_with fail
  first | go_end0 | refine bodyPost_ret (results_none rfl _ _ _) rfl ?_
  exact ⟨rfl, HS.out, HBU.out⟩
theorem hreset_n_34 (sd : Sd34) (w : World) : Calls Try.prog 15 #[.pointer none] w fun e w' => e = .returned (.tuple #[]) ∧ w' = w := by
  go_enter Try.func15, Try.ntmps15
  go_wp2_with fail
  refine (content_n_34 sd _).mono ?_
  rintro e w' ⟨rfl, rfl⟩
  go_wp2_with fail
  refine (reset_n_34 sd.kd _).mono ?_
  rintro e w' ⟨rfl, rfl⟩
  go_wp2_with fail
  first | go_end0 | refine bodyPost_ret (results_none rfl _ _ _) rfl ?_
  exact ⟨rfl, rfl⟩
theorem hreset_34 (sd : Sd34) (p h : Nat) (fs st : BitVec 64 × BitVec 64 × BitVec 64 × BitVec 64) (tl : List (BitVec 8)) (long : BitVec 64) (w : World) (hx : w.heap[h]? = some (.cells #[.int .i64 (sd.kd.1 : Nat), .int .i64 (sd.kd.2.1 : Nat), .bool sd.kd.2.2, .pointer (some ⟨p, 0, none⟩)] 64 (0, 0))) (hs : Strm_34 sd.kd w p 8 fs st tl long) :
    Calls Try.prog 15 #[.pointer (some ⟨h, 0, none⟩)] w fun e w' => e = .returned (.tuple #[]) ∧ Strm_34 sd.kd w' p 8 fs fs [] 0#64 ∧ But p w w' := by
  have HC := Lib.hid (content_34 sd p h w hx)
  have HW := Lib.hid (reset_34 sd.kd p fs st tl long w hs)
  clear hx hs
  go_enter Try.func15, Try.ntmps15
  go_wp2_with fail
  refine HC.out.mono ?_
  rintro e w' ⟨rfl, rfl⟩
  go_wp2_with fail
  refine HW.out.mono ?_
  rintro e w' ⟨rfl, hs, hb⟩
  have HS := Lib.hid hs
  have HBU := Lib.hid hb
  clear hs hb
  go_wp2_with fail
  first | go_end0 | refine bodyPost_ret (results_none rfl _ _ _) rfl ?_
  exact ⟨rfl, HS.out, HBU.out⟩
theorem hclone_n_34 (sd : Sd34) (w : World) : Calls Try.prog 20 #[.pointer none] w fun e w' => e = .returned (.pointer none) ∧ w' = w := by
  go_enter Try.func20, Try.ntmps20
  go_wp2_with fail
  refine (content_n_34 sd _).mono ?_
  rintro e w' ⟨rfl, rfl⟩
  go_wp2
  go_ret
  exact ⟨rfl, rfl⟩
set_option maxHeartbeats 1000000 in
theorem hsum_n_34 (sd : Sd34) (w : World) : Calls Try.prog 12 #[.pointer none] w fun e w' => e = .returned (.agg #[.int .u64 0, .int .u64 0]) ∧ New w w' := by
  have HO := Lib.hid (heap_alloc_new w (.cells #[.int .u64 0, .int .u64 0] 24))
  have HN := Lib.hid ((New.refl w).alloc (.cells #[.int .u64 0, .int .u64 0] 24))
  go_enter Try.func12, Try.ntmps12
  go_wp2_with fail
  refine (content_n_34 sd _).mono ?_
  rintro e w9 ⟨rfl, rfl⟩
  have z0 := cell_of_row _ _ 0 _ _ _ HO.out
  have z1 := cell_of_row _ _ 1 _ _ _ HO.out
  have zf := fun i => frozen_of_row _ _ i _ _ HO.out
  go_wp2
  refine bodyPost_ret (by simp [results, Try.results12, go_sem, z0, z1]; try rfl) rfl ?_
  first | exact ⟨rfl, HN.out⟩ | exact ⟨rfl, (HN.out.setCell (by show w.heap.size ≤ w.heap.size; omega) _).setCell (by show w.heap.size ≤ w.heap.size; omega) _⟩
set_option maxRecDepth 100000 in
set_option maxHeartbeats 4000000 in
theorem hsum_34 (sd : Sd34) (p h : Nat) (fs st : BitVec 64 × BitVec 64 × BitVec 64 × BitVec 64) (tl : List (BitVec 8)) (long : BitVec 64) (w : World) (hx : w.heap[h]? = some (.cells #[.int .i64 (sd.kd.1 : Nat), .int .i64 (sd.kd.2.1 : Nat), .bool sd.kd.2.2, .pointer (some ⟨p, 0, none⟩)] 64 (0, 0))) (hs : Strm_34 sd.kd w p 8 fs st tl long) :
    Calls Try.prog 12 #[.pointer (some ⟨h, 0, none⟩)] w fun e w' => e = .returned (.agg #[.int .u64 (W64 (end34 sd.kd st tl long).2), .int .u64 (W64 (end34 sd.kd st tl long).1)]) ∧ New w w' := by
  have HC := Lib.hid (fun w' (hn : New w w') => content_34 sd p h w' ((hn.block _ (lt_of_block hx)).trans hx))
  have HS1 := Lib.hid (fun w' (hn : New w w') => state_34 sd.kd p 8 fs st tl long w' (by omega) (hs.stay hn))
  have HS2 := Lib.hid (fun w' (hn : New w w') => tail_34 sd.kd p 8 fs st tl long w' (by omega) (hs.stay hn))
  have HS3 := Lib.hid (fun w' (hn : New w w') => long_34 sd.kd p 8 fs st tl long w' (by omega) (hs.stay hn))
  have HEN := Lib.hid (fun (w' : World) a' c' (hr : BRow w' a' tl.length c' tl) => finish_34s sd.kd sd.h1 sd.h2 st a' tl.length c' tl long w' hr)
  obtain ⟨hh, hhe⟩ : ∃ z, end34 sd.kd st tl long = z := ⟨_, rfl⟩
  rw [hhe] at HEN
  rw [hhe]
  have HO := Lib.hid (heap_alloc_new w (.cells #[.int .u64 0, .int .u64 0] 24))
  have HN := Lib.hid ((New.refl w).alloc (.cells #[.int .u64 0, .int .u64 0] 24))
  have HXH := Lib.hid ((HN.out.block _ (lt_of_block hx)).trans hx)
  have HLT := Lib.hid (lt_of_block hx)
  clear hhe hx hs
  go_enter Try.func12, Try.ntmps12
  go_wp2_with fail
  refine (HC.out _ HN.out).mono ?_
  rintro e w9 ⟨rfl, rfl⟩
  go_wp2_with fail
  refine Gro3.wp_region_gro3S (fun w' => (∃ u0 u1 : Value, w'.heap[w.heap.size]? = some (.cells #[u0, u1] 24 (0, 0))) ∧ New w w') (fun w' => w'.heap[w.heap.size]? = some (.cells #[.int .u64 0, .int .u64 0] 24 (0, 0)) ∧ w'.heap[h]? = some (.cells #[.int .i64 (sd.kd.1 : Nat), .int .i64 (sd.kd.2.1 : Nat), .bool sd.kd.2.2, .pointer (some ⟨p, 0, none⟩)] 64 (0, 0)) ∧ New w w') [0,0,0,1,0,2,0,2,0,2,2,3] New (fun _ _ _ => True) (by kernel_rfl) (by kernel_rfl) (by kernel_rfl) (fun _ _ _ _ _ _ => trivial) (fun w' hw' => ⟨⟨_, _, hw'.1⟩, hw'.2.2⟩) (⟨HO.out, HXH.out, HN.out.drew⟩) ?_
  intro I J _ _ f g hfa hba hgb hbb
  have HFA := Lib.hid hfa
  have HBA := Lib.hid hba
  have HGB := Lib.hid hgb
  have HBB := Lib.hid hbb
  have fv0 := fun n => cell_of_row _ _ 0 _ _ _ (hgb n).2.1
  have fv1 := fun n => cell_of_row _ _ 1 _ _ _ (hgb n).2.1
  have fv2 := fun n => cell_of_row _ _ 2 _ _ _ (hgb n).2.1
  clear hfa hba hgb hbb
  refine Gro3.take0 1 (by kernel_rfl) ?_
  simp only [List.take, List.drop, List.length]
  repeat (go_big_quiet_step (fail))
  refine wpQuiet_nil ?_
  refine Gro3.check (.tmp 9) (⟨h, 0, none⟩) rfl rfl rfl rfl (fun A1 hA => ?_)
  simp [Act.put] at hA
  subst hA
  refine Gro3.take0 1 (by kernel_rfl) ?_
  simp only [List.take, List.drop, List.length]
  repeat (go_big_quiet_step (fail))
  refine wpQuiet_nil ?_
  refine Gro3.take1 1 (by kernel_rfl) ?_
  simp only [List.take, List.drop, List.length]
  repeat (go_big_quiet_step (fail))
  refine wpQuiet_nil ?_
  refine Gro3.take0 1 (by kernel_rfl) ?_
  simp only [List.take, List.drop, List.length]
  repeat (go_big_quiet_step (fail))
  refine wpQuiet_nil ?_
  refine Gro3.callt (fun v => v = .agg #[.int .u64 (W64 (st.1)), .int .u64 (W64 (st.2.1)), .int .u64 (W64 (st.2.2.1)), .int .u64 (W64 (st.2.2.2))]) (fun _ _ => True) rfl rfl (⟨_, rfl⟩) (fun _ _ _ _ _ => trivial) (fun w1 hB hG => ?_) (fun v2 A2 hv2 hA => ?_)
  · obtain ⟨nq, rfl⟩ := hB
    clear fv0 fv1 fv2
    go_simp
    refine (HS1.out _ (HGB.out nq).2.2).mono ?_
    rintro e w2 ⟨rfl, hn⟩
    have HX := HBB.out _ ⟨(hn.block _ (lt_of_block (HGB.out nq).1)).trans (HGB.out nq).1, (hn.block _ (lt_of_block (HGB.out nq).2.1)).trans (HGB.out nq).2.1, (HGB.out nq).2.2.trans hn⟩
    first | exact ⟨_, rfl, HX, hn, rfl⟩ | exact ⟨_, rfl, HX, hn, rfl, trivial⟩ | exact ⟨rfl, HX, hn⟩ | exact ⟨HX, hn, rfl⟩ | exact ⟨HX, hn⟩
  simp [Act.put] at hA
  subst hA
  obtain rfl := hv2
  refine Gro3.take0 1 (by kernel_rfl) ?_
  simp only [List.take, List.drop, List.length]
  repeat (go_big_quiet_step (fail))
  refine wpQuiet_nil ?_
  refine Gro3.callt (fun v => ∃ r c, v = .slice r (tl.length : Nat) c) (fun v w' => ∃ r c, v = .slice r (tl.length : Nat) c ∧ BRow w' r (tl.length) c tl) rfl rfl (⟨_, none, 0, rfl⟩) (fun v w w' hn h => by obtain ⟨r, c, e, hr⟩ := h; exact ⟨r, c, e, hr.stay hn⟩) (fun w1 hB hG => ?_) (fun v3 A3 hv3 hA => ?_)
  · obtain ⟨nq, rfl⟩ := hB
    clear fv0 fv1 fv2
    go_simp
    refine (HS2.out _ (HGB.out nq).2.2).mono ?_
    rintro e w2 ⟨r, c, rfl, hrow, hn⟩
    have HX := HBB.out _ ⟨(hn.block _ (lt_of_block (HGB.out nq).1)).trans (HGB.out nq).1, (hn.block _ (lt_of_block (HGB.out nq).2.1)).trans (HGB.out nq).2.1, (HGB.out nq).2.2.trans hn⟩
    exact ⟨_, rfl, HX, hn, ⟨_, _, rfl⟩, ⟨_, _, rfl, hrow⟩⟩
  simp [Act.put] at hA
  subst hA
  obtain ⟨ra, ca, rfl⟩ := hv3
  refine Gro3.take0 1 (by kernel_rfl) ?_
  simp only [List.take, List.drop, List.length]
  repeat (go_big_quiet_step (fail))
  refine wpQuiet_nil ?_
  refine Gro3.callt (fun v => v = .int .u64 (W64 long)) (fun _ w' => BRow w' ra (tl.length) ca tl) rfl rfl (⟨_, rfl⟩) (fun v w w' hn h => h.stay hn) (fun w1 hB hG => ?_) (fun v4 A4 hv4 hA => ?_)
  · obtain ⟨nq, rfl⟩ := hB
    obtain ⟨r5, c5, e5, hz⟩ := hG
    cases e5
    have HZ := Lib.hid hz
    clear hz fv0 fv1 fv2
    go_simp
    refine (HS3.out _ (HGB.out nq).2.2).mono ?_
    rintro e w2 ⟨rfl, rfl⟩
    first | exact ⟨_, rfl, ⟨nq, rfl⟩, New.refl _, rfl, HZ.out⟩ | exact ⟨⟨nq, rfl⟩, New.refl _, HZ.out⟩
  simp [Act.put] at hA
  subst hA
  obtain rfl := hv4
  refine Gro3.callt (fun v => v = .agg #[.int .u64 (W64 (hh).2), .int .u64 (W64 (hh).1)]) (fun _ _ => True) rfl rfl (⟨_, rfl⟩) (fun _ _ _ _ _ => trivial) (fun w1 hB hG => ?_) (fun v5 A5 hv5 hA => ?_)
  · obtain ⟨nq, rfl⟩ := hB
    have HZ := Lib.hid hG
    clear fv0 fv1 fv2 hG
    go_simp
    refine (HEN.out _ _ _ HZ.out).mono ?_
    rintro e w2 ⟨rfl, hn⟩
    have HX := HBB.out _ ⟨(hn.block _ (lt_of_block (HGB.out nq).1)).trans (HGB.out nq).1, (hn.block _ (lt_of_block (HGB.out nq).2.1)).trans (HGB.out nq).2.1, (HGB.out nq).2.2.trans hn⟩
    first | exact ⟨_, rfl, HX, hn, rfl⟩ | exact ⟨_, rfl, HX, hn, rfl, trivial⟩ | exact ⟨rfl, HX, hn⟩ | exact ⟨HX, hn, rfl⟩ | exact ⟨HX, hn⟩
  simp [Act.put] at hA
  subst hA
  obtain rfl := hv5
  refine Gro3.turn (fun v => v = undef) (fun _ w9 => Lies w9 (w.heap.size) (.cells #[.int .u64 (W64 hh.2), .int .u64 (W64 hh.1)] 24 (0, 0))) rfl rfl ⟨_, rfl⟩ (fun w1 hB hG => ?_) (fun v6 A6 hv6 hA => ?_)
  · obtain ⟨nq, rfl⟩ : ∃ nq, w1 = g nq := hB
    have HX := Lib.hid (HGB.out nq)
    have c0 := cell_of_row _ _ 0 _ _ _ HX.out.1
    have c1 := cell_of_row _ _ 1 _ _ _ HX.out.1
    have cf := fun i => frozen_of_row _ _ i _ _ HX.out.1
    have HP := Lib.hid (put_2h (.int .u64 (W64 hh.2)) (.int .u64 (W64 hh.1)) HX.out.1)
    have HLI := Lib.hid (show Lies _ _ _ from HP.out.1)
    clear fv0 fv1 fv2
    go_simp
    exact ⟨HBA.out _ ⟨⟨_, _, HLI.out⟩, HP.out.2.2 _ HX.out.2.2 (Nat.le_refl _)⟩, HLI.out⟩
  simp [Act.put] at hA
  subst hA
  refine Gro3.nil ?_
  rintro w11 ⟨n9, rfl⟩ hG
  have HRZ := Lib.hid (show (f n9).heap[w.heap.size]? = _ from hG)
  have HNZ := Lib.hid (HFA.out n9).2
  clear HFA HBA HGB HBB hG fv0 fv1 fv2 HO HN HXH HEN HS1 HS2 HS3 HC
  generalize f n9 = w11 at *
  have z0 := cell_of_row _ _ 0 _ _ _ HRZ.out
  have z1 := cell_of_row _ _ 1 _ _ _ HRZ.out
  go_wp2
  refine bodyPost_ret (by simp [results, Try.results12, go_sem, z0, z1]; try rfl) rfl ?_
  exact ⟨rfl, HNZ.out⟩
set_option maxRecDepth 100000 in
set_option maxHeartbeats 4000000 in
theorem hclone_34 (sd : Sd34) (p h : Nat) (fs st : BitVec 64 × BitVec 64 × BitVec 64 × BitVec 64) (tl : List (BitVec 8)) (long : BitVec 64) (w : World) (hx : w.heap[h]? = some (.cells #[.int .i64 (sd.kd.1 : Nat), .int .i64 (sd.kd.2.1 : Nat), .bool sd.kd.2.2, .pointer (some ⟨p, 0, none⟩)] 64 (0, 0))) (hs : Strm_34 sd.kd w p 8 fs st tl long) :
    Calls Try.prog 20 #[.pointer (some ⟨h, 0, none⟩)] w fun e w' => ∃ q g, e = .returned (.pointer (some ⟨g, 0, none⟩)) ∧ w.heap.size ≤ q ∧ q < g ∧ w'.heap[g]? = some (.cells #[.int .i64 (sd.kd.1 : Nat), .int .i64 (sd.kd.2.1 : Nat), .bool sd.kd.2.2, .pointer (some ⟨q, 0, none⟩)] 64 (0, 0)) ∧ Strm_34 sd.kd w' q 8 fs st tl long ∧ New w w' := by
  have HC := Lib.hid (content_34 sd p h w hx)
  have HW := Lib.hid (fun w' (hn : New w w') => sclone_34 sd.kd p fs st tl long w' (hs.stay hn))
  have HXH := Lib.hid hx
  clear hx hs
  go_enter Try.func20, Try.ntmps20
  go_wp2_with fail
  refine HC.out.mono ?_
  rintro e w9 ⟨rfl, hw9⟩
  replace hw9 := hw9.symm
  subst hw9
  go_wp2_with fail
  refine Gro3.wp_region_gro3S (fun w' => w'.heap[h]? = some (.cells #[.int .i64 (sd.kd.1 : Nat), .int .i64 (sd.kd.2.1 : Nat), .bool sd.kd.2.2, .pointer (some ⟨p, 0, none⟩)] 64 (0, 0)) ∧ New w w') (fun w' => w'.heap[h]? = some (.cells #[.int .i64 (sd.kd.1 : Nat), .int .i64 (sd.kd.2.1 : Nat), .bool sd.kd.2.2, .pointer (some ⟨p, 0, none⟩)] 64 (0, 0)) ∧ New w w') [0,0,0,0,0,2,0,2,0] New (fun _ _ _ => True) (by kernel_rfl) (by kernel_rfl) (by kernel_rfl) (fun _ _ _ _ _ _ => trivial) (fun w' hw' => hw') (⟨HXH.out, (New.refl w).drew⟩) ?_
  intro I J _ _ f g hfa hba hgb hbb
  have HFA := Lib.hid hfa
  have HBA := Lib.hid hba
  have HGB := Lib.hid hgb
  have HBB := Lib.hid hbb
  have fv0 := fun n => cell_of_row _ _ 0 _ _ _ (hfa n).1
  have fv1 := fun n => cell_of_row _ _ 1 _ _ _ (hfa n).1
  have fv2 := fun n => cell_of_row _ _ 2 _ _ _ (hfa n).1
  clear hfa hba hgb hbb
  refine Gro3.take0 1 (by kernel_rfl) ?_
  simp only [List.take, List.drop, List.length]
  repeat (go_big_quiet_step (fail))
  refine wpQuiet_nil ?_
  refine Gro3.check (.tmp 8) (⟨h, 0, none⟩) rfl rfl rfl rfl (fun A1 hA => ?_)
  simp [Act.put] at hA
  subst hA
  refine Gro3.take0 3 (by kernel_rfl) ?_
  simp only [List.take, List.drop, List.length]
  repeat (go_big_quiet_step (fail))
  refine wpQuiet_nil ?_
  refine Gro3.callt (fun v => ∃ q, v = .pointer (some ⟨q, 0, none⟩)) (fun v w' => ∃ q, v = .pointer (some ⟨q, 0, none⟩) ∧ w.heap.size ≤ q ∧ Strm_34 sd.kd w' q 8 fs st tl long) rfl rfl (⟨_, 0, rfl⟩) (fun v w w' hn h => by obtain ⟨q, e, h1, h2⟩ := h; exact ⟨q, e, h1, h2.stay hn⟩) (fun w1 hB hG => ?_) (fun v2 A2 hv2 hA => ?_)
  · obtain ⟨nq, rfl⟩ := hB
    clear fv0 fv1 fv2
    go_simp
    have hle := ((HGB.out nq).2).le
    refine (HW.out _ (HGB.out nq).2).mono ?_
    rintro e w2 ⟨q, rfl, hq, hs, hn⟩
    have HX := HBB.out _ ⟨(hn.block _ (lt_of_block (HGB.out nq).1)).trans (HGB.out nq).1, (HGB.out nq).2.trans hn⟩
    exact ⟨_, rfl, HX, hn, ⟨_, rfl⟩, ⟨_, rfl, Nat.le_trans hle hq, hs⟩⟩
  simp [Act.put] at hA
  subst hA
  obtain ⟨q1, rfl⟩ := hv2
  refine Gro3.take0 1 (by kernel_rfl) ?_
  simp only [List.take, List.drop, List.length]
  repeat (go_big_quiet_step (fail))
  refine wpQuiet_nil ?_
  refine Gro3.callt (fun v => ∃ g, v = .pointer (some ⟨g, 0, none⟩)) (fun v w' => ∃ g, v = .pointer (some ⟨g, 0, none⟩) ∧ q1 < g ∧ Lies w' g (.cells #[.int .i64 (sd.kd.1 : Nat), .int .i64 (sd.kd.2.1 : Nat), .bool sd.kd.2.2, .pointer (some ⟨q1, 0, none⟩)] 64 (0, 0)) ∧ w.heap.size ≤ q1 ∧ Strm_34 sd.kd w' q1 8 fs st tl long) rfl rfl (⟨_, 0, rfl⟩) (fun v w w' hn h => by obtain ⟨g, e, h1, h2, h3, h4⟩ := h; exact ⟨g, e, h1, (hn.block _ (lt_of_block h2)).trans h2, h3, h4.stay hn⟩) (fun w1 hB hG => ?_) (fun v3 A3 hv3 hA => ?_)
  · obtain ⟨nq, rfl⟩ := hB
    obtain ⟨q2, e2, h1, h2⟩ := hG
    cases e2
    have hal := (New.refl (g nq)).alloc (.cells #[.int .i64 (sd.kd.1 : Nat), .int .i64 (sd.kd.2.1 : Nat), .bool sd.kd.2.2, .pointer (some ⟨q1, 0, none⟩)] 64)
    have HX := Lib.hid (HBB.out _ ⟨(hal.block _ (lt_of_block (HGB.out nq).1)).trans (HGB.out nq).1, (HGB.out nq).2.trans hal⟩)
    have HNL := Lib.hid hal
    have HLZ := Lib.hid (show Lies _ _ _ from heap_alloc_new (g nq) (.cells #[.int .i64 (sd.kd.1 : Nat), .int .i64 (sd.kd.2.1 : Nat), .bool sd.kd.2.2, .pointer (some ⟨q1, 0, none⟩)] 64))
    have HS9 := Lib.hid (h2.stay hal)
    have HL9 := Lib.hid h2.lt
    have HW9 := Lib.hid h1
    clear hal h1 h2 fv0 fv1 fv2
    go_simp
    first | exact ⟨HX.out, HNL.out, HL9.out, HLZ.out, HW9.out, HS9.out⟩ | exact ⟨_, rfl, HX.out, HNL.out, ⟨_, rfl⟩, ⟨_, rfl, HL9.out, HLZ.out, HW9.out, HS9.out⟩⟩ | exact ⟨HX.out, HNL.out, ⟨_, rfl⟩, ⟨_, rfl, HL9.out, HLZ.out, HW9.out, HS9.out⟩⟩
  simp [Act.put] at hA
  subst hA
  obtain ⟨g1, rfl⟩ := hv3
  refine Gro3.take0 1 (by kernel_rfl) ?_
  simp only [List.take, List.drop, List.length]
  repeat (go_big_quiet_step (fail))
  refine wpQuiet_nil ?_
  refine Gro3.nil ?_
  rintro w11 ⟨n9, rfl⟩ hG
  obtain ⟨g2, e2, h1, h2, h3, h4⟩ := hG
  cases e2
  have HG1 := Lib.hid h1
  have HG2 := Lib.hid (show (g n9).heap[g1]? = _ from h2)
  have HG3 := Lib.hid h3
  have HG4 := Lib.hid h4
  have HNZ := Lib.hid (HGB.out n9).2
  clear HFA HBA HGB HBB h1 h2 h3 h4 fv0 fv1 fv2 HXH HW HC
  generalize g n9 = w8 at *
  go_wp2
  go_ret
  exact ⟨q1, g1, rfl, HG3.out, HG1.out, HG2.out, HG4.out, HNZ.out⟩
set_option maxRecDepth 100000 in
set_option maxHeartbeats 1000000 in
theorem hlanes_34 (sd : Sd34) (p h : Nat) (fs st : BitVec 64 × BitVec 64 × BitVec 64 × BitVec 64) (tl : List (BitVec 8)) (long : BitVec 64) (w : World) (hx : w.heap[h]? = some (.cells #[.int .i64 (sd.kd.1 : Nat), .int .i64 (sd.kd.2.1 : Nat), .bool sd.kd.2.2, .pointer (some ⟨p, 0, none⟩)] 64 (0, 0))) (hs : Strm_34 sd.kd w p 8 fs st tl long) :
    Calls Try.prog 16 #[.pointer (some ⟨h, 0, none⟩)] w fun e w' => ∃ a c, e = .returned (.tuple #[.agg #[.int .u64 (W64 (st.1)), .int .u64 (W64 (st.2.1)), .int .u64 (W64 (st.2.2.1)), .int .u64 (W64 (st.2.2.2))], .int .u64 (W64 long), .slice a tl.length c]) ∧ BRow w' a tl.length c tl ∧ New w w' := by
  have HC := Lib.hid (fun w' (hn : New w w') => content_34 sd p h w' ((hn.block _ (lt_of_block hx)).trans hx))
  have HS1 := Lib.hid (fun w' (hn : New w w') => state_34 sd.kd p 8 fs st tl long w' (by omega) (hs.stay hn))
  have HS2 := Lib.hid (fun w' (hn : New w w') => tail_34 sd.kd p 8 fs st tl long w' (by omega) (hs.stay hn))
  have HS3 := Lib.hid (fun w' (hn : New w w') => long_34 sd.kd p 8 fs st tl long w' (by omega) (hs.stay hn))
  clear hx hs
  have HO := Lib.hid (heap_alloc_new w (.cells #[.int .u64 0, .int .u64 0, .int .u64 0, .int .u64 0] 38))
  have HN := Lib.hid ((New.refl w).alloc (.cells #[.int .u64 0, .int .u64 0, .int .u64 0, .int .u64 0] 38))
  go_enter Try.func16, Try.ntmps16
  go_wp2_with fail
  refine (HC.out _ HN.out).mono ?_
  rintro e w9 ⟨rfl, rfl⟩
  go_wp2_with fail
  refine (HS1.out _ HN.out).mono ?_
  rintro e w9 ⟨rfl, hn⟩
  replace HO := Lib.hid ((hn.block _ (lt_of_block HO.out)).trans HO.out)
  replace HN := Lib.hid (HN.out.trans hn)
  clear hn
  go_wp2_with fail
  refine (HS3.out _ HN.out).mono ?_
  rintro e w9 ⟨rfl, rfl⟩
  go_wp2_with fail
  refine (HS2.out _ HN.out).mono ?_
  rintro e w9 ⟨a2, c2, rfl, hr, hn⟩
  replace HO := Lib.hid ((hn.block _ (lt_of_block HO.out)).trans HO.out)
  replace HN := Lib.hid (HN.out.trans hn)
  have HR := Lib.hid hr
  clear hn hr HC HS1 HS2 HS3
  have z0 := cell_of_row _ _ 0 _ _ _ HO.out
  have z1 := cell_of_row _ _ 1 _ _ _ HO.out
  have z2 := cell_of_row _ _ 2 _ _ _ HO.out
  have z3 := cell_of_row _ _ 3 _ _ _ HO.out
  have zf := fun i => frozen_of_row _ _ i _ _ HO.out
  go_wp2
  refine bodyPost_ret (by simp [results, Try.results16, go_sem, z0, z1, z2, z3]; try rfl) rfl ?_
  have hnb : NoBytes w9 w.heap.size := ⟨_, _, _, HO.out, by simp⟩
  refine ⟨a2, c2, rfl, HR.out.buts (((((But.refl w.heap.size w9).setCell (p := ⟨w.heap.size, 0, none⟩) rfl _).setCell (p := ⟨w.heap.size, 1, none⟩) rfl _).setCell (p := ⟨w.heap.size, 2, none⟩) rfl _).setCell (p := ⟨w.heap.size, 3, none⟩) rfl _) hnb, ?_⟩
  exact ((((HN.out.setCell (by show w.heap.size ≤ w.heap.size; omega) _).setCell (by show w.heap.size ≤ w.heap.size; omega) _).setCell (by show w.heap.size ≤ w.heap.size; omega) _).setCell (by show w.heap.size ≤ w.heap.size; omega) _)
set_option maxRecDepth 100000 in
set_option maxHeartbeats 1000000 in
theorem hlanes_n_34 (sd : Sd34) (w : World) : Calls Try.prog 16 #[.pointer none] w fun e w' => e = .returned (.tuple #[.agg #[.int .u64 0, .int .u64 0, .int .u64 0, .int .u64 0], .int .u64 0, .slice none 0 0]) ∧ New w w' := by
  have HO := Lib.hid (heap_alloc_new w (.cells #[.int .u64 0, .int .u64 0, .int .u64 0, .int .u64 0] 38))
  have HN := Lib.hid ((New.refl w).alloc (.cells #[.int .u64 0, .int .u64 0, .int .u64 0, .int .u64 0] 38))
  go_enter Try.func16, Try.ntmps16
  go_wp2_with fail
  refine (content_n_34 sd _).mono ?_
  rintro e w9 ⟨rfl, rfl⟩
  go_wp2_with fail
  refine (state_n_34 sd.kd _).mono ?_
  rintro e w9 ⟨rfl, hn⟩
  replace HO := Lib.hid ((hn.block _ (lt_of_block HO.out)).trans HO.out)
  replace HN := Lib.hid (HN.out.trans hn)
  clear hn
  go_wp2_with fail
  refine (long_n_34 sd.kd _).mono ?_
  rintro e w9 ⟨rfl, rfl⟩
  go_wp2_with fail
  refine (tail_n_34 sd.kd _).mono ?_
  rintro e w9 ⟨rfl, rfl⟩
  have z0 := cell_of_row _ _ 0 _ _ _ HO.out
  have z1 := cell_of_row _ _ 1 _ _ _ HO.out
  have z2 := cell_of_row _ _ 2 _ _ _ HO.out
  have z3 := cell_of_row _ _ 3 _ _ _ HO.out
  have zf := fun i => frozen_of_row _ _ i _ _ HO.out
  go_wp2
  refine bodyPost_ret (by simp [results, Try.results16, go_sem, z0, z1, z2, z3]; try rfl) rfl ?_
  first | exact ⟨rfl, HN.out⟩ | exact ⟨rfl, ((((HN.out.setCell (by show w.heap.size ≤ w.heap.size; omega) _).setCell (by show w.heap.size ≤ w.heap.size; omega) _).setCell (by show w.heap.size ≤ w.heap.size; omega) _).setCell (by show w.heap.size ≤ w.heap.size; omega) _)⟩
set_option maxRecDepth 100000 in
set_option maxHeartbeats 2000000 in
theorem hset_n_34 (sd : Sd34) (v2 v3 : Value) (s : BitVec 64 × BitVec 64 × BitVec 64 × BitVec 64) (w : World) : Calls Try.prog 19 #[.pointer none, .agg #[.int .u64 (W64 (s.1)), .int .u64 (W64 (s.2.1)), .int .u64 (W64 (s.2.2.1)), .int .u64 (W64 (s.2.2.2))], v2, v3] w fun e w' => e = .returned (.bool false) ∧ New w w' := by
  have HC := Lib.hid (fun w' (_ : New w w') => content_n_34 sd w')
  have HSY := Lib.hid (fun w' (_ : New w w') => set_n_34 sd.kd s v2 v3 w')
  have HM := Lib.hid (heap_alloc_new w (.cells #[.int .u64 (W64 (s.1)), .int .u64 (W64 (s.2.1)), .int .u64 (W64 (s.2.2.1)), .int .u64 (W64 (s.2.2.2))] 38))
  have HN := Lib.hid ((New.refl w).alloc (.cells #[.int .u64 (W64 (s.1)), .int .u64 (W64 (s.2.1)), .int .u64 (W64 (s.2.2.1)), .int .u64 (W64 (s.2.2.2))] 38))
  go_enter Try.func19, Try.ntmps19
  go_wp2_with fail
  generalize w.alloc (.cells #[.int .u64 (W64 (s.1)), .int .u64 (W64 (s.2.1)), .int .u64 (W64 (s.2.2.1)), .int .u64 (W64 (s.2.2.2))] 38) = w10 at *
  refine Gro3.wp_region_gro3S (fun w' => w'.heap[w.heap.size]? = some (.cells #[.int .u64 (W64 (s.1)), .int .u64 (W64 (s.2.1)), .int .u64 (W64 (s.2.2.1)), .int .u64 (W64 (s.2.2.2))] 38 (0, 0)) ∧ New w w') (fun w' => w'.heap[w.heap.size]? = some (.cells #[.int .u64 (W64 (s.1)), .int .u64 (W64 (s.2.1)), .int .u64 (W64 (s.2.2.1)), .int .u64 (W64 (s.2.2.2))] 38 (0, 0)) ∧ New w w') [0,2,1,0,0,2,0] New (fun _ _ _ => True) (by kernel_rfl) (by kernel_rfl) (by kernel_rfl) (fun _ _ _ _ _ _ => trivial) (fun w' hw' => hw') (⟨HM.out, HN.out.drew⟩) ?_
  intro I J _ _ f g hfa hba hgb hbb
  have HFA := Lib.hid hfa
  have HBA := Lib.hid hba
  have HGB := Lib.hid hgb
  have HBB := Lib.hid hbb
  have fs0 := fun n => cell_of_row _ _ 0 _ _ _ (hgb n).1
  have fs1 := fun n => cell_of_row _ _ 1 _ _ _ (hgb n).1
  have fs2 := fun n => cell_of_row _ _ 2 _ _ _ (hgb n).1
  have fs3 := fun n => cell_of_row _ _ 3 _ _ _ (hgb n).1
  clear hfa hba hgb hbb
  refine Gro3.take0 1 (by kernel_rfl) ?_
  simp only [List.take, List.drop, List.length]
  repeat (go_big_quiet_step (fail))
  refine wpQuiet_nil ?_
  refine Gro3.callt (fun v => v = .pointer none) (fun _ _ => True) rfl rfl (⟨_, rfl⟩) (fun _ _ _ _ _ => trivial) (fun w1 hB hG => ?_) (fun v1 A1 hv1 hA => ?_)
  · obtain ⟨nq, rfl⟩ := hB
    clear fs0 fs1 fs2 fs3
    go_simp
    refine (HC.out _ (HGB.out nq).2).mono ?_
    rintro e w2 ⟨rfl, rfl⟩
    first | exact ⟨_, rfl, ⟨nq, rfl⟩, New.refl _, rfl⟩ | exact ⟨_, rfl, ⟨nq, rfl⟩, New.refl _, rfl, trivial⟩ | exact ⟨⟨nq, rfl⟩, New.refl _⟩
  simp [Act.put] at hA
  subst hA
  obtain rfl := hv1
  refine Gro3.take1 1 (by kernel_rfl) ?_
  simp only [List.take, List.drop, List.length]
  repeat (go_big_quiet_step (fail))
  refine wpQuiet_nil ?_
  refine Gro3.take0 2 (by kernel_rfl) ?_
  simp only [List.take, List.drop, List.length]
  repeat (go_big_quiet_step (fail))
  refine wpQuiet_nil ?_
  refine Gro3.callt (fun v => v = .bool false) (fun _ _ => True) rfl rfl (⟨_, rfl⟩) (fun _ _ _ _ _ => trivial) (fun w1 hB hG => ?_) (fun v2 A2 hv2 hA => ?_)
  · obtain ⟨nq, rfl⟩ := hB
    clear fs0 fs1 fs2 fs3
    go_simp
    refine (HSY.out _ (HGB.out nq).2).mono ?_
    rintro e w2 ⟨rfl, hn⟩
    have HX := HBB.out _ ⟨(hn.block _ (lt_of_block (HGB.out nq).1)).trans (HGB.out nq).1, (HGB.out nq).2.trans hn⟩
    first | exact ⟨_, rfl, HX, hn, rfl⟩ | exact ⟨_, rfl, HX, hn, rfl, trivial⟩ | exact ⟨rfl, HX, hn⟩ | exact ⟨HX, hn, rfl⟩ | exact ⟨HX, hn⟩
  simp [Act.put] at hA
  subst hA
  obtain rfl := hv2
  refine Gro3.take0 1 (by kernel_rfl) ?_
  simp only [List.take, List.drop, List.length]
  repeat (go_big_quiet_step (fail))
  refine wpQuiet_nil ?_
  refine Gro3.nil ?_
  rintro w11 ⟨n9, rfl⟩ hG
  have HNZ := Lib.hid (HGB.out n9).2
  clear HFA HBA HGB HBB fs0 fs1 fs2 fs3 hG HM HN
  generalize g n9 = w11 at *
  go_wp2
  go_ret
  exact ⟨rfl, HNZ.out⟩
set_option maxRecDepth 100000 in
set_option maxHeartbeats 2000000 in
theorem hset_unfit_34 (sd : Sd34) (p h : Nat) (fs st : BitVec 64 × BitVec 64 × BitVec 64 × BitVec 64) (tl : List (BitVec 8)) (long : BitVec 64) (s : BitVec 64 × BitVec 64 × BitVec 64 × BitVec 64) (long2 : BitVec 64) (b : Option Addr) (lb cb : Nat) (m : List (BitVec 8)) (w : World) (hx : w.heap[h]? = some (.cells #[.int .i64 (sd.kd.1 : Nat), .int .i64 (sd.kd.2.1 : Nat), .bool sd.kd.2.2, .pointer (some ⟨p, 0, none⟩)] 64 (0, 0))) (hs : Strm_34 sd.kd w p 8 fs st tl long) (hm : BRow w b lb cb m) (hfit : (BitVec.ofNat 64 lb != long2 % 8#64) = true) :
    Calls Try.prog 19 #[.pointer (some ⟨h, 0, none⟩), .agg #[.int .u64 (W64 (s.1)), .int .u64 (W64 (s.2.1)), .int .u64 (W64 (s.2.2.1)), .int .u64 (W64 (s.2.2.2))], .int .u64 (W64 long2), .slice b lb cb] w fun e w' => e = .returned (.bool false) ∧ New w w' := by
  have HC := Lib.hid (fun w' (hn : New w w') => content_34 sd p h w' ((hn.block _ (lt_of_block hx)).trans hx))
  have HSY := Lib.hid (fun w' (hn : New w w') => setn_34 sd.kd p fs st tl long s long2 b lb cb m w' (hs.stay hn) (hm.stay hn) hfit)
  clear hx hs hm hfit
  have HM := Lib.hid (heap_alloc_new w (.cells #[.int .u64 (W64 (s.1)), .int .u64 (W64 (s.2.1)), .int .u64 (W64 (s.2.2.1)), .int .u64 (W64 (s.2.2.2))] 38))
  have HN := Lib.hid ((New.refl w).alloc (.cells #[.int .u64 (W64 (s.1)), .int .u64 (W64 (s.2.1)), .int .u64 (W64 (s.2.2.1)), .int .u64 (W64 (s.2.2.2))] 38))
  go_enter Try.func19, Try.ntmps19
  go_wp2_with fail
  generalize w.alloc (.cells #[.int .u64 (W64 (s.1)), .int .u64 (W64 (s.2.1)), .int .u64 (W64 (s.2.2.1)), .int .u64 (W64 (s.2.2.2))] 38) = w10 at *
  refine Gro3.wp_region_gro3S (fun w' => w'.heap[w.heap.size]? = some (.cells #[.int .u64 (W64 (s.1)), .int .u64 (W64 (s.2.1)), .int .u64 (W64 (s.2.2.1)), .int .u64 (W64 (s.2.2.2))] 38 (0, 0)) ∧ New w w') (fun w' => w'.heap[w.heap.size]? = some (.cells #[.int .u64 (W64 (s.1)), .int .u64 (W64 (s.2.1)), .int .u64 (W64 (s.2.2.1)), .int .u64 (W64 (s.2.2.2))] 38 (0, 0)) ∧ New w w') [0,2,1,0,0,2,0] New (fun _ _ _ => True) (by kernel_rfl) (by kernel_rfl) (by kernel_rfl) (fun _ _ _ _ _ _ => trivial) (fun w' hw' => hw') (⟨HM.out, HN.out.drew⟩) ?_
  intro I J _ _ f g hfa hba hgb hbb
  have HFA := Lib.hid hfa
  have HBA := Lib.hid hba
  have HGB := Lib.hid hgb
  have HBB := Lib.hid hbb
  have fs0 := fun n => cell_of_row _ _ 0 _ _ _ (hgb n).1
  have fs1 := fun n => cell_of_row _ _ 1 _ _ _ (hgb n).1
  have fs2 := fun n => cell_of_row _ _ 2 _ _ _ (hgb n).1
  have fs3 := fun n => cell_of_row _ _ 3 _ _ _ (hgb n).1
  clear hfa hba hgb hbb
  refine Gro3.take0 1 (by kernel_rfl) ?_
  simp only [List.take, List.drop, List.length]
  repeat (go_big_quiet_step (fail))
  refine wpQuiet_nil ?_
  refine Gro3.callt (fun v => v = .pointer (some ⟨p, 0, none⟩)) (fun _ _ => True) rfl rfl (⟨_, rfl⟩) (fun _ _ _ _ _ => trivial) (fun w1 hB hG => ?_) (fun v1 A1 hv1 hA => ?_)
  · obtain ⟨nq, rfl⟩ := hB
    clear fs0 fs1 fs2 fs3
    go_simp
    refine (HC.out _ (HGB.out nq).2).mono ?_
    rintro e w2 ⟨rfl, rfl⟩
    first | exact ⟨_, rfl, ⟨nq, rfl⟩, New.refl _, rfl⟩ | exact ⟨_, rfl, ⟨nq, rfl⟩, New.refl _, rfl, trivial⟩ | exact ⟨⟨nq, rfl⟩, New.refl _⟩
  simp [Act.put] at hA
  subst hA
  obtain rfl := hv1
  refine Gro3.take1 1 (by kernel_rfl) ?_
  simp only [List.take, List.drop, List.length]
  repeat (go_big_quiet_step (fail))
  refine wpQuiet_nil ?_
  refine Gro3.take0 2 (by kernel_rfl) ?_
  simp only [List.take, List.drop, List.length]
  repeat (go_big_quiet_step (fail))
  refine wpQuiet_nil ?_
  refine Gro3.callt (fun v => v = .bool false) (fun _ _ => True) rfl rfl (⟨_, rfl⟩) (fun _ _ _ _ _ => trivial) (fun w1 hB hG => ?_) (fun v2 A2 hv2 hA => ?_)
  · obtain ⟨nq, rfl⟩ := hB
    clear fs0 fs1 fs2 fs3
    go_simp
    refine (HSY.out _ (HGB.out nq).2).mono ?_
    rintro e w2 ⟨rfl, hn⟩
    have HX := HBB.out _ ⟨(hn.block _ (lt_of_block (HGB.out nq).1)).trans (HGB.out nq).1, (HGB.out nq).2.trans hn⟩
    first | exact ⟨_, rfl, HX, hn, rfl⟩ | exact ⟨_, rfl, HX, hn, rfl, trivial⟩ | exact ⟨rfl, HX, hn⟩ | exact ⟨HX, hn, rfl⟩ | exact ⟨HX, hn⟩
  simp [Act.put] at hA
  subst hA
  obtain rfl := hv2
  refine Gro3.take0 1 (by kernel_rfl) ?_
  simp only [List.take, List.drop, List.length]
  repeat (go_big_quiet_step (fail))
  refine wpQuiet_nil ?_
  refine Gro3.nil ?_
  rintro w11 ⟨n9, rfl⟩ hG
  have HNZ := Lib.hid (HGB.out n9).2
  clear HFA HBA HGB HBB fs0 fs1 fs2 fs3 hG HM HN
  generalize g n9 = w11 at *
  go_wp2
  go_ret
  exact ⟨rfl, HNZ.out⟩
set_option maxRecDepth 100000 in
set_option maxHeartbeats 2000000 in
theorem hset_fit_34 (sd : Sd34) (p h : Nat) (fs st : BitVec 64 × BitVec 64 × BitVec 64 × BitVec 64) (tl : List (BitVec 8)) (long : BitVec 64) (s : BitVec 64 × BitVec 64 × BitVec 64 × BitVec 64) (long2 : BitVec 64) (b : Option Addr) (lb cb : Nat) (m : List (BitVec 8)) (w : World) (hx : w.heap[h]? = some (.cells #[.int .i64 (sd.kd.1 : Nat), .int .i64 (sd.kd.2.1 : Nat), .bool sd.kd.2.2, .pointer (some ⟨p, 0, none⟩)] 64 (0, 0))) (hs : Strm_34 sd.kd w p 8 fs st tl long) (hm : BRow w b lb cb m) (hfit : (BitVec.ofNat 64 lb != long2 % 8#64) = false) :
    Calls Try.prog 19 #[.pointer (some ⟨h, 0, none⟩), .agg #[.int .u64 (W64 (s.1)), .int .u64 (W64 (s.2.1)), .int .u64 (W64 (s.2.2.1)), .int .u64 (W64 (s.2.2.2))], .int .u64 (W64 long2), .slice b lb cb] w fun e w' => e = .returned (.bool true) ∧ Strm_34 sd.kd w' p 8 fs s m long2 ∧ But p w w' := by
  have HC := Lib.hid (fun w' (hn : New w w') => content_34 sd p h w' ((hn.block _ (lt_of_block hx)).trans hx))
  have HSY := Lib.hid (fun w' (hn : New w w') => sety_34 sd.kd p fs st tl long s long2 b lb cb m w' (hs.stay hn) (hm.stay hn) hfit)
  clear hx hs hm hfit
  have HM := Lib.hid (heap_alloc_new w (.cells #[.int .u64 (W64 (s.1)), .int .u64 (W64 (s.2.1)), .int .u64 (W64 (s.2.2.1)), .int .u64 (W64 (s.2.2.2))] 38))
  have HN := Lib.hid ((New.refl w).alloc (.cells #[.int .u64 (W64 (s.1)), .int .u64 (W64 (s.2.1)), .int .u64 (W64 (s.2.2.1)), .int .u64 (W64 (s.2.2.2))] 38))
  go_enter Try.func19, Try.ntmps19
  go_wp2_with fail
  generalize w.alloc (.cells #[.int .u64 (W64 (s.1)), .int .u64 (W64 (s.2.1)), .int .u64 (W64 (s.2.2.1)), .int .u64 (W64 (s.2.2.2))] 38) = w10 at *
  refine Gro3.wp_region_gro3S (fun w' => But p w w') (fun w' => w'.heap[w.heap.size]? = some (.cells #[.int .u64 (W64 (s.1)), .int .u64 (W64 (s.2.1)), .int .u64 (W64 (s.2.2.1)), .int .u64 (W64 (s.2.2.2))] 38 (0, 0)) ∧ New w w') [0,2,1,0,0,3,0] New (fun _ _ _ => True) (by kernel_rfl) (by kernel_rfl) (by kernel_rfl) (fun _ _ _ _ _ _ => trivial) (fun w' hw' => But.of_new hw'.2) (⟨HM.out, HN.out.drew⟩) ?_
  intro I J _ _ f g hfa hba hgb hbb
  have HFA := Lib.hid hfa
  have HBA := Lib.hid hba
  have HGB := Lib.hid hgb
  have HBB := Lib.hid hbb
  have fs0 := fun n => cell_of_row _ _ 0 _ _ _ (hgb n).1
  have fs1 := fun n => cell_of_row _ _ 1 _ _ _ (hgb n).1
  have fs2 := fun n => cell_of_row _ _ 2 _ _ _ (hgb n).1
  have fs3 := fun n => cell_of_row _ _ 3 _ _ _ (hgb n).1
  clear hfa hba hgb hbb
  refine Gro3.take0 1 (by kernel_rfl) ?_
  simp only [List.take, List.drop, List.length]
  repeat (go_big_quiet_step (fail))
  refine wpQuiet_nil ?_
  refine Gro3.callt (fun v => v = .pointer (some ⟨p, 0, none⟩)) (fun _ _ => True) rfl rfl (⟨_, rfl⟩) (fun _ _ _ _ _ => trivial) (fun w1 hB hG => ?_) (fun v1 A1 hv1 hA => ?_)
  · obtain ⟨nq, rfl⟩ := hB
    clear fs0 fs1 fs2 fs3
    go_simp
    refine (HC.out _ (HGB.out nq).2).mono ?_
    rintro e w2 ⟨rfl, rfl⟩
    first | exact ⟨_, rfl, ⟨nq, rfl⟩, New.refl _, rfl⟩ | exact ⟨_, rfl, ⟨nq, rfl⟩, New.refl _, rfl, trivial⟩ | exact ⟨⟨nq, rfl⟩, New.refl _⟩
  simp [Act.put] at hA
  subst hA
  obtain rfl := hv1
  refine Gro3.take1 1 (by kernel_rfl) ?_
  simp only [List.take, List.drop, List.length]
  repeat (go_big_quiet_step (fail))
  refine wpQuiet_nil ?_
  refine Gro3.take0 2 (by kernel_rfl) ?_
  simp only [List.take, List.drop, List.length]
  repeat (go_big_quiet_step (fail))
  refine wpQuiet_nil ?_
  refine Gro3.turn (fun v => v = .bool true) (fun _ w9 => Strm_34 sd.kd w9 p 8 fs s m long2 ∧ But p w w9) rfl rfl ⟨_, rfl⟩ (fun w1 hB hG => ?_) (fun v2 A2 hv2 hA => ?_)
  · obtain ⟨nq, rfl⟩ : ∃ nq, w1 = g nq := hB
    clear fs0 fs1 fs2 fs3
    go_simp
    refine (HSY.out _ (HGB.out nq).2).mono ?_
    rintro e w2 ⟨rfl, hs, hb⟩
    have hbb := But.trans (But.of_new (HGB.out nq).2) hb
    have HX := HBA.out _ hbb
    first | exact ⟨_, rfl, HX, rfl, hs, hbb⟩ | exact ⟨_, rfl, HX, hs, hbb⟩ | exact ⟨HX, rfl, hs, hbb⟩ | exact ⟨HX, hs, hbb⟩
  simp [Act.put] at hA
  subst hA
  obtain rfl := hv2
  refine Gro3.take0 1 (by kernel_rfl) ?_
  simp only [List.take, List.drop, List.length]
  repeat (go_big_quiet_step (fail))
  refine wpQuiet_nil ?_
  refine Gro3.nil ?_
  rintro w11 ⟨n9, rfl⟩ hG
  have HG := Lib.hid (show Strm_34 sd.kd (f n9) p 8 fs s m long2 ∧ But p w (f n9) from hG)
  clear HFA HBA HGB HBB fs0 fs1 fs2 fs3 hG
  generalize f n9 = w11 at *
  go_wp2
  go_ret
  exact ⟨rfl, HG.out.1, HG.out.2⟩
end Go.Proofs.Ytbikekjcbfhoaaa
