/- Layer 33: Lanes and Set of a hash. -/
import Derived.Test.YtfeeecmcaakpkaaM33H
import Derived.Test.YtfeeecmcaakpkaaHshE
import Derived.Defers
import Derived.Recover
import Derived.Laws.Pointers
import Derived.Handy
import Derived.Laws.EntriesVeiled
import Derived.LoopN
namespace Go.Proofs.Ytfeeecmcaakpkaa
open Go.RowKit Go.Bv
set_option linter.unusedVariables false
set_option maxRecDepth 100000 in
set_option maxHeartbeats 1000000 in
theorem hlanes_33 (p h : Nat) (fs st : BitVec 64 × BitVec 64 × BitVec 64 × BitVec 64) (tl : List (BitVec 8)) (long : BitVec 64) (w : World) (hx : w.heap[h]? = some (.cells #[.pointer (some ⟨p, 0, none⟩)] 86 (0, 0))) (hs : Strm_33 w p 32 fs st tl long) :
    Calls Try.prog 30 #[.pointer (some ⟨h, 0, none⟩)] w fun e w' => ∃ a c, e = .returned (.tuple #[.agg #[.int .u64 (W64 (st.1)), .int .u64 (W64 (st.2.1)), .int .u64 (W64 (st.2.2.1)), .int .u64 (W64 (st.2.2.2))], .int .u64 (W64 long), .slice a tl.length c]) ∧ BRow w' a tl.length c tl ∧ New w w' := by
  have HC := Lib.hid (fun w' (hn : New w w') => content_33 p h w' ((hn.block _ (lt_of_block hx)).trans hx))
  have HS1 := Lib.hid (fun w' (hn : New w w') => state_33 p 32 fs st tl long w' (by omega) (hs.stay hn))
  have HS2 := Lib.hid (fun w' (hn : New w w') => tail_33 p 32 fs st tl long w' (by omega) (hs.stay hn))
  have HS3 := Lib.hid (fun w' (hn : New w w') => long_33 p 32 fs st tl long w' (by omega) (hs.stay hn))
  have HWD := Lib.hid (widened_33 st)
  clear hx hs
  have HO := Lib.hid (heap_alloc_new w (.cells #[.int .u64 0, .int .u64 0, .int .u64 0, .int .u64 0] 36))
  have HN := Lib.hid ((New.refl w).alloc (.cells #[.int .u64 0, .int .u64 0, .int .u64 0, .int .u64 0] 36))
  go_enter Try.func30, Try.ntmps30
  go_wp2_with fail
  refine (HC.out _ HN.out).mono ?_
  rintro e w9 ⟨rfl, rfl⟩
  go_wp2_with fail
  refine (HS1.out _ HN.out).mono ?_
  rintro e w9 ⟨rfl, hn⟩
  replace HO := Lib.hid ((hn.block _ (lt_of_block HO.out)).trans HO.out)
  replace HN := Lib.hid (HN.out.trans hn)
  clear hn
  go_wp2_with fail
  refine (HWD.out _).mono ?_
  rintro e w9 ⟨rfl, hn⟩
  replace HO := Lib.hid ((hn.block _ (lt_of_block HO.out)).trans HO.out)
  replace HN := Lib.hid (HN.out.trans hn)
  clear hn
  go_wp2_with fail
  refine (HS3.out _ HN.out).mono ?_
  rintro e w9 ⟨rfl, rfl⟩
  go_wp2_with fail
  refine (HS2.out _ HN.out).mono ?_
  rintro e w9 ⟨a2, c2, rfl, hr, hn⟩
  replace HO := Lib.hid ((hn.block _ (lt_of_block HO.out)).trans HO.out)
  replace HN := Lib.hid (HN.out.trans hn)
  have HR := Lib.hid hr
  clear hn hr HC HS1 HS2 HS3 HWD
  have z0 := cell_of_row _ _ 0 _ _ _ HO.out
  have z1 := cell_of_row _ _ 1 _ _ _ HO.out
  have z2 := cell_of_row _ _ 2 _ _ _ HO.out
  have z3 := cell_of_row _ _ 3 _ _ _ HO.out
  have zf := fun i => frozen_of_row _ _ i _ _ HO.out
  go_wp2
  refine bodyPost_ret (by simp [results, Try.results30, go_sem, z0, z1, z2, z3]; try rfl) rfl ?_
  have hnb : NoBytes w9 w.heap.size := ⟨_, _, _, HO.out, by simp⟩
  refine ⟨a2, c2, rfl, HR.out.buts (((((But.refl w.heap.size w9).setCell (p := ⟨w.heap.size, 0, none⟩) rfl _).setCell (p := ⟨w.heap.size, 1, none⟩) rfl _).setCell (p := ⟨w.heap.size, 2, none⟩) rfl _).setCell (p := ⟨w.heap.size, 3, none⟩) rfl _) hnb, ?_⟩
  exact (((HN.out.setCell (by show w.heap.size ≤ w.heap.size; omega) _).setCell (by show w.heap.size ≤ w.heap.size; omega) _).setCell (by show w.heap.size ≤ w.heap.size; omega) _).setCell (by show w.heap.size ≤ w.heap.size; omega) _
set_option maxRecDepth 100000 in
set_option maxHeartbeats 2000000 in
theorem hset_fit_33 (p h : Nat) (fs st : BitVec 64 × BitVec 64 × BitVec 64 × BitVec 64) (tl : List (BitVec 8)) (long : BitVec 64) (s : BitVec 64 × BitVec 64 × BitVec 64 × BitVec 64) (long2 : BitVec 64) (b : Option Addr) (lb cb : Nat) (m : List (BitVec 8)) (w : World) (hx : w.heap[h]? = some (.cells #[.pointer (some ⟨p, 0, none⟩)] 86 (0, 0))) (hs : Strm_33 w p 32 fs st tl long) (hm : BRow w b lb cb m) (hfit : (BitVec.ofNat 64 lb != long2 % 32#64) = false) :
    Calls Try.prog 32 #[.pointer (some ⟨h, 0, none⟩), .agg #[.int .u64 (W64 (s.1)), .int .u64 (W64 (s.2.1)), .int .u64 (W64 (s.2.2.1)), .int .u64 (W64 (s.2.2.2))], .int .u64 (W64 long2), .slice b lb cb] w fun e w' => e = .returned (.bool true) ∧ Strm_33 w' p 32 fs s m long2 ∧ But p w w' := by
  have HC := Lib.hid (fun w' (hn : New w w') => content_33 p h w' ((hn.block _ (lt_of_block hx)).trans hx))
  have HSY := Lib.hid (fun w' (hn : New w w') => sety_33 p fs st tl long s long2 b lb cb m w' (hs.stay hn) (hm.stay hn) hfit)
  clear hx hs hm hfit
  obtain ⟨s0, s1, s2, s3⟩ := s
  have HZ := Lib.hid (two_blocks w (.cells #[.int .u64 (W64 s0), .int .u64 (W64 s1), .int .u64 (W64 s2), .int .u64 (W64 s3)] 36) (.cells #[.int .u64 (W64 s0), .int .u64 (W64 s1), .int .u64 (W64 s2), .int .u64 (W64 s3)] 76))
  have ix0 : ∀ w, (Instr.index 36 (.agg #[.int .u64 (W64 s0), .int .u64 (W64 s1), .int .u64 (W64 s2), .int .u64 (W64 s3)]) (.int .i64 0)).run Try.prog w = .ok (.int .u64 (W64 s0)) w := fun _ => rfl
  have ix1 : ∀ w, (Instr.index 36 (.agg #[.int .u64 (W64 s0), .int .u64 (W64 s1), .int .u64 (W64 s2), .int .u64 (W64 s3)]) (.int .i64 1)).run Try.prog w = .ok (.int .u64 (W64 s1)) w := fun _ => rfl
  have ix2 : ∀ w, (Instr.index 36 (.agg #[.int .u64 (W64 s0), .int .u64 (W64 s1), .int .u64 (W64 s2), .int .u64 (W64 s3)]) (.int .i64 2)).run Try.prog w = .ok (.int .u64 (W64 s2)) w := fun _ => rfl
  have ix3 : ∀ w, (Instr.index 36 (.agg #[.int .u64 (W64 s0), .int .u64 (W64 s1), .int .u64 (W64 s2), .int .u64 (W64 s3)]) (.int .i64 3)).run Try.prog w = .ok (.int .u64 (W64 s3)) w := fun _ => rfl
  go_enter Try.func32, Try.ntmps32
  go_wp2_with fail
  go_rounds 5
  clear ix0 ix1 ix2 ix3
  generalize (w.alloc (.cells #[.int .u64 (W64 s0), .int .u64 (W64 s1), .int .u64 (W64 s2), .int .u64 (W64 s3)] 36)).alloc (.cells #[.int .u64 (W64 s0), .int .u64 (W64 s1), .int .u64 (W64 s2), .int .u64 (W64 s3)] 76) = w10 at *
  have HM := Lib.hid HZ.out.2.1
  have HN := Lib.hid HZ.out.2.2
  clear HZ
  refine Gro3.wp_region_gro3S (fun w' => But p w w') (fun w' => w'.heap[w.heap.size + 1]? = some (.cells #[.int .u64 (W64 s0), .int .u64 (W64 s1), .int .u64 (W64 s2), .int .u64 (W64 s3)] 76 (0, 0)) ∧ New w w') [0,2,1,0,0,3,0] New (fun _ _ _ => True) (by kernel_rfl) (by kernel_rfl) (by kernel_rfl) (fun _ _ _ _ _ _ => trivial) (fun w' hw' => But.of_new hw'.2) (⟨HM.out, HN.out.drew⟩) ?_
  intro I J _ _ f g hfa hba hgb hbb
  have HFA := Lib.hid hfa
  have HBA := Lib.hid hba
  have HGB := Lib.hid hgb
  have HBB := Lib.hid hbb
  have fs0 := fun n => cell_of_row _ _ 0 _ _ _ (hgb n).1
  have fs1 := fun n => cell_of_row _ _ 1 _ _ _ (hgb n).1
  have fs2 := fun n => cell_of_row _ _ 2 _ _ _ (hgb n).1
  have fs3 := fun n => cell_of_row _ _ 3 _ _ _ (hgb n).1
  clear hfa hba hgb hbb
  refine Gro3.take0 1 (by kernel_rfl) ?_
  simp only [List.take, List.drop, List.length]
  repeat (go_big_quiet_step (fail))
  refine wpQuiet_nil ?_
  refine Gro3.callt (fun v => v = .pointer (some ⟨p, 0, none⟩)) (fun _ _ => True) rfl rfl (⟨_, rfl⟩) (fun _ _ _ _ _ => trivial) (fun w1 hB hG => ?_) (fun v1 A1 hv1 hA => ?_)
  · obtain ⟨nq, rfl⟩ := hB
    clear fs0 fs1 fs2 fs3
    go_simp
    refine (HC.out _ (HGB.out nq).2).mono ?_
    rintro e w2 ⟨rfl, rfl⟩
    first | exact ⟨_, rfl, ⟨nq, rfl⟩, New.refl _, rfl⟩ | exact ⟨_, rfl, ⟨nq, rfl⟩, New.refl _, rfl, trivial⟩ | exact ⟨⟨nq, rfl⟩, New.refl _⟩
  simp [Act.put] at hA
  subst hA
  obtain rfl := hv1
  refine Gro3.take1 1 (by kernel_rfl) ?_
  simp only [List.take, List.drop, List.length]
  repeat (go_big_quiet_step (fail))
  refine wpQuiet_nil ?_
  refine Gro3.take0 2 (by kernel_rfl) ?_
  simp only [List.take, List.drop, List.length]
  repeat (go_big_quiet_step (fail))
  refine wpQuiet_nil ?_
  refine Gro3.turn (fun v => v = .bool true) (fun _ w9 => Strm_33 w9 p 32 fs (s0, s1, s2, s3) m long2 ∧ But p w w9) rfl rfl ⟨_, rfl⟩ (fun w1 hB hG => ?_) (fun v2 A2 hv2 hA => ?_)
  · obtain ⟨nq, rfl⟩ : ∃ nq, w1 = g nq := hB
    clear fs0 fs1 fs2 fs3
    go_simp
    refine (HSY.out _ (HGB.out nq).2).mono ?_
    rintro e w2 ⟨rfl, hs, hb⟩
    have hbb := But.trans (But.of_new (HGB.out nq).2) hb
    have HX := HBA.out _ hbb
    first | exact ⟨_, rfl, HX, rfl, hs, hbb⟩ | exact ⟨_, rfl, HX, hs, hbb⟩ | exact ⟨HX, rfl, hs, hbb⟩ | exact ⟨HX, hs, hbb⟩
  simp [Act.put] at hA
  subst hA
  obtain rfl := hv2
  refine Gro3.take0 1 (by kernel_rfl) ?_
  simp only [List.take, List.drop, List.length]
  repeat (go_big_quiet_step (fail))
  refine wpQuiet_nil ?_
  refine Gro3.nil ?_
  rintro w11 ⟨n9, rfl⟩ hG
  have HG := Lib.hid (show Strm_33 (f n9) p 32 fs (s0, s1, s2, s3) m long2 ∧ But p w (f n9) from hG)
  clear HFA HBA HGB HBB fs0 fs1 fs2 fs3 hG
  generalize f n9 = w11 at *
  go_wp2
  go_ret
  exact ⟨rfl, HG.out.1, HG.out.2⟩
end Go.Proofs.Ytfeeecmcaakpkaa
