/- Layer 30: Lanes and Set of a hash. -/
import Derived.Test.YtnapogamcohfaaaM30H
import Derived.Test.YtnapogamcohfaaaGroS
import Derived.Defers
import Derived.Recover
import Derived.Laws.Pointers
import Derived.Handy
import Derived.Laws.EntriesVeiled
namespace Go.Proofs.Ytnapogamcohfaaa
open Go.RowKit Go.Bv
set_option linter.unusedVariables false
theorem swb30 (s : BitVec 32) : ((s.setWidth 64).setWidth 32).setWidth 64 = s.setWidth 64 := by
  apply BitVec.eq_of_toNat_eq
  rw [BitVec.toNat_setWidth, BitVec.toNat_setWidth, BitVec.toNat_setWidth]
  have := s.isLt
  omega
theorem swa30 (s : BitVec 32) : (s.setWidth 64).setWidth 32 = s := by
  apply BitVec.eq_of_toNat_eq
  rw [BitVec.toNat_setWidth, BitVec.toNat_setWidth]
  have := s.isLt
  omega
theorem rgt_low30 (s : BitVec 32 × BitVec 32 × BitVec 32 × BitVec 32) : rgt30 (s.1.setWidth 64, s.2.1.setWidth 64, s.2.2.1.setWidth 64, s.2.2.2.setWidth 64) = true := by
  unfold rgt30
  simp only [swb30, beq_self_eq_true, Bool.and_self]
theorem low_low30 (s : BitVec 32 × BitVec 32 × BitVec 32 × BitVec 32) : low30 (s.1.setWidth 64, s.2.1.setWidth 64, s.2.2.1.setWidth 64, s.2.2.2.setWidth 64) = s := by
  unfold low30
  simp only [swa30]
set_option maxRecDepth 100000 in
set_option maxHeartbeats 1000000 in
theorem hlanes_30 (kd : Nat × Nat) (p h : Nat) (fs st : BitVec 32 × BitVec 32 × BitVec 32 × BitVec 32) (tl : List (BitVec 8)) (long : BitVec 64) (w : World) (hx : w.heap[h]? = some (.cells #[.pointer (some ⟨p, 0, none⟩)] 62 (0, 0))) (hs : Strm_30 kd w p 16 fs st tl long) :
    Calls Try.prog 15 #[.pointer (some ⟨h, 0, none⟩)] w fun e w' => ∃ a c, e = .returned (.tuple #[.agg #[.int .u64 (W64 ((st).1.setWidth 64)), .int .u64 (W64 ((st).2.1.setWidth 64)), .int .u64 (W64 ((st).2.2.1.setWidth 64)), .int .u64 (W64 ((st).2.2.2.setWidth 64))], .int .u64 (W64 long), .slice a tl.length c]) ∧ BRow w' a tl.length c tl ∧ New w w' := by
  have HC := Lib.hid (fun w' (hn : New w w') => content_30 kd p h w' ((hn.block _ (lt_of_block hx)).trans hx))
  have HS1 := Lib.hid (fun w' (hn : New w w') => state_30 kd p 16 fs st tl long w' (by omega) (hs.stay hn))
  have HS2 := Lib.hid (fun w' (hn : New w w') => tail_30 kd p 16 fs st tl long w' (by omega) (hs.stay hn))
  have HS3 := Lib.hid (fun w' (hn : New w w') => long_30 kd p 16 fs st tl long w' (by omega) (hs.stay hn))
  have HWD := Lib.hid (widened_30s st)
  clear hx hs
  have HO := Lib.hid (heap_alloc_new w (.cells #[.int .u64 0, .int .u64 0, .int .u64 0, .int .u64 0] 38))
  have HN := Lib.hid ((New.refl w).alloc (.cells #[.int .u64 0, .int .u64 0, .int .u64 0, .int .u64 0] 38))
  go_enter Try.func15, Try.ntmps15
  go_wp2_with fail
  refine (HC.out _ HN.out).mono ?_
  rintro e w9 ⟨rfl, rfl⟩
  go_wp2_with fail
  refine (HS1.out _ HN.out).mono ?_
  rintro e w9 ⟨rfl, hn⟩
  replace HO := Lib.hid ((hn.block _ (lt_of_block HO.out)).trans HO.out)
  replace HN := Lib.hid (HN.out.trans hn)
  clear hn
  go_wp2_with fail
  refine (HWD.out _).mono ?_
  rintro e w9 ⟨rfl, hn⟩
  replace HO := Lib.hid ((hn.block _ (lt_of_block HO.out)).trans HO.out)
  replace HN := Lib.hid (HN.out.trans hn)
  clear hn
  go_wp2_with fail
  refine (HS3.out _ HN.out).mono ?_
  rintro e w9 ⟨rfl, rfl⟩
  go_wp2_with fail
  refine (HS2.out _ HN.out).mono ?_
  rintro e w9 ⟨a2, c2, rfl, hr, hn⟩
  replace HO := Lib.hid ((hn.block _ (lt_of_block HO.out)).trans HO.out)
  replace HN := Lib.hid (HN.out.trans hn)
  have HR := Lib.hid hr
  clear hn hr HC HS1 HS2 HS3 HWD
  have z0 := cell_of_row _ _ 0 _ _ _ HO.out
  have z1 := cell_of_row _ _ 1 _ _ _ HO.out
  have z2 := cell_of_row _ _ 2 _ _ _ HO.out
  have z3 := cell_of_row _ _ 3 _ _ _ HO.out
  have zf := fun i => frozen_of_row _ _ i _ _ HO.out
  go_wp2
  refine bodyPost_ret (by simp [results, Try.results15, go_sem, z0, z1, z2, z3]; try rfl) rfl ?_
  have hnb : NoBytes w9 w.heap.size := ⟨_, _, _, HO.out, by simp⟩
  refine ⟨a2, c2, rfl, HR.out.buts (((((But.refl w.heap.size w9).setCell (p := ⟨w.heap.size, 0, none⟩) rfl _).setCell (p := ⟨w.heap.size, 1, none⟩) rfl _).setCell (p := ⟨w.heap.size, 2, none⟩) rfl _).setCell (p := ⟨w.heap.size, 3, none⟩) rfl _) hnb, ?_⟩
  exact (((HN.out.setCell (by show w.heap.size ≤ w.heap.size; omega) _).setCell (by show w.heap.size ≤ w.heap.size; omega) _).setCell (by show w.heap.size ≤ w.heap.size; omega) _).setCell (by show w.heap.size ≤ w.heap.size; omega) _
set_option maxRecDepth 100000 in
set_option maxHeartbeats 1000000 in
theorem hlanes_n_30 (kd : Nat × Nat) (w : World) : Calls Try.prog 15 #[.pointer none] w fun e w' => e = .returned (.tuple #[.agg #[.int .u64 0, .int .u64 0, .int .u64 0, .int .u64 0], .int .u64 0, .slice none 0 0]) ∧ New w w' := by
  have HWD := Lib.hid (widened_30s (0#32, 0#32, 0#32, 0#32))
  rw [show W32 0#32 = 0 by decide, show W64 ((0#32).setWidth 64) = 0 by decide] at HWD
  have HO := Lib.hid (heap_alloc_new w (.cells #[.int .u64 0, .int .u64 0, .int .u64 0, .int .u64 0] 38))
  have HN := Lib.hid ((New.refl w).alloc (.cells #[.int .u64 0, .int .u64 0, .int .u64 0, .int .u64 0] 38))
  go_enter Try.func15, Try.ntmps15
  go_wp2_with fail
  refine (content_n_30 kd _).mono ?_
  rintro e w9 ⟨rfl, rfl⟩
  go_wp2_with fail
  refine (state_n_30 kd _).mono ?_
  rintro e w9 ⟨rfl, hn⟩
  replace HO := Lib.hid ((hn.block _ (lt_of_block HO.out)).trans HO.out)
  replace HN := Lib.hid (HN.out.trans hn)
  clear hn
  go_wp2_with fail
  refine (HWD.out _).mono ?_
  rintro e w9 ⟨rfl, hn⟩
  replace HO := Lib.hid ((hn.block _ (lt_of_block HO.out)).trans HO.out)
  replace HN := Lib.hid (HN.out.trans hn)
  clear hn
  go_wp2_with fail
  refine (long_n_30 kd _).mono ?_
  rintro e w9 ⟨rfl, rfl⟩
  go_wp2_with fail
  refine (tail_n_30 kd _).mono ?_
  rintro e w9 ⟨rfl, rfl⟩
  have z0 := cell_of_row _ _ 0 _ _ _ HO.out
  have z1 := cell_of_row _ _ 1 _ _ _ HO.out
  have z2 := cell_of_row _ _ 2 _ _ _ HO.out
  have z3 := cell_of_row _ _ 3 _ _ _ HO.out
  have zf := fun i => frozen_of_row _ _ i _ _ HO.out
  go_wp2
  refine bodyPost_ret (by simp [results, Try.results15, go_sem, z0, z1, z2, z3]; try rfl) rfl ?_
  exact ⟨rfl, (((HN.out.setCell (by show w.heap.size ≤ w.heap.size; omega) _).setCell (by show w.heap.size ≤ w.heap.size; omega) _).setCell (by show w.heap.size ≤ w.heap.size; omega) _).setCell (by show w.heap.size ≤ w.heap.size; omega) _⟩
set_option maxRecDepth 100000 in
set_option maxHeartbeats 2000000 in
theorem hset_no_30 (kd : Nat × Nat) (v1 v2 v3 : Value) (y : BitVec 64 × BitVec 64 × BitVec 64 × BitVec 64) (hr : rgt30 y = false) (w : World) : Calls Try.prog 18 #[v1, .agg #[.int .u64 (W64 y.1), .int .u64 (W64 y.2.1), .int .u64 (W64 y.2.2.1), .int .u64 (W64 y.2.2.2)], v2, v3] w fun e w' => e = .returned (.bool false) ∧ New w w' := by
  have HNR := Lib.hid (narrowed_30s y)
  rw [hr] at HNR
  obtain ⟨s, hsn⟩ : ∃ z, low30 y = z := ⟨_, rfl⟩
  rw [hsn] at HNR
  clear hr hsn
  have HO := Lib.hid (heap_alloc_new w (.cells #[.int .u64 (W64 y.1), .int .u64 (W64 y.2.1), .int .u64 (W64 y.2.2.1), .int .u64 (W64 y.2.2.2)] 38))
  have HN := Lib.hid ((New.refl w).alloc (.cells #[.int .u64 (W64 y.1), .int .u64 (W64 y.2.1), .int .u64 (W64 y.2.2.1), .int .u64 (W64 y.2.2.2)] 38))
  have c0 := cell_of_row _ _ 0 _ _ _ HO.out
  have c1 := cell_of_row _ _ 1 _ _ _ HO.out
  have c2 := cell_of_row _ _ 2 _ _ _ HO.out
  have c3 := cell_of_row _ _ 3 _ _ _ HO.out
  go_enter Try.func18, Try.ntmps18
  go_wp2_with fail
  refine (HNR.out _).mono ?_
  rintro e w9 ⟨rfl, hn⟩
  replace HN := Lib.hid (HN.out.trans hn)
  clear hn c0 c1 c2 c3 HO HNR
  have hx := heap_alloc_new w9 (.cells #[.int .u32 (W32 (s.1)), .int .u32 (W32 (s.2.1)), .int .u32 (W32 (s.2.2.1)), .int .u32 (W32 (s.2.2.2))] 52)
  have hn2 := (New.refl w9).alloc (.cells #[.int .u32 (W32 (s.1)), .int .u32 (W32 (s.2.1)), .int .u32 (W32 (s.2.2.1)), .int .u32 (W32 (s.2.2.2))] 52)
  obtain ⟨qHM, hq⟩ : ∃ q, w9.heap.size = q := ⟨_, rfl⟩
  have hle := HN.out.le
  rw [hq] at hx hle
  have hw0 := And.intro (rfl : w9.alloc (.cells #[.int .u32 (W32 (s.1)), .int .u32 (W32 (s.2.1)), .int .u32 (W32 (s.2.2.1)), .int .u32 (W32 (s.2.2.2))] 52) = w9.alloc (.cells #[.int .u32 (W32 (s.1)), .int .u32 (W32 (s.2.1)), .int .u32 (W32 (s.2.2.1)), .int .u32 (W32 (s.2.2.2))] 52)) hq
  generalize hw2 : w9.alloc (.cells #[.int .u32 (W32 (s.1)), .int .u32 (W32 (s.2.1)), .int .u32 (W32 (s.2.2.1)), .int .u32 (W32 (s.2.2.2))] 52) = w10 at hx hn2 hw0
  have HE := Lib.hid (show w9.alloc (.cells #[.int .u32 (W32 (s.1)), .int .u32 (W32 (s.2.1)), .int .u32 (W32 (s.2.2.1)), .int .u32 (W32 (s.2.2.2))] 52) = w10 ∧ w9.heap.size = qHM from ⟨hw2, hq⟩)
  clear hw0 hw2
  replace HN := Lib.hid (HN.out.trans hn2)
  have HM := Lib.hid hx
  have HLHM := Lib.hid hle
  clear hx hn2 hq hle
  go_wp2_with (rw [HE.out.1, HE.out.2])
  clear HE
  refine Gro3.wp_region_gro3S (fun w' => w'.heap[qHM]? = some (.cells #[.int .u32 (W32 (s.1)), .int .u32 (W32 (s.2.1)), .int .u32 (W32 (s.2.2.1)), .int .u32 (W32 (s.2.2.2))] 52 (0, 0)) ∧ New w10 w') (fun w' => w'.heap[qHM]? = some (.cells #[.int .u32 (W32 (s.1)), .int .u32 (W32 (s.2.1)), .int .u32 (W32 (s.2.2.1)), .int .u32 (W32 (s.2.2.2))] 52 (0, 0)) ∧ New w10 w') [0,0,0,0,0,0,0,0,0,0] New (fun _ _ _ => True) (by kernel_rfl) (by kernel_rfl) (by kernel_rfl) (fun _ _ _ _ _ _ => trivial) (fun w' hw' => hw') (⟨HM.out, (New.refl _).drew⟩) ?_
  intro I J _ _ f g hfa hba hgb hbb
  have HFA := Lib.hid hfa
  have HBA := Lib.hid hba
  have HGB := Lib.hid hgb
  have HBB := Lib.hid hbb
  have fs0 := fun n => cell_of_row _ _ 0 _ _ _ (hgb n).1
  have fs1 := fun n => cell_of_row _ _ 1 _ _ _ (hgb n).1
  have fs2 := fun n => cell_of_row _ _ 2 _ _ _ (hgb n).1
  have fs3 := fun n => cell_of_row _ _ 3 _ _ _ (hgb n).1
  clear hfa hba hgb hbb
  refine Gro3.take0 1 (by kernel_rfl) ?_
  simp only [List.take, List.drop, List.length]
  repeat (go_big_quiet_step (fail))
  refine wpQuiet_nil ?_
  refine Gro3.mvskips (.tmp 16) (.bool false) 6 rfl rfl rfl rfl (by kernel_rfl) (fun A1 hA => ?_)
  simp [Act.put, Gro3.skipTo] at hA
  subst hA
  simp only [List.drop]
  refine Gro3.take0 2 (by kernel_rfl) ?_
  simp only [List.take, List.drop, List.length]
  repeat (go_big_quiet_step (fail))
  refine wpQuiet_nil ?_
  refine Gro3.nil ?_
  rintro w11 ⟨n9, rfl⟩ hG
  have HNZ := Lib.hid (HN.out.trans (HGB.out n9).2)
  clear HFA HBA HGB HBB fs0 fs1 fs2 fs3 hG HN HM
  generalize g n9 = w11 at *
  go_wp2
  go_ret
  exact ⟨rfl, HNZ.out⟩
set_option maxRecDepth 100000 in
set_option maxHeartbeats 2000000 in
theorem hset_n_30 (kd : Nat × Nat) (v2 v3 : Value) (s : BitVec 32 × BitVec 32 × BitVec 32 × BitVec 32) (w : World) : Calls Try.prog 18 #[.pointer none, .agg #[.int .u64 (W64 ((s).1.setWidth 64)), .int .u64 (W64 ((s).2.1.setWidth 64)), .int .u64 (W64 ((s).2.2.1.setWidth 64)), .int .u64 (W64 ((s).2.2.2.setWidth 64))], v2, v3] w fun e w' => e = .returned (.bool false) ∧ New w w' := by
  have HNR := Lib.hid (narrowed_30s (s.1.setWidth 64, s.2.1.setWidth 64, s.2.2.1.setWidth 64, s.2.2.2.setWidth 64))
  rw [rgt_low30, low_low30] at HNR
  have HO := Lib.hid (heap_alloc_new w (.cells #[.int .u64 (W64 ((s).1.setWidth 64)), .int .u64 (W64 ((s).2.1.setWidth 64)), .int .u64 (W64 ((s).2.2.1.setWidth 64)), .int .u64 (W64 ((s).2.2.2.setWidth 64))] 38))
  have HN := Lib.hid ((New.refl w).alloc (.cells #[.int .u64 (W64 ((s).1.setWidth 64)), .int .u64 (W64 ((s).2.1.setWidth 64)), .int .u64 (W64 ((s).2.2.1.setWidth 64)), .int .u64 (W64 ((s).2.2.2.setWidth 64))] 38))
  have c0 := cell_of_row _ _ 0 _ _ _ HO.out
  have c1 := cell_of_row _ _ 1 _ _ _ HO.out
  have c2 := cell_of_row _ _ 2 _ _ _ HO.out
  have c3 := cell_of_row _ _ 3 _ _ _ HO.out
  go_enter Try.func18, Try.ntmps18
  go_wp2_with fail
  refine (HNR.out _).mono ?_
  rintro e w9 ⟨rfl, hn⟩
  replace HN := Lib.hid (HN.out.trans hn)
  clear hn c0 c1 c2 c3 HO HNR
  have hx := heap_alloc_new w9 (.cells #[.int .u32 (W32 (s.1)), .int .u32 (W32 (s.2.1)), .int .u32 (W32 (s.2.2.1)), .int .u32 (W32 (s.2.2.2))] 52)
  have hn2 := (New.refl w9).alloc (.cells #[.int .u32 (W32 (s.1)), .int .u32 (W32 (s.2.1)), .int .u32 (W32 (s.2.2.1)), .int .u32 (W32 (s.2.2.2))] 52)
  obtain ⟨qHM, hq⟩ : ∃ q, w9.heap.size = q := ⟨_, rfl⟩
  have hle := HN.out.le
  rw [hq] at hx hle
  have hw0 := And.intro (rfl : w9.alloc (.cells #[.int .u32 (W32 (s.1)), .int .u32 (W32 (s.2.1)), .int .u32 (W32 (s.2.2.1)), .int .u32 (W32 (s.2.2.2))] 52) = w9.alloc (.cells #[.int .u32 (W32 (s.1)), .int .u32 (W32 (s.2.1)), .int .u32 (W32 (s.2.2.1)), .int .u32 (W32 (s.2.2.2))] 52)) hq
  generalize hw2 : w9.alloc (.cells #[.int .u32 (W32 (s.1)), .int .u32 (W32 (s.2.1)), .int .u32 (W32 (s.2.2.1)), .int .u32 (W32 (s.2.2.2))] 52) = w10 at hx hn2 hw0
  have HE := Lib.hid (show w9.alloc (.cells #[.int .u32 (W32 (s.1)), .int .u32 (W32 (s.2.1)), .int .u32 (W32 (s.2.2.1)), .int .u32 (W32 (s.2.2.2))] 52) = w10 ∧ w9.heap.size = qHM from ⟨hw2, hq⟩)
  clear hw0 hw2
  replace HN := Lib.hid (HN.out.trans hn2)
  have HM := Lib.hid hx
  have HLHM := Lib.hid hle
  clear hx hn2 hq hle
  go_wp2_with (rw [HE.out.1, HE.out.2])
  clear HE
  refine Gro3.wp_region_gro3S (fun w' => w'.heap[qHM]? = some (.cells #[.int .u32 (W32 (s.1)), .int .u32 (W32 (s.2.1)), .int .u32 (W32 (s.2.2.1)), .int .u32 (W32 (s.2.2.2))] 52 (0, 0)) ∧ New w10 w') (fun w' => w'.heap[qHM]? = some (.cells #[.int .u32 (W32 (s.1)), .int .u32 (W32 (s.2.1)), .int .u32 (W32 (s.2.2.1)), .int .u32 (W32 (s.2.2.2))] 52 (0, 0)) ∧ New w10 w') [0,0,0,2,1,0,0,2,0,0] New (fun _ _ _ => True) (by kernel_rfl) (by kernel_rfl) (by kernel_rfl) (fun _ _ _ _ _ _ => trivial) (fun w' hw' => hw') (⟨HM.out, (New.refl _).drew⟩) ?_
  intro I J _ _ f g hfa hba hgb hbb
  have HFA := Lib.hid hfa
  have HBA := Lib.hid hba
  have HGB := Lib.hid hgb
  have HBB := Lib.hid hbb
  have fs0 := fun n => cell_of_row _ _ 0 _ _ _ (hgb n).1
  have fs1 := fun n => cell_of_row _ _ 1 _ _ _ (hgb n).1
  have fs2 := fun n => cell_of_row _ _ 2 _ _ _ (hgb n).1
  have fs3 := fun n => cell_of_row _ _ 3 _ _ _ (hgb n).1
  clear hfa hba hgb hbb
  refine Gro3.take0 3 (by kernel_rfl) ?_
  simp only [List.take, List.drop, List.length]
  repeat (go_big_quiet_step (fail))
  refine wpQuiet_nil ?_
  refine Gro3.callt (fun v => v = .pointer none) (fun _ _ => True) rfl rfl (⟨_, rfl⟩) (fun _ _ _ _ _ => trivial) (fun w1 hB hG => ?_) (fun v1 A1 hv1 hA => ?_)
  · obtain ⟨nq, rfl⟩ := hB
    clear fs0 fs1 fs2 fs3
    go_simp
    refine (content_n_30 kd _).mono ?_
    rintro e w2 ⟨rfl, rfl⟩
    first | exact ⟨_, rfl, ⟨nq, rfl⟩, New.refl _, rfl⟩ | exact ⟨_, rfl, ⟨nq, rfl⟩, New.refl _, rfl, trivial⟩ | exact ⟨⟨nq, rfl⟩, New.refl _⟩
  simp [Act.put] at hA
  subst hA
  obtain rfl := hv1
  refine Gro3.take1 1 (by kernel_rfl) ?_
  simp only [List.take, List.drop, List.length]
  repeat (go_big_quiet_step (fail))
  refine wpQuiet_nil ?_
  refine Gro3.take0 2 (by kernel_rfl) ?_
  simp only [List.take, List.drop, List.length]
  repeat (go_big_quiet_step (fail))
  refine wpQuiet_nil ?_
  refine Gro3.callt (fun v => v = .bool false) (fun _ _ => True) rfl rfl (⟨_, rfl⟩) (fun _ _ _ _ _ => trivial) (fun w1 hB hG => ?_) (fun v2 A2 hv2 hA => ?_)
  · obtain ⟨nq, rfl⟩ := hB
    clear fs0 fs1 fs2 fs3
    go_simp
    refine (set_n_30 kd s _ _ _).mono ?_
    rintro e w2 ⟨rfl, hn⟩
    have HX := HBB.out _ ⟨(hn.block _ (lt_of_block (HGB.out nq).1)).trans (HGB.out nq).1, (HGB.out nq).2.trans hn⟩
    first | exact ⟨_, rfl, HX, hn, rfl⟩ | exact ⟨_, rfl, HX, hn, rfl, trivial⟩ | exact ⟨rfl, HX, hn⟩ | exact ⟨HX, hn, rfl⟩ | exact ⟨HX, hn⟩
  simp [Act.put] at hA
  subst hA
  obtain rfl := hv2
  refine Gro3.take0 2 (by kernel_rfl) ?_
  simp only [List.take, List.drop, List.length]
  repeat (go_big_quiet_step (fail))
  refine wpQuiet_nil ?_
  refine Gro3.nil ?_
  rintro w11 ⟨n9, rfl⟩ hG
  have HNZ := Lib.hid (HN.out.trans (HGB.out n9).2)
  clear HFA HBA HGB HBB fs0 fs1 fs2 fs3 hG HN HM
  generalize g n9 = w11 at *
  go_wp2
  go_ret
  exact ⟨rfl, HNZ.out⟩
set_option maxRecDepth 100000 in
set_option maxHeartbeats 2000000 in
theorem hset_unfit_30 (kd : Nat × Nat) (p h : Nat) (fs st : BitVec 32 × BitVec 32 × BitVec 32 × BitVec 32) (tl : List (BitVec 8)) (long : BitVec 64) (s : BitVec 32 × BitVec 32 × BitVec 32 × BitVec 32) (long2 : BitVec 64) (b : Option Addr) (lb cb : Nat) (m : List (BitVec 8)) (w : World) (hx : w.heap[h]? = some (.cells #[.pointer (some ⟨p, 0, none⟩)] 62 (0, 0))) (hs : Strm_30 kd w p 16 fs st tl long) (hm : BRow w b lb cb m) (hfit : (BitVec.ofNat 64 lb != long2 % 16#64) = true) :
    Calls Try.prog 18 #[.pointer (some ⟨h, 0, none⟩), .agg #[.int .u64 (W64 ((s).1.setWidth 64)), .int .u64 (W64 ((s).2.1.setWidth 64)), .int .u64 (W64 ((s).2.2.1.setWidth 64)), .int .u64 (W64 ((s).2.2.2.setWidth 64))], .int .u64 (W64 long2), .slice b lb cb] w fun e w' => e = .returned (.bool false) ∧ New w w' := by
  have HC := Lib.hid (fun w' (hn : New w w') => content_30 kd p h w' ((hn.block _ (lt_of_block hx)).trans hx))
  have HSY := Lib.hid (fun w' (hn : New w w') => setn_30 kd p fs st tl long s long2 b lb cb m w' (hs.stay hn) (hm.stay hn) hfit)
  have HNR := Lib.hid (narrowed_30s (s.1.setWidth 64, s.2.1.setWidth 64, s.2.2.1.setWidth 64, s.2.2.2.setWidth 64))
  rw [rgt_low30, low_low30] at HNR
  clear hx hs hm hfit
  have HO := Lib.hid (heap_alloc_new w (.cells #[.int .u64 (W64 ((s).1.setWidth 64)), .int .u64 (W64 ((s).2.1.setWidth 64)), .int .u64 (W64 ((s).2.2.1.setWidth 64)), .int .u64 (W64 ((s).2.2.2.setWidth 64))] 38))
  have HN := Lib.hid ((New.refl w).alloc (.cells #[.int .u64 (W64 ((s).1.setWidth 64)), .int .u64 (W64 ((s).2.1.setWidth 64)), .int .u64 (W64 ((s).2.2.1.setWidth 64)), .int .u64 (W64 ((s).2.2.2.setWidth 64))] 38))
  have c0 := cell_of_row _ _ 0 _ _ _ HO.out
  have c1 := cell_of_row _ _ 1 _ _ _ HO.out
  have c2 := cell_of_row _ _ 2 _ _ _ HO.out
  have c3 := cell_of_row _ _ 3 _ _ _ HO.out
  go_enter Try.func18, Try.ntmps18
  go_wp2_with fail
  refine (HNR.out _).mono ?_
  rintro e w9 ⟨rfl, hn⟩
  replace HN := Lib.hid (HN.out.trans hn)
  clear hn c0 c1 c2 c3 HO HNR
  have hx := heap_alloc_new w9 (.cells #[.int .u32 (W32 (s.1)), .int .u32 (W32 (s.2.1)), .int .u32 (W32 (s.2.2.1)), .int .u32 (W32 (s.2.2.2))] 52)
  have hn2 := (New.refl w9).alloc (.cells #[.int .u32 (W32 (s.1)), .int .u32 (W32 (s.2.1)), .int .u32 (W32 (s.2.2.1)), .int .u32 (W32 (s.2.2.2))] 52)
  obtain ⟨qHM, hq⟩ : ∃ q, w9.heap.size = q := ⟨_, rfl⟩
  have hle := HN.out.le
  rw [hq] at hx hle
  have hw0 := And.intro (rfl : w9.alloc (.cells #[.int .u32 (W32 (s.1)), .int .u32 (W32 (s.2.1)), .int .u32 (W32 (s.2.2.1)), .int .u32 (W32 (s.2.2.2))] 52) = w9.alloc (.cells #[.int .u32 (W32 (s.1)), .int .u32 (W32 (s.2.1)), .int .u32 (W32 (s.2.2.1)), .int .u32 (W32 (s.2.2.2))] 52)) hq
  generalize hw2 : w9.alloc (.cells #[.int .u32 (W32 (s.1)), .int .u32 (W32 (s.2.1)), .int .u32 (W32 (s.2.2.1)), .int .u32 (W32 (s.2.2.2))] 52) = w10 at hx hn2 hw0
  have HE := Lib.hid (show w9.alloc (.cells #[.int .u32 (W32 (s.1)), .int .u32 (W32 (s.2.1)), .int .u32 (W32 (s.2.2.1)), .int .u32 (W32 (s.2.2.2))] 52) = w10 ∧ w9.heap.size = qHM from ⟨hw2, hq⟩)
  clear hw0 hw2
  replace HN := Lib.hid (HN.out.trans hn2)
  have HM := Lib.hid hx
  have HLHM := Lib.hid hle
  clear hx hn2 hq hle
  go_wp2_with (rw [HE.out.1, HE.out.2])
  clear HE
  refine Gro3.wp_region_gro3S (fun w' => w'.heap[qHM]? = some (.cells #[.int .u32 (W32 (s.1)), .int .u32 (W32 (s.2.1)), .int .u32 (W32 (s.2.2.1)), .int .u32 (W32 (s.2.2.2))] 52 (0, 0)) ∧ New w10 w') (fun w' => w'.heap[qHM]? = some (.cells #[.int .u32 (W32 (s.1)), .int .u32 (W32 (s.2.1)), .int .u32 (W32 (s.2.2.1)), .int .u32 (W32 (s.2.2.2))] 52 (0, 0)) ∧ New w10 w') [0,0,0,2,1,0,0,2,0,0] New (fun _ _ _ => True) (by kernel_rfl) (by kernel_rfl) (by kernel_rfl) (fun _ _ _ _ _ _ => trivial) (fun w' hw' => hw') (⟨HM.out, (New.refl _).drew⟩) ?_
  intro I J _ _ f g hfa hba hgb hbb
  have HFA := Lib.hid hfa
  have HBA := Lib.hid hba
  have HGB := Lib.hid hgb
  have HBB := Lib.hid hbb
  have fs0 := fun n => cell_of_row _ _ 0 _ _ _ (hgb n).1
  have fs1 := fun n => cell_of_row _ _ 1 _ _ _ (hgb n).1
  have fs2 := fun n => cell_of_row _ _ 2 _ _ _ (hgb n).1
  have fs3 := fun n => cell_of_row _ _ 3 _ _ _ (hgb n).1
  clear hfa hba hgb hbb
  refine Gro3.take0 3 (by kernel_rfl) ?_
  simp only [List.take, List.drop, List.length]
  repeat (go_big_quiet_step (fail))
  refine wpQuiet_nil ?_
  refine Gro3.callt (fun v => v = .pointer (some ⟨p, 0, none⟩)) (fun _ _ => True) rfl rfl (⟨_, rfl⟩) (fun _ _ _ _ _ => trivial) (fun w1 hB hG => ?_) (fun v1 A1 hv1 hA => ?_)
  · obtain ⟨nq, rfl⟩ := hB
    clear fs0 fs1 fs2 fs3
    go_simp
    refine (HC.out _ (HN.out.trans (HGB.out nq).2)).mono ?_
    rintro e w2 ⟨rfl, rfl⟩
    first | exact ⟨_, rfl, ⟨nq, rfl⟩, New.refl _, rfl⟩ | exact ⟨_, rfl, ⟨nq, rfl⟩, New.refl _, rfl, trivial⟩ | exact ⟨⟨nq, rfl⟩, New.refl _⟩
  simp [Act.put] at hA
  subst hA
  obtain rfl := hv1
  refine Gro3.take1 1 (by kernel_rfl) ?_
  simp only [List.take, List.drop, List.length]
  repeat (go_big_quiet_step (fail))
  refine wpQuiet_nil ?_
  refine Gro3.take0 2 (by kernel_rfl) ?_
  simp only [List.take, List.drop, List.length]
  repeat (go_big_quiet_step (fail))
  refine wpQuiet_nil ?_
  refine Gro3.callt (fun v => v = .bool false) (fun _ _ => True) rfl rfl (⟨_, rfl⟩) (fun _ _ _ _ _ => trivial) (fun w1 hB hG => ?_) (fun v2 A2 hv2 hA => ?_)
  · obtain ⟨nq, rfl⟩ := hB
    clear fs0 fs1 fs2 fs3
    go_simp
    refine (HSY.out _ (HN.out.trans (HGB.out nq).2)).mono ?_
    rintro e w2 ⟨rfl, hn⟩
    have HX := HBB.out _ ⟨(hn.block _ (lt_of_block (HGB.out nq).1)).trans (HGB.out nq).1, (HGB.out nq).2.trans hn⟩
    first | exact ⟨_, rfl, HX, hn, rfl⟩ | exact ⟨_, rfl, HX, hn, rfl, trivial⟩ | exact ⟨rfl, HX, hn⟩ | exact ⟨HX, hn, rfl⟩ | exact ⟨HX, hn⟩
  simp [Act.put] at hA
  subst hA
  obtain rfl := hv2
  refine Gro3.take0 2 (by kernel_rfl) ?_
  simp only [List.take, List.drop, List.length]
  repeat (go_big_quiet_step (fail))
  refine wpQuiet_nil ?_
  refine Gro3.nil ?_
  rintro w11 ⟨n9, rfl⟩ hG
  have HNZ := Lib.hid (HN.out.trans (HGB.out n9).2)
  clear HFA HBA HGB HBB fs0 fs1 fs2 fs3 hG HN HM
  generalize g n9 = w11 at *
  go_wp2
  go_ret
  exact ⟨rfl, HNZ.out⟩
set_option maxRecDepth 100000 in
set_option maxHeartbeats 2000000 in
theorem hset_fit_30 (kd : Nat × Nat) (p h : Nat) (fs st : BitVec 32 × BitVec 32 × BitVec 32 × BitVec 32) (tl : List (BitVec 8)) (long : BitVec 64) (s : BitVec 32 × BitVec 32 × BitVec 32 × BitVec 32) (long2 : BitVec 64) (b : Option Addr) (lb cb : Nat) (m : List (BitVec 8)) (w : World) (hx : w.heap[h]? = some (.cells #[.pointer (some ⟨p, 0, none⟩)] 62 (0, 0))) (hs : Strm_30 kd w p 16 fs st tl long) (hm : BRow w b lb cb m) (hfit : (BitVec.ofNat 64 lb != long2 % 16#64) = false) :
    Calls Try.prog 18 #[.pointer (some ⟨h, 0, none⟩), .agg #[.int .u64 (W64 ((s).1.setWidth 64)), .int .u64 (W64 ((s).2.1.setWidth 64)), .int .u64 (W64 ((s).2.2.1.setWidth 64)), .int .u64 (W64 ((s).2.2.2.setWidth 64))], .int .u64 (W64 long2), .slice b lb cb] w fun e w' => e = .returned (.bool true) ∧ Strm_30 kd w' p 16 fs s m long2 ∧ But p w w' := by
  have HC := Lib.hid (fun w' (hn : New w w') => content_30 kd p h w' ((hn.block _ (lt_of_block hx)).trans hx))
  have HSY := Lib.hid (fun w' (hn : New w w') => sety_30 kd p fs st tl long s long2 b lb cb m w' (hs.stay hn) (hm.stay hn) hfit)
  have HNR := Lib.hid (narrowed_30s (s.1.setWidth 64, s.2.1.setWidth 64, s.2.2.1.setWidth 64, s.2.2.2.setWidth 64))
  rw [rgt_low30, low_low30] at HNR
  clear hx hs hm hfit
  have HO := Lib.hid (heap_alloc_new w (.cells #[.int .u64 (W64 ((s).1.setWidth 64)), .int .u64 (W64 ((s).2.1.setWidth 64)), .int .u64 (W64 ((s).2.2.1.setWidth 64)), .int .u64 (W64 ((s).2.2.2.setWidth 64))] 38))
  have HN := Lib.hid ((New.refl w).alloc (.cells #[.int .u64 (W64 ((s).1.setWidth 64)), .int .u64 (W64 ((s).2.1.setWidth 64)), .int .u64 (W64 ((s).2.2.1.setWidth 64)), .int .u64 (W64 ((s).2.2.2.setWidth 64))] 38))
  have c0 := cell_of_row _ _ 0 _ _ _ HO.out
  have c1 := cell_of_row _ _ 1 _ _ _ HO.out
  have c2 := cell_of_row _ _ 2 _ _ _ HO.out
  have c3 := cell_of_row _ _ 3 _ _ _ HO.out
  go_enter Try.func18, Try.ntmps18
  go_wp2_with fail
  refine (HNR.out _).mono ?_
  rintro e w9 ⟨rfl, hn⟩
  replace HN := Lib.hid (HN.out.trans hn)
  clear hn c0 c1 c2 c3 HO HNR
  have hx := heap_alloc_new w9 (.cells #[.int .u32 (W32 (s.1)), .int .u32 (W32 (s.2.1)), .int .u32 (W32 (s.2.2.1)), .int .u32 (W32 (s.2.2.2))] 52)
  have hn2 := (New.refl w9).alloc (.cells #[.int .u32 (W32 (s.1)), .int .u32 (W32 (s.2.1)), .int .u32 (W32 (s.2.2.1)), .int .u32 (W32 (s.2.2.2))] 52)
  obtain ⟨qHM, hq⟩ : ∃ q, w9.heap.size = q := ⟨_, rfl⟩
  have hle := HN.out.le
  rw [hq] at hx hle
  have hw0 := And.intro (rfl : w9.alloc (.cells #[.int .u32 (W32 (s.1)), .int .u32 (W32 (s.2.1)), .int .u32 (W32 (s.2.2.1)), .int .u32 (W32 (s.2.2.2))] 52) = w9.alloc (.cells #[.int .u32 (W32 (s.1)), .int .u32 (W32 (s.2.1)), .int .u32 (W32 (s.2.2.1)), .int .u32 (W32 (s.2.2.2))] 52)) hq
  generalize hw2 : w9.alloc (.cells #[.int .u32 (W32 (s.1)), .int .u32 (W32 (s.2.1)), .int .u32 (W32 (s.2.2.1)), .int .u32 (W32 (s.2.2.2))] 52) = w10 at hx hn2 hw0
  have HE := Lib.hid (show w9.alloc (.cells #[.int .u32 (W32 (s.1)), .int .u32 (W32 (s.2.1)), .int .u32 (W32 (s.2.2.1)), .int .u32 (W32 (s.2.2.2))] 52) = w10 ∧ w9.heap.size = qHM from ⟨hw2, hq⟩)
  clear hw0 hw2
  replace HN := Lib.hid (HN.out.trans hn2)
  have HM := Lib.hid hx
  have HLHM := Lib.hid hle
  clear hx hn2 hq hle
  go_wp2_with (rw [HE.out.1, HE.out.2])
  clear HE
  refine Gro3.wp_region_gro3S (fun w' => But p w w') (fun w' => w'.heap[qHM]? = some (.cells #[.int .u32 (W32 (s.1)), .int .u32 (W32 (s.2.1)), .int .u32 (W32 (s.2.2.1)), .int .u32 (W32 (s.2.2.2))] 52 (0, 0)) ∧ New w10 w') [0,0,0,2,1,0,0,3,0,0] New (fun _ _ _ => True) (by kernel_rfl) (by kernel_rfl) (by kernel_rfl) (fun _ _ _ _ _ _ => trivial) (fun w' hw' => But.of_new (HN.out.trans hw'.2)) (⟨HM.out, (New.refl _).drew⟩) ?_
  intro I J _ _ f g hfa hba hgb hbb
  have HFA := Lib.hid hfa
  have HBA := Lib.hid hba
  have HGB := Lib.hid hgb
  have HBB := Lib.hid hbb
  have fs0 := fun n => cell_of_row _ _ 0 _ _ _ (hgb n).1
  have fs1 := fun n => cell_of_row _ _ 1 _ _ _ (hgb n).1
  have fs2 := fun n => cell_of_row _ _ 2 _ _ _ (hgb n).1
  have fs3 := fun n => cell_of_row _ _ 3 _ _ _ (hgb n).1
  clear hfa hba hgb hbb
  refine Gro3.take0 3 (by kernel_rfl) ?_
  simp only [List.take, List.drop, List.length]
  repeat (go_big_quiet_step (fail))
  refine wpQuiet_nil ?_
  refine Gro3.callt (fun v => v = .pointer (some ⟨p, 0, none⟩)) (fun _ _ => True) rfl rfl (⟨_, rfl⟩) (fun _ _ _ _ _ => trivial) (fun w1 hB hG => ?_) (fun v1 A1 hv1 hA => ?_)
  · obtain ⟨nq, rfl⟩ := hB
    clear fs0 fs1 fs2 fs3
    go_simp
    refine (HC.out _ (HN.out.trans (HGB.out nq).2)).mono ?_
    rintro e w2 ⟨rfl, rfl⟩
    first | exact ⟨_, rfl, ⟨nq, rfl⟩, New.refl _, rfl⟩ | exact ⟨_, rfl, ⟨nq, rfl⟩, New.refl _, rfl, trivial⟩ | exact ⟨⟨nq, rfl⟩, New.refl _⟩
  simp [Act.put] at hA
  subst hA
  obtain rfl := hv1
  refine Gro3.take1 1 (by kernel_rfl) ?_
  simp only [List.take, List.drop, List.length]
  repeat (go_big_quiet_step (fail))
  refine wpQuiet_nil ?_
  refine Gro3.take0 2 (by kernel_rfl) ?_
  simp only [List.take, List.drop, List.length]
  repeat (go_big_quiet_step (fail))
  refine wpQuiet_nil ?_
  refine Gro3.turn (fun v => v = .bool true) (fun _ w9 => Strm_30 kd w9 p 16 fs s m long2 ∧ But p w w9) rfl rfl ⟨_, rfl⟩ (fun w1 hB hG => ?_) (fun v2 A2 hv2 hA => ?_)
  · obtain ⟨nq, rfl⟩ : ∃ nq, w1 = g nq := hB
    clear fs0 fs1 fs2 fs3
    go_simp
    refine (HSY.out _ (HN.out.trans (HGB.out nq).2)).mono ?_
    rintro e w2 ⟨rfl, hs, hb⟩
    have hbb := But.trans (But.of_new (HN.out.trans (HGB.out nq).2)) hb
    have HX := HBA.out _ hbb
    first | exact ⟨_, rfl, HX, rfl, hs, hbb⟩ | exact ⟨_, rfl, HX, hs, hbb⟩ | exact ⟨HX, rfl, hs, hbb⟩ | exact ⟨HX, hs, hbb⟩
  simp [Act.put] at hA
  subst hA
  obtain rfl := hv2
  refine Gro3.take0 2 (by kernel_rfl) ?_
  simp only [List.take, List.drop, List.length]
  repeat (go_big_quiet_step (fail))
  refine wpQuiet_nil ?_
  refine Gro3.nil ?_
  rintro w11 ⟨n9, rfl⟩ hG
  have HG := Lib.hid (show Strm_30 kd (f n9) p 16 fs s m long2 ∧ But p w (f n9) from hG)
  clear HFA HBA HGB HBB fs0 fs1 fs2 fs3 hG
  generalize f n9 = w11 at *
  go_wp2
  go_ret
  exact ⟨rfl, HG.out.1, HG.out.2⟩
end Go.Proofs.Ytnapogamcohfaaa
