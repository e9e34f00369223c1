/- Layer 34: word, a block, start, what a kind is. -/
import Derived.Test.YtoplabhoedloeaaM34A
import Derived.Test.YtoplabhoedloeaaHshE
import Derived.Defers
import Derived.Recover
import Derived.Laws.Pointers
import Derived.Handy
import Derived.Laws.EntriesVeiled
namespace Go.Proofs.Ytoplabhoedloeaa
open Go.RowKit Go.Bv
set_option linter.unusedVariables false
theorem three_all34 (w : World) (A B C : Obj) : (((w.alloc A).alloc B).alloc C).heap[w.heap.size]? = some A ∧ (((w.alloc A).alloc B).alloc C).heap[w.heap.size + 1]? = some B ∧ (((w.alloc A).alloc B).alloc C).heap[w.heap.size + 1 + 1]? = some C ∧ New w (((w.alloc A).alloc B).alloc C) := by
  have h := two_blocks w A B
  have e2 : ((w.alloc A).alloc B).heap.size = w.heap.size + 1 + 1 := by simp
  refine ⟨?_, ?_, ?_, h.2.2.alloc _⟩
  · rw [((New.refl ((w.alloc A).alloc B)).alloc C).block _ (by rw [e2]; omega)]; exact h.1
  · rw [((New.refl ((w.alloc A).alloc B)).alloc C).block _ (by rw [e2]; omega)]; exact h.2.1
  · rw [← e2]; exact heap_alloc_new _ _
theorem joined_34s (s : BitVec 64 × BitVec 64 × BitVec 64 × BitVec 64) (w : World) : Calls Try.prog 41 #[.agg #[.int .u64 (W64 (s.1)), .int .u64 (W64 (s.2.1)), .int .u64 (W64 (s.2.2.1)), .int .u64 (W64 (s.2.2.2))]] w fun e w' => e = .returned (.int .u64 (W64 (xor34 s))) ∧ New w w' := by
  unfold xor34
  go_enter Try.func41, Try.ntmps41
  go_wp2
  go_ret
  exact ⟨rfl, (New.refl w).alloc _⟩
set_option maxRecDepth 100000 in
set_option maxHeartbeats 4000000 in
theorem word_34s (kd : Nat × Nat × Bool) (hk : kd.1 ≤ 100) (s : BitVec 64 × BitVec 64 × BitVec 64 × BitVec 64) (m : BitVec 64) (w : World) : Calls Try.prog 39 #[(.agg #[.int .i64 (kd.1 : Nat), .int .i64 (kd.2.1 : Nat), .bool kd.2.2]), .agg #[.int .u64 (W64 (s.1)), .int .u64 (W64 (s.2.1)), .int .u64 (W64 (s.2.2.1)), .int .u64 (W64 (s.2.2.2))], .int .u64 (W64 m)] w fun e w' => e = .returned (.agg #[.int .u64 (W64 ((word34 kd.1 s m).1)), .int .u64 (W64 ((word34 kd.1 s m).2.1)), .int .u64 (W64 ((word34 kd.1 s m).2.2.1)), .int .u64 (W64 ((word34 kd.1 s m).2.2.2))]) ∧ New w w' := by
  obtain ⟨s0, s1, s2, s3⟩ := s
  unfold word34 lst34 fst34
  simp only
  have HR := Lib.hid (rounds_34s (s0, s1, s2, s3 ^^^ m) kd.1 hk)
  obtain ⟨⟨t0, t1, t2, t3⟩, ht⟩ : ∃ z, itr34 kd.1 (s0, s1, s2, s3 ^^^ m) = z := ⟨_, rfl⟩
  rw [ht] at HR
  rw [ht]
  clear ht
  simp only
  have HZ := Lib.hid (three_all34 w (.cells #[.int .i64 (kd.1 : Nat), .int .i64 (kd.2.1 : Nat), .bool kd.2.2] 54) (.cells #[.int .u64 (W64 s0), .int .u64 (W64 s1), .int .u64 (W64 s2), .int .u64 (W64 (s3 ^^^ m))] 58) (.cells #[.int .u64 0, .int .u64 0, .int .u64 0, .int .u64 0] 58))
  go_enter Try.func39, Try.ntmps39
  go_wp2_with fail
  refine (HR.out _).mono ?_
  rintro e w9 ⟨rfl, hn⟩
  have HA := Lib.hid ((hn.block _ (lt_of_block HZ.out.2.1)).trans HZ.out.2.1)
  have HO := Lib.hid ((hn.block _ (lt_of_block HZ.out.2.2.1)).trans HZ.out.2.2.1)
  have HN := Lib.hid (HZ.out.2.2.2.trans hn)
  clear hn HZ HR
  have c0 := cell_of_row _ _ 0 _ _ _ HA.out
  have c1 := cell_of_row _ _ 1 _ _ _ HA.out
  have c2 := cell_of_row _ _ 2 _ _ _ HA.out
  have c3 := cell_of_row _ _ 3 _ _ _ HA.out
  have cf := fun i => frozen_of_row _ _ i _ _ HA.out
  go_simp
  first | go_skip | go_guarded | go_step | go_upon | go_in | go_back
  first | go_skip | go_guarded | go_step | go_upon | go_in | go_back
  first | go_skip | go_guarded | go_step | go_upon | go_in | go_back
  first | go_skip | go_guarded | go_step | go_upon | go_in | go_back
  first | go_skip | go_guarded | go_step | go_upon | go_in | go_back
  first | go_skip | go_guarded | go_step | go_upon | go_in | go_back
  first | go_skip | go_guarded | go_step | go_upon | go_in | go_back
  first | go_skip | go_guarded | go_step | go_upon | go_in | go_back
  have hp := put4h (.int .u64 (W64 t0)) (.int .u64 (W64 t1)) (.int .u64 (W64 t2)) (.int .u64 (W64 t3)) HA.out
  replace HO := Lib.hid ((hp.2.1 _ (by omega)).trans HO.out)
  replace HN := Lib.hid (hp.2.2 _ HN.out (by omega))
  have HA2 := Lib.hid hp.1
  clear hp HA c0 c1 c2 c3 cf
  generalize World.setCell (World.setCell (World.setCell (World.setCell w9 ⟨w.heap.size + 1, 0, none⟩ (.int .u64 (W64 t0))) ⟨w.heap.size + 1, 1, none⟩ (.int .u64 (W64 t1))) ⟨w.heap.size + 1, 2, none⟩ (.int .u64 (W64 t2))) ⟨w.heap.size + 1, 3, none⟩ (.int .u64 (W64 t3)) = w8 at *
  have c0 := cell_of_row _ _ 0 _ _ _ HA2.out
  have c1 := cell_of_row _ _ 1 _ _ _ HA2.out
  have c2 := cell_of_row _ _ 2 _ _ _ HA2.out
  have c3 := cell_of_row _ _ 3 _ _ _ HA2.out
  have cf := fun i => frozen_of_row _ _ i _ _ HA2.out
  first | go_skip | go_guarded | go_step | go_upon | go_in | go_back
  first | go_skip | go_guarded | go_step | go_upon | go_in | go_back
  first | go_skip | go_guarded | go_step | go_upon | go_in | go_back
  first | go_skip | go_guarded | go_step | go_upon | go_in | go_back
  first | go_skip | go_guarded | go_step | go_upon | go_in | go_back
  first | go_skip | go_guarded | go_step | go_upon | go_in | go_back
  first | go_skip | go_guarded | go_step | go_upon | go_in | go_back
  first | go_skip | go_guarded | go_step | go_upon | go_in | go_back
  first | go_skip | go_guarded | go_step | go_upon | go_in | go_back
  first | go_skip | go_guarded | go_step | go_upon | go_in | go_back
  first | go_skip | go_guarded | go_step | go_upon | go_in | go_back
  first | go_skip | go_guarded | go_step | go_upon | go_in | go_back
  first | go_skip | go_guarded | go_step | go_upon | go_in | go_back
  first | go_skip | go_guarded | go_step | go_upon | go_in | go_back
  first | go_skip | go_guarded | go_step | go_upon | go_in | go_back
  first | go_skip | go_guarded | go_step | go_upon | go_in | go_back
  first | go_skip | go_guarded | go_step | go_upon | go_in | go_back
  first | go_skip | go_guarded | go_step | go_upon | go_in | go_back
  replace HO := Lib.hid ((heap_setCell_other w8 ⟨w.heap.size + 1, 0, none⟩ (w.heap.size + 1 + 1) (.int .u64 (W64 (t0 ^^^ m))) (by show w.heap.size + 1 + 1 ≠ w.heap.size + 1; omega)).trans HO.out)
  replace HN := Lib.hid (HN.out.setCell (p := ⟨w.heap.size + 1, 0, none⟩) (by show w.heap.size ≤ w.heap.size + 1; omega) (.int .u64 (W64 (t0 ^^^ m))))
  have h3 := heap_setCell_same w8 (w.heap.size + 1) 0 _ _ (.int .u64 (W64 (t0 ^^^ m))) HA2.out
  clear c0 c1 c2 c3 cf HA2
  generalize World.setCell w8 ⟨w.heap.size + 1, 0, none⟩ (.int .u64 (W64 (t0 ^^^ m))) = w7 at *
  have HA3 := Lib.hid (show w7.heap[w.heap.size + 1]? = some (.cells #[.int .u64 (W64 (t0 ^^^ m)), .int .u64 (W64 t1), .int .u64 (W64 t2), .int .u64 (W64 t3)] 58 (0, 0)) from h3)
  clear h3
  have c0 := cell_of_row _ _ 0 _ _ _ HA3.out
  have c1 := cell_of_row _ _ 1 _ _ _ HA3.out
  have c2 := cell_of_row _ _ 2 _ _ _ HA3.out
  have c3 := cell_of_row _ _ 3 _ _ _ HA3.out
  have cf := fun i => frozen_of_row _ _ i _ _ HA3.out
  have z0 := cell_of_row _ _ 0 _ _ _ HO.out
  have z1 := cell_of_row _ _ 1 _ _ _ HO.out
  have z2 := cell_of_row _ _ 2 _ _ _ HO.out
  have z3 := cell_of_row _ _ 3 _ _ _ HO.out
  have zf := fun i => frozen_of_row _ _ i _ _ HO.out
  go_wp2
  refine bodyPost_ret (by simp [results, Try.results39, go_sem, z0, z1, z2, z3]; try rfl) rfl ?_
  exact ⟨rfl, ((((HN.out.setCell (by show w.heap.size ≤ w.heap.size + 1 + 1; omega) _).setCell (by show w.heap.size ≤ w.heap.size + 1 + 1; omega) _).setCell (by show w.heap.size ≤ w.heap.size + 1 + 1; omega) _).setCell (by show w.heap.size ≤ w.heap.size + 1 + 1; omega) _)⟩
theorem tail_first34 (l : List (BitVec 8)) (n : Nat) (h : l.length = n) : num (fun i => l.getD i 0) (min n 8) = rd l 0 8 := by
  have e : (fun i => l.getD i 0) = fun i => l.getD (0 + i) 0 := by funext i; rw [Nat.zero_add]
  unfold rd
  rw [e]
  refine (num_short (fun i => l.getD (0 + i) 0) (min n 8) 8 (by omega) (fun i h1 h2 => ?_)).symm
  · have : n ≤ i := by omega
    simp [List.getD_eq_getElem?_getD, List.getElem?_eq_none (show l.length ≤ i by omega)]
set_option maxRecDepth 100000 in
set_option maxHeartbeats 4000000 in
theorem step_34s (kd : Nat × Nat × Bool) (hk : kd.1 ≤ 100) (s : BitVec 64 × BitVec 64 × BitVec 64 × BitVec 64) (a : Option Addr) (cap : Nat) (l : List (BitVec 8)) (w : World) (h : BRow w a 8 cap l) : Calls Try.prog 28 #[(.agg #[.int .i64 (kd.1 : Nat), .int .i64 (kd.2.1 : Nat), .bool kd.2.2]), .agg #[.int .u64 (W64 (s.1)), .int .u64 (W64 (s.2.1)), .int .u64 (W64 (s.2.2.1)), .int .u64 (W64 (s.2.2.2))], .slice a 8 cap] w fun e w' => e = .returned (.agg #[.int .u64 (W64 ((stp34 kd s l).1)), .int .u64 (W64 ((stp34 kd s l).2.1)), .int .u64 (W64 ((stp34 kd s l).2.2.1)), .int .u64 (W64 ((stp34 kd s l).2.2.2))]) ∧ New w w' := by
  have HT := Lib.hid (fun w' (hn : New w w') => tail_any a 8 cap l w' (h.stay hn))
  rw [tail_first34 l 8 h.len_eq] at HT
  unfold stp34
  obtain ⟨kk, hkk⟩ : ∃ z, rd l 0 8 = z := ⟨_, rfl⟩
  rw [hkk] at HT
  rw [hkk]
  clear hkk h
  have HW := Lib.hid (word_34s kd hk s kk)
  obtain ⟨t, ht⟩ : ∃ z, word34 kd.1 s kk = z := ⟨_, rfl⟩
  rw [ht] at HW
  rw [ht]
  clear ht hk
  have HZ := Lib.hid (three_all34 w (.cells #[.int .i64 (kd.1 : Nat), .int .i64 (kd.2.1 : Nat), .bool kd.2.2] 54) (.cells #[.int .u64 (W64 (s.1)), .int .u64 (W64 (s.2.1)), .int .u64 (W64 (s.2.2.1)), .int .u64 (W64 (s.2.2.2))] 58) (.cells #[.int .u64 0, .int .u64 0, .int .u64 0, .int .u64 0] 58))
  go_enter Try.func28, Try.ntmps28
  go_wp2_with fail
  refine Gro3.wp_region_gro3S (fun w' => (∃ u0 u1 u2 u3 : Value, w'.heap[w.heap.size + 1 + 1]? = some (.cells #[u0, u1, u2, u3] 58 (0, 0))) ∧ New w w') (fun w' => w'.heap[w.heap.size]? = some (.cells #[.int .i64 (kd.1 : Nat), .int .i64 (kd.2.1 : Nat), .bool kd.2.2] 54 (0, 0)) ∧ w'.heap[w.heap.size + 1]? = some (.cells #[.int .u64 (W64 (s.1)), .int .u64 (W64 (s.2.1)), .int .u64 (W64 (s.2.2.1)), .int .u64 (W64 (s.2.2.2))] 58 (0, 0)) ∧ w'.heap[w.heap.size + 1 + 1]? = some (.cells #[.int .u64 0, .int .u64 0, .int .u64 0, .int .u64 0] 58 (0, 0)) ∧ New w w') [1,1,0,2,2,3] New (fun _ _ _ => True) (by kernel_rfl) (by kernel_rfl) (by kernel_rfl) (fun _ _ _ _ _ _ => trivial) (fun w' hw' => ⟨⟨_, _, _, _, hw'.2.2.1⟩, hw'.2.2.2⟩) (⟨HZ.out.1, HZ.out.2.1, HZ.out.2.2.1, HZ.out.2.2.2.drew⟩) ?_
  intro I J _ _ f g hfa hba hgb hbb
  have HFA := Lib.hid hfa
  have HBA := Lib.hid hba
  have HGB := Lib.hid hgb
  have HBB := Lib.hid hbb
  have fv0 := fun n => cell_of_row _ _ 0 _ _ _ (hgb n).1
  have fv1 := fun n => cell_of_row _ _ 1 _ _ _ (hgb n).1
  have fv2 := fun n => cell_of_row _ _ 2 _ _ _ (hgb n).1
  have fs0 := fun n => cell_of_row _ _ 0 _ _ _ (hgb n).2.1
  have fs1 := fun n => cell_of_row _ _ 1 _ _ _ (hgb n).2.1
  have fs2 := fun n => cell_of_row _ _ 2 _ _ _ (hgb n).2.1
  have fs3 := fun n => cell_of_row _ _ 3 _ _ _ (hgb n).2.1
  clear hfa hba hgb hbb
  refine Gro3.take1 2 (by kernel_rfl) ?_
  simp only [List.take, List.drop, List.length]
  repeat (go_big_quiet_step (fail))
  refine wpQuiet_nil ?_
  refine Gro3.take0 1 (by kernel_rfl) ?_
  simp only [List.take, List.drop, List.length]
  repeat (go_big_quiet_step (fail))
  refine wpQuiet_nil ?_
  refine Gro3.callt (fun v => v = .int .u64 (W64 kk)) (fun _ _ => True) rfl rfl (⟨_, rfl⟩) (fun _ _ _ _ _ => trivial) (fun w1 hB hG => ?_) (fun v1 A1 hv1 hA => ?_)
  · obtain ⟨nq, rfl⟩ := hB
    clear fv0 fv1 fv2 fs0 fs1 fs2 fs3
    go_simp
    refine (HT.out _ (HGB.out nq).2.2.2).mono ?_
    rintro e w2 ⟨rfl, rfl⟩
    first | exact ⟨_, rfl, ⟨nq, rfl⟩, New.refl _, rfl⟩ | exact ⟨_, rfl, ⟨nq, rfl⟩, New.refl _, rfl, trivial⟩ | exact ⟨⟨nq, rfl⟩, New.refl _⟩
  simp [Act.put] at hA
  subst hA
  obtain rfl := hv1
  refine Gro3.callt (fun v => v = .agg #[.int .u64 (W64 (t.1)), .int .u64 (W64 (t.2.1)), .int .u64 (W64 (t.2.2.1)), .int .u64 (W64 (t.2.2.2))]) (fun _ _ => True) rfl rfl (⟨_, rfl⟩) (fun _ _ _ _ _ => trivial) (fun w1 hB hG => ?_) (fun v2 A2 hv2 hA => ?_)
  · obtain ⟨nq, rfl⟩ := hB
    clear fv0 fv1 fv2 fs0 fs1 fs2 fs3
    go_simp
    refine (HW.out _).mono ?_
    rintro e w2 ⟨rfl, hn⟩
    have HX := HBB.out _ ⟨(hn.block _ (lt_of_block (HGB.out nq).1)).trans (HGB.out nq).1, (hn.block _ (lt_of_block (HGB.out nq).2.1)).trans (HGB.out nq).2.1, (hn.block _ (lt_of_block (HGB.out nq).2.2.1)).trans (HGB.out nq).2.2.1, (HGB.out nq).2.2.2.trans hn⟩
    first | exact ⟨_, rfl, HX, hn, rfl⟩ | exact ⟨_, rfl, HX, hn, rfl, trivial⟩ | exact ⟨rfl, HX, hn⟩ | exact ⟨HX, hn, rfl⟩ | exact ⟨HX, hn⟩
  simp [Act.put] at hA
  subst hA
  obtain rfl := hv2
  refine Gro3.turn (fun v => v = undef) (fun _ w9 => Lies w9 (w.heap.size + 1 + 1) (.cells #[.int .u64 (W64 (t.1)), .int .u64 (W64 (t.2.1)), .int .u64 (W64 (t.2.2.1)), .int .u64 (W64 (t.2.2.2))] 58 (0, 0))) rfl rfl ⟨_, rfl⟩ (fun w1 hB hG => ?_) (fun v3 A3 hv3 hA => ?_)
  · obtain ⟨nq, rfl⟩ : ∃ nq, w1 = g nq := hB
    have HX := Lib.hid (HGB.out nq)
    have c0 := cell_of_row _ _ 0 _ _ _ HX.out.2.2.1
    have c1 := cell_of_row _ _ 1 _ _ _ HX.out.2.2.1
    have c2 := cell_of_row _ _ 2 _ _ _ HX.out.2.2.1
    have c3 := cell_of_row _ _ 3 _ _ _ HX.out.2.2.1
    have cf := fun i => frozen_of_row _ _ i _ _ HX.out.2.2.1
    have HP := Lib.hid (put4h (.int .u64 (W64 (t.1))) (.int .u64 (W64 (t.2.1))) (.int .u64 (W64 (t.2.2.1))) (.int .u64 (W64 (t.2.2.2))) HX.out.2.2.1)
    have HLI := Lib.hid (show Lies _ _ _ from HP.out.1)
    clear fv0 fv1 fv2 fs0 fs1 fs2 fs3
    go_simp
    exact ⟨HBA.out _ ⟨⟨_, _, _, _, HLI.out⟩, HP.out.2.2 _ HX.out.2.2.2 (by omega)⟩, HLI.out⟩
  simp [Act.put] at hA
  subst hA
  refine Gro3.nil ?_
  rintro w11 ⟨n9, rfl⟩ hG
  have HRZ := Lib.hid (show (f n9).heap[w.heap.size + 1 + 1]? = _ from hG)
  have HNZ := Lib.hid (HFA.out n9).2
  clear HFA HBA HGB HBB hG fv0 fv1 fv2 fs0 fs1 fs2 fs3 HZ HT HW
  generalize f n9 = w11 at *
  have z0 := cell_of_row _ _ 0 _ _ _ HRZ.out
  have z1 := cell_of_row _ _ 1 _ _ _ HRZ.out
  have z2 := cell_of_row _ _ 2 _ _ _ HRZ.out
  have z3 := cell_of_row _ _ 3 _ _ _ HRZ.out
  go_wp2
  refine bodyPost_ret (by simp [results, Try.results28, go_sem, z0, z1, z2, z3]; try rfl) rfl ?_
  exact ⟨rfl, HNZ.out⟩
set_option maxRecDepth 100000 in
set_option maxHeartbeats 1000000 in
theorem start_34s (kd : Nat × Nat × Bool) (key : BitVec 64 × BitVec 64) (w : World) : Calls Try.prog 27 #[(.agg #[.int .i64 (kd.1 : Nat), .int .i64 (kd.2.1 : Nat), .bool kd.2.2]), .agg #[.int .u64 (W64 key.1), .int .u64 (W64 key.2)]] w fun e w' => e = .returned (.agg #[.int .u64 (W64 ((start34 kd key).1)), .int .u64 (W64 ((start34 kd key).2.1)), .int .u64 (W64 ((start34 kd key).2.2.1)), .int .u64 (W64 ((start34 kd key).2.2.2))]) ∧ New w w' := by
  obtain ⟨r, q, g⟩ := kd
  obtain ⟨hi, lo⟩ := key
  cases g
  · have e : start34 (r, q, false) (hi, lo) = base34 hi lo := rfl
    rw [e]
    clear e
    unfold base34
    simp only
    go_enter Try.func27, Try.ntmps27
    go_wp2
    go_returns
    exact ⟨rfl, ((((New.refl w).alloc _).alloc _).alloc _).alloc _⟩
  · have e : start34 (r, q, true) (hi, lo) = snd34 (base34 hi lo) 238#64 := rfl
    rw [e]
    clear e
    unfold base34 snd34
    simp only
    go_enter Try.func27, Try.ntmps27
    go_wp2
    go_returns
    exact ⟨rfl, ((((New.refl w).alloc _).alloc _).alloc _).alloc _⟩
set_option maxRecDepth 100000 in
set_option maxHeartbeats 1000000 in
theorem variant_34s (kind : Int) (kd : Nat × Nat × Bool) (h : KD kind kd) (w : World) : Calls Try.prog 25 #[.int .i64 kind] w fun e w' => e = .returned (.tuple #[(.agg #[.int .i64 (kd.1 : Nat), .int .i64 (kd.2.1 : Nat), .bool kd.2.2]), .bool true]) ∧ New w w' := by
  rcases h with ⟨rfl, rfl⟩ | ⟨rfl, rfl⟩ | ⟨rfl, rfl⟩
  all_goals
    go_enter Try.func25, Try.ntmps25
    go_wp2
    go_returns
    exact ⟨rfl, ((New.refl w).alloc _).alloc _⟩
set_option maxHeartbeats 1000000 in
theorem variant_no_34s (kind : Int) (h6 : ¬ kind = 6) (h7 : ¬ kind = 7) (h8 : ¬ kind = 8) (w : World) : Calls Try.prog 25 #[.int .i64 kind] w fun e w' => e = .returned (.tuple #[.agg #[.int .i64 0, .int .i64 0, .bool false], .bool false]) ∧ New w w' := by
  go_enter Try.func25, Try.ntmps25
  go_wp2
  go_returns
  exact ⟨rfl, ((New.refl w).alloc _).alloc _⟩
end Go.Proofs.Ytoplabhoedloeaa
