/- Layer 31: the document's own End. -/
import Derived.Test.YtegibnffingciaaM31C
import Derived.Test.YtegibnffingciaaMixB
import Derived.Test.YtegibnffingciaaMixC
import Derived.Defers
import Derived.Recover
import Derived.Laws.Pointers
import Derived.Handy
import Derived.Laws.EntriesVeiled
namespace Go.Proofs.Ytegibnffingciaa
open Go.RowKit Go.Bv
set_option linter.unusedVariables false
def end31 (s : BitVec 64 × BitVec 64) (tl : List (BitVec 8)) (long : BitVec 64) : BitVec 64 × BitVec 64 :=
  let h1 := s.1 ^^^ one31 (rd tl 0 8) ^^^ long
  let h2 := s.2 ^^^ two31 (rd tl 8 8) ^^^ long
  let a := h1 + h2
  let b := h2 + a
  (fmix a + fmix b, fmix b + (fmix a + fmix b))
theorem fmixr_n (y : BitVec 64) (w : World) : Calls Try.prog 137 #[.int .u64 (W64 y)] w fun e w' => e = .returned (.int .u64 (W64 (fmix y))) ∧ w' = w := by
  have h := fmix64_ref (W64 y) (b64 _) w
  rw [ofInt_W64] at h
  exact h
theorem fmix_n (y : BitVec 64) (w : World) : Calls Try.prog 162 #[.int .u64 (W64 y)] w fun e w' => e = .returned (.int .u64 (W64 (fmix y))) ∧ New w w' := by
  have h := fmix64_any (W64 y) (b64 _) w w (New.refl w)
  rw [ofInt_W64] at h
  exact h
set_option maxRecDepth 100000 in
set_option maxHeartbeats 2000000 in
theorem end_ref31 (sd x2 x3 : Value) (s : BitVec 64 × BitVec 64) (a : Option Addr) (n c : Nat) (tl : List (BitVec 8)) (lg : BitVec 64) (w : World) (h : BRow w a n c tl) :
    Calls Try.prog 79 #[sd, .agg #[.int .u64 (W64 s.1), .int .u64 (W64 s.2), x2, x3], .slice a n c, .int .u64 (W64 lg)] w fun e w' => e = .returned (.agg #[.int .u64 (W64 (end31 s tl lg).2), .int .u64 (W64 (end31 s tl lg).1)]) ∧ New w w' := by
  obtain ⟨sa, sb⟩ := s
  have hm := h.most
  have HK0 := Lib.hid (fun w' (hn : New w w') => num_ref a n c tl 0 8 w' (h.stay hn) (by omega) (by omega))
  have HK1 := Lib.hid (fun w' (hn : New w w') => num_ref a n c tl 8 8 w' (h.stay hn) (by omega) (by omega))
  have HO0 := Lib.hid (one_ref (rd tl 0 8))
  have HO1 := Lib.hid (two_ref (rd tl 8 8))
  have he : end31 (sa, sb) tl lg = (let h1 := sa ^^^ one31 (rd tl 0 8) ^^^ lg; let h2 := sb ^^^ two31 (rd tl 8 8) ^^^ lg; (fmix (h1 + h2) + fmix (h2 + (h1 + h2)), fmix (h2 + (h1 + h2)) + (fmix (h1 + h2) + fmix (h2 + (h1 + h2))))) := rfl
  rw [he]
  clear he h hm
  generalize one31 (rd tl 0 8) = o0 at *
  generalize two31 (rd tl 8 8) = o1 at *
  generalize rd tl 0 8 = k0 at *
  generalize rd tl 8 8 = k1 at *
  have HZ := Lib.hid (two_blocks w (.cells #[.int .u64 (W64 sa), .int .u64 (W64 sb), x2, x3] 59) (.cells #[.int .u64 0, .int .u64 0] 71))
  have HA := Lib.hid HZ.out.1
  have HO := Lib.hid HZ.out.2.1
  have HN := Lib.hid HZ.out.2.2
  clear HZ
  go_enter Try.func79, Try.ntmps79
  go_wp2_with fail
  refine Gro3.wp_region_gro3S (fun w' => w'.heap[w.heap.size]? = some (.cells #[.int .u64 (W64 sa), .int .u64 (W64 sb), x2, x3] 59 (0, 0)) ∧ w'.heap[w.heap.size + 1]? = some (.cells #[.int .u64 0, .int .u64 0] 71 (0, 0)) ∧ New w w') (fun w' => w'.heap[w.heap.size]? = some (.cells #[.int .u64 (W64 sa), .int .u64 (W64 sb), x2, x3] 59 (0, 0)) ∧ w'.heap[w.heap.size + 1]? = some (.cells #[.int .u64 0, .int .u64 0] 71 (0, 0)) ∧ New w w') [0,1,0,2,2,0,0,0,0] New (fun _ _ _ => True) (by kernel_rfl) (by kernel_rfl) (by kernel_rfl) (fun _ _ _ _ _ _ => trivial) (fun w' hw' => hw') (⟨HA.out, HO.out, HN.out.drew⟩) ?_
  intro I J _ _ f g hfa hba hgb hbb
  have HFA := Lib.hid hfa
  have HBA := Lib.hid hba
  have HGB := Lib.hid hgb
  have HBB := Lib.hid hbb
  have s0 := fun n => cell_of_row _ _ 0 _ _ _ (hgb n).1
  clear hfa hba hgb hbb
  refine Gro3.take0 1 (by kernel_rfl) ?_
  simp only [List.take, List.drop, List.length]
  repeat (go_big_quiet_step (fail))
  refine wpQuiet_nil ?_
  refine Gro3.take1 1 (by kernel_rfl) ?_
  simp only [List.take, List.drop, List.length]
  repeat (go_big_quiet_step (fail))
  refine wpQuiet_nil ?_
  refine Gro3.take0 1 (by kernel_rfl) ?_
  simp only [List.take, List.drop, List.length]
  repeat (go_big_quiet_step (fail))
  refine wpQuiet_nil ?_
  refine Gro3.callt (fun v => v = .int .u64 (W64 k0)) (fun _ _ => True) rfl rfl (⟨_, rfl⟩) (fun _ _ _ _ _ => trivial) (fun w1 hB hG => ?_) (fun v1 A1 hv1 hA => ?_)
  · obtain ⟨nq, rfl⟩ := hB
    clear s0
    go_simp
    refine (HK0.out _ (HGB.out nq).2.2).mono ?_
    rintro e w2 ⟨rfl, rfl⟩
    first | exact ⟨_, rfl, ⟨nq, rfl⟩, New.refl _, rfl⟩ | exact ⟨_, rfl, ⟨nq, rfl⟩, New.refl _, rfl, trivial⟩ | exact ⟨⟨nq, rfl⟩, New.refl _⟩
  simp [Act.put] at hA
  subst hA
  obtain rfl := hv1
  refine Gro3.callt (fun v => v = .int .u64 (W64 o0)) (fun _ _ => True) rfl rfl (⟨_, rfl⟩) (fun _ _ _ _ _ => trivial) (fun w1 hB hG => ?_) (fun v2 A2 hv2 hA => ?_)
  · obtain ⟨nq, rfl⟩ := hB
    clear s0
    go_simp
    refine (HO0.out _).mono ?_
    rintro e w2 ⟨rfl, rfl⟩
    first | exact ⟨_, rfl, ⟨nq, rfl⟩, New.refl _, rfl⟩ | exact ⟨_, rfl, ⟨nq, rfl⟩, New.refl _, rfl, trivial⟩ | exact ⟨⟨nq, rfl⟩, New.refl _⟩
  simp [Act.put] at hA
  subst hA
  obtain rfl := hv2
  refine Gro3.take0 4 (by kernel_rfl) ?_
  simp only [List.take, List.drop, List.length]
  repeat (go_big_quiet_step (fail))
  refine wpQuiet_nil ?_
  refine Gro3.nil ?_
  rintro w9 ⟨n9, rfl⟩ hG
  have hF := HGB.out n9
  replace HA := Lib.hid hF.1
  replace HO := Lib.hid hF.2.1
  replace HN := Lib.hid hF.2.2
  clear HFA HBA HGB HBB hG hF s0
  generalize g n9 = w9 at *
  go_wp2_with fail
  refine Gro3.wp_region_gro3S (fun w' => w'.heap[w.heap.size]? = some (.cells #[.int .u64 (W64 sa), .int .u64 (W64 sb), x2, x3] 59 (0, 0)) ∧ w'.heap[w.heap.size + 1]? = some (.cells #[.int .u64 0, .int .u64 0] 71 (0, 0)) ∧ New w w') (fun w' => w'.heap[w.heap.size]? = some (.cells #[.int .u64 (W64 sa), .int .u64 (W64 sb), x2, x3] 59 (0, 0)) ∧ w'.heap[w.heap.size + 1]? = some (.cells #[.int .u64 0, .int .u64 0] 71 (0, 0)) ∧ New w w') [0,1,0,2,2,0,0,0,0] New (fun _ _ _ => True) (by kernel_rfl) (by kernel_rfl) (by kernel_rfl) (fun _ _ _ _ _ _ => trivial) (fun w' hw' => hw') (⟨HA.out, HO.out, HN.out.drew⟩) ?_
  intro I J _ _ f g hfa hba hgb hbb
  have HFA := Lib.hid hfa
  have HBA := Lib.hid hba
  have HGB := Lib.hid hgb
  have HBB := Lib.hid hbb
  have s0 := fun n => cell_of_row _ _ 1 _ _ _ (hgb n).1
  clear hfa hba hgb hbb
  refine Gro3.take0 1 (by kernel_rfl) ?_
  simp only [List.take, List.drop, List.length]
  repeat (go_big_quiet_step (fail))
  refine wpQuiet_nil ?_
  refine Gro3.take1 1 (by kernel_rfl) ?_
  simp only [List.take, List.drop, List.length]
  repeat (go_big_quiet_step (fail))
  refine wpQuiet_nil ?_
  refine Gro3.take0 1 (by kernel_rfl) ?_
  simp only [List.take, List.drop, List.length]
  repeat (go_big_quiet_step (fail))
  refine wpQuiet_nil ?_
  refine Gro3.callt (fun v => v = .int .u64 (W64 k1)) (fun _ _ => True) rfl rfl (⟨_, rfl⟩) (fun _ _ _ _ _ => trivial) (fun w1 hB hG => ?_) (fun v1 A1 hv1 hA => ?_)
  · obtain ⟨nq, rfl⟩ := hB
    clear s0
    go_simp
    refine (HK1.out _ (HGB.out nq).2.2).mono ?_
    rintro e w2 ⟨rfl, rfl⟩
    first | exact ⟨_, rfl, ⟨nq, rfl⟩, New.refl _, rfl⟩ | exact ⟨_, rfl, ⟨nq, rfl⟩, New.refl _, rfl, trivial⟩ | exact ⟨⟨nq, rfl⟩, New.refl _⟩
  simp [Act.put] at hA
  subst hA
  obtain rfl := hv1
  refine Gro3.callt (fun v => v = .int .u64 (W64 o1)) (fun _ _ => True) rfl rfl (⟨_, rfl⟩) (fun _ _ _ _ _ => trivial) (fun w1 hB hG => ?_) (fun v2 A2 hv2 hA => ?_)
  · obtain ⟨nq, rfl⟩ := hB
    clear s0
    go_simp
    refine (HO1.out _).mono ?_
    rintro e w2 ⟨rfl, rfl⟩
    first | exact ⟨_, rfl, ⟨nq, rfl⟩, New.refl _, rfl⟩ | exact ⟨_, rfl, ⟨nq, rfl⟩, New.refl _, rfl, trivial⟩ | exact ⟨⟨nq, rfl⟩, New.refl _⟩
  simp [Act.put] at hA
  subst hA
  obtain rfl := hv2
  refine Gro3.take0 4 (by kernel_rfl) ?_
  simp only [List.take, List.drop, List.length]
  repeat (go_big_quiet_step (fail))
  refine wpQuiet_nil ?_
  refine Gro3.nil ?_
  rintro w9 ⟨n9, rfl⟩ hG
  have hF := HGB.out n9
  replace HA := Lib.hid hF.1
  replace HO := Lib.hid hF.2.1
  replace HN := Lib.hid hF.2.2
  clear HFA HBA HGB HBB hG hF s0
  generalize g n9 = w9 at *
  go_wp2_with fail
  refine (fmixr_n _ _).mono ?_
  rintro e w9 ⟨rfl, rfl⟩
  go_wp2_with fail
  refine (fmixr_n _ _).mono ?_
  rintro e w9 ⟨rfl, rfl⟩
  have z0 := cell_of_row _ _ 0 _ _ _ HO.out
  have z1 := cell_of_row _ _ 1 _ _ _ HO.out
  have zf := fun i => frozen_of_row _ _ i _ _ HO.out
  go_wp2
  refine bodyPost_ret (by simp [results, Try.results79, go_sem, z0, z1]; try rfl) rfl ?_
  exact ⟨rfl, (HN.out.setCell (by show w.heap.size ≤ w.heap.size + 1; omega) _).setCell (by show w.heap.size ≤ w.heap.size + 1; omega) _⟩
end Go.Proofs.Ytegibnffingciaa
