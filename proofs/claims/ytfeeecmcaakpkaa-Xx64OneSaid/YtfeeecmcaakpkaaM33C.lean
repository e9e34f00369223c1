/- Layer 33: the document's own From, Blocks. -/
import Derived.Test.YtfeeecmcaakpkaaM33R
import Derived.Defers
import Derived.Recover
import Derived.Laws.Pointers
import Derived.Handy
import Derived.Laws.EntriesVeiled
import Derived.LoopN
namespace Go.Proofs.Ytfeeecmcaakpkaa
open Go.RowKit Go.Bv
set_option linter.unusedVariables false
set_option maxRecDepth 100000 in
set_option maxHeartbeats 8000000 in
theorem from_ref33 (s : BitVec 64 × BitVec 64 × BitVec 64 × BitVec 64) (a : Option Addr) (n c : Nat) (l : List (BitVec 8)) (w : World) (h : BRow w a n c l) :
    Calls Try.prog 64 #[.agg #[.int .u64 (W64 (s.1)), .int .u64 (W64 (s.2.1)), .int .u64 (W64 (s.2.2.1)), .int .u64 (W64 (s.2.2.2))], .slice a n c] w fun e w' => ∃ a' c', e = .returned (.tuple #[.agg #[.int .u64 (W64 ((bState 32 stp33 s l).1)), .int .u64 (W64 ((bState 32 stp33 s l).2.1)), .int .u64 (W64 ((bState 32 stp33 s l).2.2.1)), .int .u64 (W64 ((bState 32 stp33 s l).2.2.2))], .slice a' (n % 32 : Nat) c']) ∧ BRow w' a' (n % 32) c' (bTail 32 l) ∧ New w w' := by
  have H := Lib.hid h
  have HL := Lib.hid h.len_eq
  clear h
  have HZ := Lib.hid (two_blocks w (.cells #[.int .u64 (W64 (s.1)), .int .u64 (W64 (s.2.1)), .int .u64 (W64 (s.2.2.1)), .int .u64 (W64 (s.2.2.2))] 36) (.cells #[.int .u64 0, .int .u64 0, .int .u64 0, .int .u64 0] 36))
  go_enter Try.func64, Try.ntmps64
  go_wp2
  go_loopw [1] (fun sl wr => ∃ (a2 : Option Addr) (n2 c2 : Nat) (l2 : List (BitVec 8)) (s2 : BitVec 64 × BitVec 64 × BitVec 64 × BitVec 64), sl = .slice a2 n2 c2 ∧ BRow w a2 n2 c2 l2 ∧ bState 32 stp33 s2 l2 = bState 32 stp33 s l ∧ bTail 32 l2 = bTail 32 l ∧ n2 % 32 = n % 32 ∧ wr.heap[w.heap.size + 1]? = some (.cells #[.int .u64 0, .int .u64 0, .int .u64 0, .int .u64 0] 36 (0, 0)) ∧ wr.heap[w.heap.size]? = some (.cells #[.int .u64 (W64 (s2.1)), .int .u64 (W64 (s2.2.1)), .int .u64 (W64 (s2.2.2.1)), .int .u64 (W64 (s2.2.2.2))] 36 (0, 0)) ∧ New w wr) (fun sl _ => lenOf33 sl)
  case atStart => exact ⟨a, n, c, l, s, rfl, H.out, rfl, rfl, rfl, HZ.out.2.1, HZ.out.1, HZ.out.2.2⟩
  case round =>
    clear HZ
    obtain ⟨aa, n2, c2, l2, s2, rfl, hrow, hs, ht, hm, hz, hvb, hn⟩ := hrel
    have HR := Lib.hid hrow
    have HS := Lib.hid hs
    have HT := Lib.hid ht
    have HM := Lib.hid hm
    have HZZ := Lib.hid hz
    have HV := Lib.hid hvb
    have HN := Lib.hid hn
    have hle := hrow.le
    have hlen := hrow.len_eq
    have hmost := hrow.most
    have hroom := hrow.room
    clear hrow hs ht hm hz hn hvb
    by_cases hlt : (32 : Int) ≤ (n2 : Int)
    · obtain ⟨b, off, rfl, _⟩ := HR.out.addr (by omega)
      have hst := bState_step 32 (by decide) stp33 s2 l2 (by omega)
      have htl := bTail_step 32 (by decide) l2 (by omega)
      obtain ⟨a0, a1, a2, a3⟩ := s2
      have hstp : stp33 (a0, a1, a2, a3) (l2.take 32) = (rnd33 a0 (rd l2 0 8), rnd33 a1 (rd l2 8 8), rnd33 a2 (rd l2 16 8), rnd33 a3 (rd l2 24 8)) := by
        unfold stp33
        rw [rd_take33 l2 32 0 8 (by omega), rd_take33 l2 32 8 8 (by omega), rd_take33 l2 32 16 8 (by omega), rd_take33 l2 32 24 8 (by omega)]
      rw [hstp] at hst
      clear hstp
      have HK0 := Lib.hid (fun w' (hn : New w w') => num_ref (some ⟨b, off, none⟩) n2 c2 l2 0 8 w' (HR.out.stay hn) (by omega) (by omega))
      obtain ⟨k0, hk⟩ : ∃ z, rd l2 0 8 = z := ⟨_, rfl⟩
      rw [hk] at HK0 hst
      clear hk
      have HQ0 := Lib.hid (roundr_33 a0 k0)
      obtain ⟨m0, hr⟩ : ∃ z, rnd33 a0 k0 = z := ⟨_, rfl⟩
      rw [hr] at HQ0 hst
      clear hr
      have HK1 := Lib.hid (fun w' (hn : New w w') => num_ref (some ⟨b, off, none⟩) n2 c2 l2 8 8 w' (HR.out.stay hn) (by omega) (by omega))
      obtain ⟨k1, hk⟩ : ∃ z, rd l2 8 8 = z := ⟨_, rfl⟩
      rw [hk] at HK1 hst
      clear hk
      have HQ1 := Lib.hid (roundr_33 a1 k1)
      obtain ⟨m1, hr⟩ : ∃ z, rnd33 a1 k1 = z := ⟨_, rfl⟩
      rw [hr] at HQ1 hst
      clear hr
      have HK2 := Lib.hid (fun w' (hn : New w w') => num_ref (some ⟨b, off, none⟩) n2 c2 l2 16 8 w' (HR.out.stay hn) (by omega) (by omega))
      obtain ⟨k2, hk⟩ : ∃ z, rd l2 16 8 = z := ⟨_, rfl⟩
      rw [hk] at HK2 hst
      clear hk
      have HQ2 := Lib.hid (roundr_33 a2 k2)
      obtain ⟨m2, hr⟩ : ∃ z, rnd33 a2 k2 = z := ⟨_, rfl⟩
      rw [hr] at HQ2 hst
      clear hr
      have HK3 := Lib.hid (fun w' (hn : New w w') => num_ref (some ⟨b, off, none⟩) n2 c2 l2 24 8 w' (HR.out.stay hn) (by omega) (by omega))
      obtain ⟨k3, hk⟩ : ∃ z, rd l2 24 8 = z := ⟨_, rfl⟩
      rw [hk] at HK3 hst
      clear hk
      have HQ3 := Lib.hid (roundr_33 a3 k3)
      obtain ⟨m3, hr⟩ : ∃ z, rnd33 a3 k3 = z := ⟨_, rfl⟩
      rw [hr] at HQ3 hst
      clear hr
      have HST := Lib.hid (hst.symm.trans HS.out)
      have HTL := Lib.hid (htl.symm.trans HT.out)
      clear hst htl
      have hmod : (n2 - 32) % 32 = n2 % 32 := by omega
      have HMD := Lib.hid (hmod.trans HM.out)
      have hi1 : (32 : Int) ≤ (c2 : Int) := by omega
      have hlc : (n2 : Int) ≤ (c2 : Int) := by omega
      clear hmod
      by_cases hcm : c2 = 32
      · obtain rfl : n2 = 32 := by omega
        subst hcm
        have HR0 := Lib.hid (row_end HR.out)
        go_wp2_with fail
        refine wp_loop_rounds 5 ?_
        rw [rounds_succ]
        go_wp2_with fail
        refine Gro3.wp_region_gro3S (fun w' => (∃ u0 u1 u2 u3 : Value, w'.heap[w.heap.size]? = some (.cells #[u0, u1, u2, u3] 36 (0, 0))) ∧ w'.heap[w.heap.size + 1]? = some (.cells #[.int .u64 0, .int .u64 0, .int .u64 0, .int .u64 0] 36 (0, 0)) ∧ New w w') (fun w' => w'.heap[w.heap.size]? = some (.cells #[.int .u64 (W64 a0), .int .u64 (W64 a1), .int .u64 (W64 a2), .int .u64 (W64 a3)] 36 (0, 0)) ∧ w'.heap[w.heap.size + 1]? = some (.cells #[.int .u64 0, .int .u64 0, .int .u64 0, .int .u64 0] 36 (0, 0)) ∧ New w w') [0,0,0,1,0,0,0,2,2,0,3] New (fun _ _ _ => True) (by kernel_rfl) (by kernel_rfl) (by kernel_rfl) (fun _ _ _ _ _ _ => trivial) (fun w' hw' => ⟨⟨_, _, _, _, hw'.1⟩, hw'.2⟩) (⟨HV.out, HZZ.out, HN.out.drew⟩) ?_
        intro I J _ _ f g hfa hba hgb hbb
        have HFA := Lib.hid hfa
        have HBA := Lib.hid hba
        have HGB := Lib.hid hgb
        have HBB := Lib.hid hbb
        have s0 := fun n => cell_of_row _ _ 0 _ _ _ (hgb n).1
        clear hfa hba hgb hbb
        refine Gro3.take0 3 (by kernel_rfl) ?_
        simp only [List.take, List.drop, List.length]
        repeat (go_big_quiet_step (fail))
        refine wpQuiet_nil ?_
        refine Gro3.take1 1 (by kernel_rfl) ?_
        simp only [List.take, List.drop, List.length]
        repeat (go_big_quiet_step (fail))
        refine wpQuiet_nil ?_
        refine Gro3.take0 3 (by kernel_rfl) ?_
        simp only [List.take, List.drop, List.length]
        repeat (go_big_quiet_step (fail))
        refine wpQuiet_nil ?_
        refine Gro3.callt (fun v => v = .int .u64 (W64 k0)) (fun _ _ => True) rfl rfl (⟨_, rfl⟩) (fun _ _ _ _ _ => trivial) (fun w1 hB hG => ?_) (fun v1 A1 hv1 hA => ?_)
        · obtain ⟨nq, rfl⟩ := hB
          clear s0
          go_simp
          refine (HK0.out _ (HGB.out nq).2.2).mono ?_
          rintro e w2 ⟨rfl, rfl⟩
          first | exact ⟨_, rfl, ⟨nq, rfl⟩, New.refl _, rfl⟩ | exact ⟨_, rfl, ⟨nq, rfl⟩, New.refl _, rfl, trivial⟩ | exact ⟨⟨nq, rfl⟩, New.refl _⟩
        simp [Act.put] at hA
        subst hA
        obtain rfl := hv1
        refine Gro3.callt (fun v => v = .int .u64 (W64 m0)) (fun _ _ => True) rfl rfl (⟨_, rfl⟩) (fun _ _ _ _ _ => trivial) (fun w1 hB hG => ?_) (fun v2 A2 hv2 hA => ?_)
        · obtain ⟨nq, rfl⟩ := hB
          clear s0
          go_simp
          refine (HQ0.out _).mono ?_
          rintro e w2 ⟨rfl, rfl⟩
          first | exact ⟨_, rfl, ⟨nq, rfl⟩, New.refl _, rfl⟩ | exact ⟨_, rfl, ⟨nq, rfl⟩, New.refl _, rfl, trivial⟩ | exact ⟨⟨nq, rfl⟩, New.refl _⟩
        simp [Act.put] at hA
        subst hA
        obtain rfl := hv2
        refine Gro3.take0 1 (by kernel_rfl) ?_
        simp only [List.take, List.drop, List.length]
        repeat (go_big_quiet_step (fail))
        refine wpQuiet_nil ?_
        refine Gro3.turn (fun v => v = undef) (fun _ w9 => Lies w9 w.heap.size (.cells #[.int .u64 (W64 m0), .int .u64 (W64 a1), .int .u64 (W64 a2), .int .u64 (W64 a3)] 36 (0, 0))) rfl rfl ⟨_, rfl⟩ (fun w1 hB hG => ?_) (fun v3 A3 hv3 hA => ?_)
        · obtain ⟨nq, rfl⟩ : ∃ nq, w1 = g nq := hB
          have HX := Lib.hid (HGB.out nq)
          have c0 := cell_of_row _ _ 0 _ _ _ HX.out.1
          have cf := fun i => frozen_of_row _ _ i _ _ HX.out.1
          have h0 := heap_setCell_same _ w.heap.size 0 _ _ (.int .u64 (W64 m0)) HX.out.1
          have HLI := Lib.hid (show Lies _ _ _ from h0)
          have HOT := Lib.hid (heap_setCell_other (g nq) ⟨w.heap.size, 0, none⟩ (w.heap.size + 1) (.int .u64 (W64 m0)) (by show w.heap.size + 1 ≠ w.heap.size; omega))
          clear h0 s0
          go_simp
          exact ⟨HBA.out _ ⟨⟨_, _, _, _, HLI.out⟩, HOT.out.trans HX.out.2.1, HX.out.2.2.setCell (Nat.le_refl _) _⟩, HLI.out⟩
        simp [Act.put] at hA
        subst hA
        refine Gro3.nil ?_
        rintro w11 ⟨n9, rfl⟩ hG
        have hF := HFA.out n9
        replace HV := Lib.hid (show (f n9).heap[w.heap.size]? = _ from hG)
        replace HZZ := Lib.hid hF.2.1
        replace HN := Lib.hid hF.2.2
        clear HFA HBA HGB HBB hG hF s0 HK0 HQ0
        generalize f n9 = w9 at *
        go_wp2_with fail
        rw [rounds_succ]
        go_wp2_with fail
        refine Gro3.wp_region_gro3S (fun w' => (∃ u0 u1 u2 u3 : Value, w'.heap[w.heap.size]? = some (.cells #[u0, u1, u2, u3] 36 (0, 0))) ∧ w'.heap[w.heap.size + 1]? = some (.cells #[.int .u64 0, .int .u64 0, .int .u64 0, .int .u64 0] 36 (0, 0)) ∧ New w w') (fun w' => w'.heap[w.heap.size]? = some (.cells #[.int .u64 (W64 m0), .int .u64 (W64 a1), .int .u64 (W64 a2), .int .u64 (W64 a3)] 36 (0, 0)) ∧ w'.heap[w.heap.size + 1]? = some (.cells #[.int .u64 0, .int .u64 0, .int .u64 0, .int .u64 0] 36 (0, 0)) ∧ New w w') [0,0,0,1,0,0,0,2,2,0,3] New (fun _ _ _ => True) (by kernel_rfl) (by kernel_rfl) (by kernel_rfl) (fun _ _ _ _ _ _ => trivial) (fun w' hw' => ⟨⟨_, _, _, _, hw'.1⟩, hw'.2⟩) (⟨HV.out, HZZ.out, HN.out.drew⟩) ?_
        intro I J _ _ f g hfa hba hgb hbb
        have HFA := Lib.hid hfa
        have HBA := Lib.hid hba
        have HGB := Lib.hid hgb
        have HBB := Lib.hid hbb
        have s0 := fun n => cell_of_row _ _ 1 _ _ _ (hgb n).1
        clear hfa hba hgb hbb
        refine Gro3.take0 3 (by kernel_rfl) ?_
        simp only [List.take, List.drop, List.length]
        repeat (go_big_quiet_step (fail))
        refine wpQuiet_nil ?_
        refine Gro3.take1 1 (by kernel_rfl) ?_
        simp only [List.take, List.drop, List.length]
        repeat (go_big_quiet_step (fail))
        refine wpQuiet_nil ?_
        refine Gro3.take0 3 (by kernel_rfl) ?_
        simp only [List.take, List.drop, List.length]
        repeat (go_big_quiet_step (fail))
        refine wpQuiet_nil ?_
        refine Gro3.callt (fun v => v = .int .u64 (W64 k1)) (fun _ _ => True) rfl rfl (⟨_, rfl⟩) (fun _ _ _ _ _ => trivial) (fun w1 hB hG => ?_) (fun v1 A1 hv1 hA => ?_)
        · obtain ⟨nq, rfl⟩ := hB
          clear s0
          go_simp
          refine (HK1.out _ (HGB.out nq).2.2).mono ?_
          rintro e w2 ⟨rfl, rfl⟩
          first | exact ⟨_, rfl, ⟨nq, rfl⟩, New.refl _, rfl⟩ | exact ⟨_, rfl, ⟨nq, rfl⟩, New.refl _, rfl, trivial⟩ | exact ⟨⟨nq, rfl⟩, New.refl _⟩
        simp [Act.put] at hA
        subst hA
        obtain rfl := hv1
        refine Gro3.callt (fun v => v = .int .u64 (W64 m1)) (fun _ _ => True) rfl rfl (⟨_, rfl⟩) (fun _ _ _ _ _ => trivial) (fun w1 hB hG => ?_) (fun v2 A2 hv2 hA => ?_)
        · obtain ⟨nq, rfl⟩ := hB
          clear s0
          go_simp
          refine (HQ1.out _).mono ?_
          rintro e w2 ⟨rfl, rfl⟩
          first | exact ⟨_, rfl, ⟨nq, rfl⟩, New.refl _, rfl⟩ | exact ⟨_, rfl, ⟨nq, rfl⟩, New.refl _, rfl, trivial⟩ | exact ⟨⟨nq, rfl⟩, New.refl _⟩
        simp [Act.put] at hA
        subst hA
        obtain rfl := hv2
        refine Gro3.take0 1 (by kernel_rfl) ?_
        simp only [List.take, List.drop, List.length]
        repeat (go_big_quiet_step (fail))
        refine wpQuiet_nil ?_
        refine Gro3.turn (fun v => v = undef) (fun _ w9 => Lies w9 w.heap.size (.cells #[.int .u64 (W64 m0), .int .u64 (W64 m1), .int .u64 (W64 a2), .int .u64 (W64 a3)] 36 (0, 0))) rfl rfl ⟨_, rfl⟩ (fun w1 hB hG => ?_) (fun v3 A3 hv3 hA => ?_)
        · obtain ⟨nq, rfl⟩ : ∃ nq, w1 = g nq := hB
          have HX := Lib.hid (HGB.out nq)
          have c0 := cell_of_row _ _ 1 _ _ _ HX.out.1
          have cf := fun i => frozen_of_row _ _ i _ _ HX.out.1
          have h0 := heap_setCell_same _ w.heap.size 1 _ _ (.int .u64 (W64 m1)) HX.out.1
          have HLI := Lib.hid (show Lies _ _ _ from h0)
          have HOT := Lib.hid (heap_setCell_other (g nq) ⟨w.heap.size, 1, none⟩ (w.heap.size + 1) (.int .u64 (W64 m1)) (by show w.heap.size + 1 ≠ w.heap.size; omega))
          clear h0 s0
          go_simp
          exact ⟨HBA.out _ ⟨⟨_, _, _, _, HLI.out⟩, HOT.out.trans HX.out.2.1, HX.out.2.2.setCell (Nat.le_refl _) _⟩, HLI.out⟩
        simp [Act.put] at hA
        subst hA
        refine Gro3.nil ?_
        rintro w11 ⟨n9, rfl⟩ hG
        have hF := HFA.out n9
        replace HV := Lib.hid (show (f n9).heap[w.heap.size]? = _ from hG)
        replace HZZ := Lib.hid hF.2.1
        replace HN := Lib.hid hF.2.2
        clear HFA HBA HGB HBB hG hF s0 HK1 HQ1
        generalize f n9 = w9 at *
        go_wp2_with fail
        rw [rounds_succ]
        go_wp2_with fail
        refine Gro3.wp_region_gro3S (fun w' => (∃ u0 u1 u2 u3 : Value, w'.heap[w.heap.size]? = some (.cells #[u0, u1, u2, u3] 36 (0, 0))) ∧ w'.heap[w.heap.size + 1]? = some (.cells #[.int .u64 0, .int .u64 0, .int .u64 0, .int .u64 0] 36 (0, 0)) ∧ New w w') (fun w' => w'.heap[w.heap.size]? = some (.cells #[.int .u64 (W64 m0), .int .u64 (W64 m1), .int .u64 (W64 a2), .int .u64 (W64 a3)] 36 (0, 0)) ∧ w'.heap[w.heap.size + 1]? = some (.cells #[.int .u64 0, .int .u64 0, .int .u64 0, .int .u64 0] 36 (0, 0)) ∧ New w w') [0,0,0,1,0,0,0,2,2,0,3] New (fun _ _ _ => True) (by kernel_rfl) (by kernel_rfl) (by kernel_rfl) (fun _ _ _ _ _ _ => trivial) (fun w' hw' => ⟨⟨_, _, _, _, hw'.1⟩, hw'.2⟩) (⟨HV.out, HZZ.out, HN.out.drew⟩) ?_
        intro I J _ _ f g hfa hba hgb hbb
        have HFA := Lib.hid hfa
        have HBA := Lib.hid hba
        have HGB := Lib.hid hgb
        have HBB := Lib.hid hbb
        have s0 := fun n => cell_of_row _ _ 2 _ _ _ (hgb n).1
        clear hfa hba hgb hbb
        refine Gro3.take0 3 (by kernel_rfl) ?_
        simp only [List.take, List.drop, List.length]
        repeat (go_big_quiet_step (fail))
        refine wpQuiet_nil ?_
        refine Gro3.take1 1 (by kernel_rfl) ?_
        simp only [List.take, List.drop, List.length]
        repeat (go_big_quiet_step (fail))
        refine wpQuiet_nil ?_
        refine Gro3.take0 3 (by kernel_rfl) ?_
        simp only [List.take, List.drop, List.length]
        repeat (go_big_quiet_step (fail))
        refine wpQuiet_nil ?_
        refine Gro3.callt (fun v => v = .int .u64 (W64 k2)) (fun _ _ => True) rfl rfl (⟨_, rfl⟩) (fun _ _ _ _ _ => trivial) (fun w1 hB hG => ?_) (fun v1 A1 hv1 hA => ?_)
        · obtain ⟨nq, rfl⟩ := hB
          clear s0
          go_simp
          refine (HK2.out _ (HGB.out nq).2.2).mono ?_
          rintro e w2 ⟨rfl, rfl⟩
          first | exact ⟨_, rfl, ⟨nq, rfl⟩, New.refl _, rfl⟩ | exact ⟨_, rfl, ⟨nq, rfl⟩, New.refl _, rfl, trivial⟩ | exact ⟨⟨nq, rfl⟩, New.refl _⟩
        simp [Act.put] at hA
        subst hA
        obtain rfl := hv1
        refine Gro3.callt (fun v => v = .int .u64 (W64 m2)) (fun _ _ => True) rfl rfl (⟨_, rfl⟩) (fun _ _ _ _ _ => trivial) (fun w1 hB hG => ?_) (fun v2 A2 hv2 hA => ?_)
        · obtain ⟨nq, rfl⟩ := hB
          clear s0
          go_simp
          refine (HQ2.out _).mono ?_
          rintro e w2 ⟨rfl, rfl⟩
          first | exact ⟨_, rfl, ⟨nq, rfl⟩, New.refl _, rfl⟩ | exact ⟨_, rfl, ⟨nq, rfl⟩, New.refl _, rfl, trivial⟩ | exact ⟨⟨nq, rfl⟩, New.refl _⟩
        simp [Act.put] at hA
        subst hA
        obtain rfl := hv2
        refine Gro3.take0 1 (by kernel_rfl) ?_
        simp only [List.take, List.drop, List.length]
        repeat (go_big_quiet_step (fail))
        refine wpQuiet_nil ?_
        refine Gro3.turn (fun v => v = undef) (fun _ w9 => Lies w9 w.heap.size (.cells #[.int .u64 (W64 m0), .int .u64 (W64 m1), .int .u64 (W64 m2), .int .u64 (W64 a3)] 36 (0, 0))) rfl rfl ⟨_, rfl⟩ (fun w1 hB hG => ?_) (fun v3 A3 hv3 hA => ?_)
        · obtain ⟨nq, rfl⟩ : ∃ nq, w1 = g nq := hB
          have HX := Lib.hid (HGB.out nq)
          have c0 := cell_of_row _ _ 2 _ _ _ HX.out.1
          have cf := fun i => frozen_of_row _ _ i _ _ HX.out.1
          have h0 := heap_setCell_same _ w.heap.size 2 _ _ (.int .u64 (W64 m2)) HX.out.1
          have HLI := Lib.hid (show Lies _ _ _ from h0)
          have HOT := Lib.hid (heap_setCell_other (g nq) ⟨w.heap.size, 2, none⟩ (w.heap.size + 1) (.int .u64 (W64 m2)) (by show w.heap.size + 1 ≠ w.heap.size; omega))
          clear h0 s0
          go_simp
          exact ⟨HBA.out _ ⟨⟨_, _, _, _, HLI.out⟩, HOT.out.trans HX.out.2.1, HX.out.2.2.setCell (Nat.le_refl _) _⟩, HLI.out⟩
        simp [Act.put] at hA
        subst hA
        refine Gro3.nil ?_
        rintro w11 ⟨n9, rfl⟩ hG
        have hF := HFA.out n9
        replace HV := Lib.hid (show (f n9).heap[w.heap.size]? = _ from hG)
        replace HZZ := Lib.hid hF.2.1
        replace HN := Lib.hid hF.2.2
        clear HFA HBA HGB HBB hG hF s0 HK2 HQ2
        generalize f n9 = w9 at *
        go_wp2_with fail
        rw [rounds_succ]
        go_wp2_with fail
        refine Gro3.wp_region_gro3S (fun w' => (∃ u0 u1 u2 u3 : Value, w'.heap[w.heap.size]? = some (.cells #[u0, u1, u2, u3] 36 (0, 0))) ∧ w'.heap[w.heap.size + 1]? = some (.cells #[.int .u64 0, .int .u64 0, .int .u64 0, .int .u64 0] 36 (0, 0)) ∧ New w w') (fun w' => w'.heap[w.heap.size]? = some (.cells #[.int .u64 (W64 m0), .int .u64 (W64 m1), .int .u64 (W64 m2), .int .u64 (W64 a3)] 36 (0, 0)) ∧ w'.heap[w.heap.size + 1]? = some (.cells #[.int .u64 0, .int .u64 0, .int .u64 0, .int .u64 0] 36 (0, 0)) ∧ New w w') [0,0,0,1,0,0,0,2,2,0,3] New (fun _ _ _ => True) (by kernel_rfl) (by kernel_rfl) (by kernel_rfl) (fun _ _ _ _ _ _ => trivial) (fun w' hw' => ⟨⟨_, _, _, _, hw'.1⟩, hw'.2⟩) (⟨HV.out, HZZ.out, HN.out.drew⟩) ?_
        intro I J _ _ f g hfa hba hgb hbb
        have HFA := Lib.hid hfa
        have HBA := Lib.hid hba
        have HGB := Lib.hid hgb
        have HBB := Lib.hid hbb
        have s0 := fun n => cell_of_row _ _ 3 _ _ _ (hgb n).1
        clear hfa hba hgb hbb
        refine Gro3.take0 3 (by kernel_rfl) ?_
        simp only [List.take, List.drop, List.length]
        repeat (go_big_quiet_step (fail))
        refine wpQuiet_nil ?_
        refine Gro3.take1 1 (by kernel_rfl) ?_
        simp only [List.take, List.drop, List.length]
        repeat (go_big_quiet_step (fail))
        refine wpQuiet_nil ?_
        refine Gro3.take0 3 (by kernel_rfl) ?_
        simp only [List.take, List.drop, List.length]
        repeat (go_big_quiet_step (fail))
        refine wpQuiet_nil ?_
        refine Gro3.callt (fun v => v = .int .u64 (W64 k3)) (fun _ _ => True) rfl rfl (⟨_, rfl⟩) (fun _ _ _ _ _ => trivial) (fun w1 hB hG => ?_) (fun v1 A1 hv1 hA => ?_)
        · obtain ⟨nq, rfl⟩ := hB
          clear s0
          go_simp
          refine (HK3.out _ (HGB.out nq).2.2).mono ?_
          rintro e w2 ⟨rfl, rfl⟩
          first | exact ⟨_, rfl, ⟨nq, rfl⟩, New.refl _, rfl⟩ | exact ⟨_, rfl, ⟨nq, rfl⟩, New.refl _, rfl, trivial⟩ | exact ⟨⟨nq, rfl⟩, New.refl _⟩
        simp [Act.put] at hA
        subst hA
        obtain rfl := hv1
        refine Gro3.callt (fun v => v = .int .u64 (W64 m3)) (fun _ _ => True) rfl rfl (⟨_, rfl⟩) (fun _ _ _ _ _ => trivial) (fun w1 hB hG => ?_) (fun v2 A2 hv2 hA => ?_)
        · obtain ⟨nq, rfl⟩ := hB
          clear s0
          go_simp
          refine (HQ3.out _).mono ?_
          rintro e w2 ⟨rfl, rfl⟩
          first | exact ⟨_, rfl, ⟨nq, rfl⟩, New.refl _, rfl⟩ | exact ⟨_, rfl, ⟨nq, rfl⟩, New.refl _, rfl, trivial⟩ | exact ⟨⟨nq, rfl⟩, New.refl _⟩
        simp [Act.put] at hA
        subst hA
        obtain rfl := hv2
        refine Gro3.take0 1 (by kernel_rfl) ?_
        simp only [List.take, List.drop, List.length]
        repeat (go_big_quiet_step (fail))
        refine wpQuiet_nil ?_
        refine Gro3.turn (fun v => v = undef) (fun _ w9 => Lies w9 w.heap.size (.cells #[.int .u64 (W64 m0), .int .u64 (W64 m1), .int .u64 (W64 m2), .int .u64 (W64 m3)] 36 (0, 0))) rfl rfl ⟨_, rfl⟩ (fun w1 hB hG => ?_) (fun v3 A3 hv3 hA => ?_)
        · obtain ⟨nq, rfl⟩ : ∃ nq, w1 = g nq := hB
          have HX := Lib.hid (HGB.out nq)
          have c0 := cell_of_row _ _ 3 _ _ _ HX.out.1
          have cf := fun i => frozen_of_row _ _ i _ _ HX.out.1
          have h0 := heap_setCell_same _ w.heap.size 3 _ _ (.int .u64 (W64 m3)) HX.out.1
          have HLI := Lib.hid (show Lies _ _ _ from h0)
          have HOT := Lib.hid (heap_setCell_other (g nq) ⟨w.heap.size, 3, none⟩ (w.heap.size + 1) (.int .u64 (W64 m3)) (by show w.heap.size + 1 ≠ w.heap.size; omega))
          clear h0 s0
          go_simp
          exact ⟨HBA.out _ ⟨⟨_, _, _, _, HLI.out⟩, HOT.out.trans HX.out.2.1, HX.out.2.2.setCell (Nat.le_refl _) _⟩, HLI.out⟩
        simp [Act.put] at hA
        subst hA
        refine Gro3.nil ?_
        rintro w11 ⟨n9, rfl⟩ hG
        have hF := HFA.out n9
        replace HV := Lib.hid (show (f n9).heap[w.heap.size]? = _ from hG)
        replace HZZ := Lib.hid hF.2.1
        replace HN := Lib.hid hF.2.2
        clear HFA HBA HGB HBB hG hF s0 HK3 HQ3
        generalize f n9 = w9 at *
        go_wp2_with fail
        rw [rounds_succ]
        go_wp2
        exact ⟨⟨_, 0, 0, l2.drop 32, (m0, m1, m2, m3), rfl, HR0.out, HST.out, HTL.out, HMD.out, HZZ.out, HV.out, HN.out⟩, by simp [lenOf33] <;> omega⟩
      · have hcm2 : ¬ (c2 : Int) = 32 := by omega
        obtain ⟨sp2, hadd, hsp⟩ := row_rest HR.out (show 32 ≤ n2 by omega)
        obtain rfl : sp2 = none := by
          simp [Addr.add] at hadd
          first | exact hadd | exact hadd.symm
        have HR0 := Lib.hid hsp
        have HLT := Lib.hid hlt
        clear hsp hadd
        go_wp2_with fail
        refine wp_loop_rounds 5 ?_
        rw [rounds_succ]
        go_wp2_with fail
        refine Gro3.wp_region_gro3S (fun w' => (∃ u0 u1 u2 u3 : Value, w'.heap[w.heap.size]? = some (.cells #[u0, u1, u2, u3] 36 (0, 0))) ∧ w'.heap[w.heap.size + 1]? = some (.cells #[.int .u64 0, .int .u64 0, .int .u64 0, .int .u64 0] 36 (0, 0)) ∧ New w w') (fun w' => w'.heap[w.heap.size]? = some (.cells #[.int .u64 (W64 a0), .int .u64 (W64 a1), .int .u64 (W64 a2), .int .u64 (W64 a3)] 36 (0, 0)) ∧ w'.heap[w.heap.size + 1]? = some (.cells #[.int .u64 0, .int .u64 0, .int .u64 0, .int .u64 0] 36 (0, 0)) ∧ New w w') [0,0,0,1,0,0,0,2,2,0,3] New (fun _ _ _ => True) (by kernel_rfl) (by kernel_rfl) (by kernel_rfl) (fun _ _ _ _ _ _ => trivial) (fun w' hw' => ⟨⟨_, _, _, _, hw'.1⟩, hw'.2⟩) (⟨HV.out, HZZ.out, HN.out.drew⟩) ?_
        intro I J _ _ f g hfa hba hgb hbb
        have HFA := Lib.hid hfa
        have HBA := Lib.hid hba
        have HGB := Lib.hid hgb
        have HBB := Lib.hid hbb
        have s0 := fun n => cell_of_row _ _ 0 _ _ _ (hgb n).1
        clear hfa hba hgb hbb
        refine Gro3.take0 3 (by kernel_rfl) ?_
        simp only [List.take, List.drop, List.length]
        repeat (go_big_quiet_step (fail))
        refine wpQuiet_nil ?_
        refine Gro3.take1 1 (by kernel_rfl) ?_
        simp only [List.take, List.drop, List.length]
        repeat (go_big_quiet_step (fail))
        refine wpQuiet_nil ?_
        refine Gro3.take0 3 (by kernel_rfl) ?_
        simp only [List.take, List.drop, List.length]
        repeat (go_big_quiet_step (fail))
        refine wpQuiet_nil ?_
        refine Gro3.callt (fun v => v = .int .u64 (W64 k0)) (fun _ _ => True) rfl rfl (⟨_, rfl⟩) (fun _ _ _ _ _ => trivial) (fun w1 hB hG => ?_) (fun v1 A1 hv1 hA => ?_)
        · obtain ⟨nq, rfl⟩ := hB
          clear s0
          go_simp
          refine (HK0.out _ (HGB.out nq).2.2).mono ?_
          rintro e w2 ⟨rfl, rfl⟩
          first | exact ⟨_, rfl, ⟨nq, rfl⟩, New.refl _, rfl⟩ | exact ⟨_, rfl, ⟨nq, rfl⟩, New.refl _, rfl, trivial⟩ | exact ⟨⟨nq, rfl⟩, New.refl _⟩
        simp [Act.put] at hA
        subst hA
        obtain rfl := hv1
        refine Gro3.callt (fun v => v = .int .u64 (W64 m0)) (fun _ _ => True) rfl rfl (⟨_, rfl⟩) (fun _ _ _ _ _ => trivial) (fun w1 hB hG => ?_) (fun v2 A2 hv2 hA => ?_)
        · obtain ⟨nq, rfl⟩ := hB
          clear s0
          go_simp
          refine (HQ0.out _).mono ?_
          rintro e w2 ⟨rfl, rfl⟩
          first | exact ⟨_, rfl, ⟨nq, rfl⟩, New.refl _, rfl⟩ | exact ⟨_, rfl, ⟨nq, rfl⟩, New.refl _, rfl, trivial⟩ | exact ⟨⟨nq, rfl⟩, New.refl _⟩
        simp [Act.put] at hA
        subst hA
        obtain rfl := hv2
        refine Gro3.take0 1 (by kernel_rfl) ?_
        simp only [List.take, List.drop, List.length]
        repeat (go_big_quiet_step (fail))
        refine wpQuiet_nil ?_
        refine Gro3.turn (fun v => v = undef) (fun _ w9 => Lies w9 w.heap.size (.cells #[.int .u64 (W64 m0), .int .u64 (W64 a1), .int .u64 (W64 a2), .int .u64 (W64 a3)] 36 (0, 0))) rfl rfl ⟨_, rfl⟩ (fun w1 hB hG => ?_) (fun v3 A3 hv3 hA => ?_)
        · obtain ⟨nq, rfl⟩ : ∃ nq, w1 = g nq := hB
          have HX := Lib.hid (HGB.out nq)
          have c0 := cell_of_row _ _ 0 _ _ _ HX.out.1
          have cf := fun i => frozen_of_row _ _ i _ _ HX.out.1
          have h0 := heap_setCell_same _ w.heap.size 0 _ _ (.int .u64 (W64 m0)) HX.out.1
          have HLI := Lib.hid (show Lies _ _ _ from h0)
          have HOT := Lib.hid (heap_setCell_other (g nq) ⟨w.heap.size, 0, none⟩ (w.heap.size + 1) (.int .u64 (W64 m0)) (by show w.heap.size + 1 ≠ w.heap.size; omega))
          clear h0 s0
          go_simp
          exact ⟨HBA.out _ ⟨⟨_, _, _, _, HLI.out⟩, HOT.out.trans HX.out.2.1, HX.out.2.2.setCell (Nat.le_refl _) _⟩, HLI.out⟩
        simp [Act.put] at hA
        subst hA
        refine Gro3.nil ?_
        rintro w11 ⟨n9, rfl⟩ hG
        have hF := HFA.out n9
        replace HV := Lib.hid (show (f n9).heap[w.heap.size]? = _ from hG)
        replace HZZ := Lib.hid hF.2.1
        replace HN := Lib.hid hF.2.2
        clear HFA HBA HGB HBB hG hF s0 HK0 HQ0
        generalize f n9 = w9 at *
        go_wp2_with fail
        rw [rounds_succ]
        go_wp2_with fail
        refine Gro3.wp_region_gro3S (fun w' => (∃ u0 u1 u2 u3 : Value, w'.heap[w.heap.size]? = some (.cells #[u0, u1, u2, u3] 36 (0, 0))) ∧ w'.heap[w.heap.size + 1]? = some (.cells #[.int .u64 0, .int .u64 0, .int .u64 0, .int .u64 0] 36 (0, 0)) ∧ New w w') (fun w' => w'.heap[w.heap.size]? = some (.cells #[.int .u64 (W64 m0), .int .u64 (W64 a1), .int .u64 (W64 a2), .int .u64 (W64 a3)] 36 (0, 0)) ∧ w'.heap[w.heap.size + 1]? = some (.cells #[.int .u64 0, .int .u64 0, .int .u64 0, .int .u64 0] 36 (0, 0)) ∧ New w w') [0,0,0,1,0,0,0,2,2,0,3] New (fun _ _ _ => True) (by kernel_rfl) (by kernel_rfl) (by kernel_rfl) (fun _ _ _ _ _ _ => trivial) (fun w' hw' => ⟨⟨_, _, _, _, hw'.1⟩, hw'.2⟩) (⟨HV.out, HZZ.out, HN.out.drew⟩) ?_
        intro I J _ _ f g hfa hba hgb hbb
        have HFA := Lib.hid hfa
        have HBA := Lib.hid hba
        have HGB := Lib.hid hgb
        have HBB := Lib.hid hbb
        have s0 := fun n => cell_of_row _ _ 1 _ _ _ (hgb n).1
        clear hfa hba hgb hbb
        refine Gro3.take0 3 (by kernel_rfl) ?_
        simp only [List.take, List.drop, List.length]
        repeat (go_big_quiet_step (fail))
        refine wpQuiet_nil ?_
        refine Gro3.take1 1 (by kernel_rfl) ?_
        simp only [List.take, List.drop, List.length]
        repeat (go_big_quiet_step (fail))
        refine wpQuiet_nil ?_
        refine Gro3.take0 3 (by kernel_rfl) ?_
        simp only [List.take, List.drop, List.length]
        repeat (go_big_quiet_step (fail))
        refine wpQuiet_nil ?_
        refine Gro3.callt (fun v => v = .int .u64 (W64 k1)) (fun _ _ => True) rfl rfl (⟨_, rfl⟩) (fun _ _ _ _ _ => trivial) (fun w1 hB hG => ?_) (fun v1 A1 hv1 hA => ?_)
        · obtain ⟨nq, rfl⟩ := hB
          clear s0
          go_simp
          refine (HK1.out _ (HGB.out nq).2.2).mono ?_
          rintro e w2 ⟨rfl, rfl⟩
          first | exact ⟨_, rfl, ⟨nq, rfl⟩, New.refl _, rfl⟩ | exact ⟨_, rfl, ⟨nq, rfl⟩, New.refl _, rfl, trivial⟩ | exact ⟨⟨nq, rfl⟩, New.refl _⟩
        simp [Act.put] at hA
        subst hA
        obtain rfl := hv1
        refine Gro3.callt (fun v => v = .int .u64 (W64 m1)) (fun _ _ => True) rfl rfl (⟨_, rfl⟩) (fun _ _ _ _ _ => trivial) (fun w1 hB hG => ?_) (fun v2 A2 hv2 hA => ?_)
        · obtain ⟨nq, rfl⟩ := hB
          clear s0
          go_simp
          refine (HQ1.out _).mono ?_
          rintro e w2 ⟨rfl, rfl⟩
          first | exact ⟨_, rfl, ⟨nq, rfl⟩, New.refl _, rfl⟩ | exact ⟨_, rfl, ⟨nq, rfl⟩, New.refl _, rfl, trivial⟩ | exact ⟨⟨nq, rfl⟩, New.refl _⟩
        simp [Act.put] at hA
        subst hA
        obtain rfl := hv2
        refine Gro3.take0 1 (by kernel_rfl) ?_
        simp only [List.take, List.drop, List.length]
        repeat (go_big_quiet_step (fail))
        refine wpQuiet_nil ?_
        refine Gro3.turn (fun v => v = undef) (fun _ w9 => Lies w9 w.heap.size (.cells #[.int .u64 (W64 m0), .int .u64 (W64 m1), .int .u64 (W64 a2), .int .u64 (W64 a3)] 36 (0, 0))) rfl rfl ⟨_, rfl⟩ (fun w1 hB hG => ?_) (fun v3 A3 hv3 hA => ?_)
        · obtain ⟨nq, rfl⟩ : ∃ nq, w1 = g nq := hB
          have HX := Lib.hid (HGB.out nq)
          have c0 := cell_of_row _ _ 1 _ _ _ HX.out.1
          have cf := fun i => frozen_of_row _ _ i _ _ HX.out.1
          have h0 := heap_setCell_same _ w.heap.size 1 _ _ (.int .u64 (W64 m1)) HX.out.1
          have HLI := Lib.hid (show Lies _ _ _ from h0)
          have HOT := Lib.hid (heap_setCell_other (g nq) ⟨w.heap.size, 1, none⟩ (w.heap.size + 1) (.int .u64 (W64 m1)) (by show w.heap.size + 1 ≠ w.heap.size; omega))
          clear h0 s0
          go_simp
          exact ⟨HBA.out _ ⟨⟨_, _, _, _, HLI.out⟩, HOT.out.trans HX.out.2.1, HX.out.2.2.setCell (Nat.le_refl _) _⟩, HLI.out⟩
        simp [Act.put] at hA
        subst hA
        refine Gro3.nil ?_
        rintro w11 ⟨n9, rfl⟩ hG
        have hF := HFA.out n9
        replace HV := Lib.hid (show (f n9).heap[w.heap.size]? = _ from hG)
        replace HZZ := Lib.hid hF.2.1
        replace HN := Lib.hid hF.2.2
        clear HFA HBA HGB HBB hG hF s0 HK1 HQ1
        generalize f n9 = w9 at *
        go_wp2_with fail
        rw [rounds_succ]
        go_wp2_with fail
        refine Gro3.wp_region_gro3S (fun w' => (∃ u0 u1 u2 u3 : Value, w'.heap[w.heap.size]? = some (.cells #[u0, u1, u2, u3] 36 (0, 0))) ∧ w'.heap[w.heap.size + 1]? = some (.cells #[.int .u64 0, .int .u64 0, .int .u64 0, .int .u64 0] 36 (0, 0)) ∧ New w w') (fun w' => w'.heap[w.heap.size]? = some (.cells #[.int .u64 (W64 m0), .int .u64 (W64 m1), .int .u64 (W64 a2), .int .u64 (W64 a3)] 36 (0, 0)) ∧ w'.heap[w.heap.size + 1]? = some (.cells #[.int .u64 0, .int .u64 0, .int .u64 0, .int .u64 0] 36 (0, 0)) ∧ New w w') [0,0,0,1,0,0,0,2,2,0,3] New (fun _ _ _ => True) (by kernel_rfl) (by kernel_rfl) (by kernel_rfl) (fun _ _ _ _ _ _ => trivial) (fun w' hw' => ⟨⟨_, _, _, _, hw'.1⟩, hw'.2⟩) (⟨HV.out, HZZ.out, HN.out.drew⟩) ?_
        intro I J _ _ f g hfa hba hgb hbb
        have HFA := Lib.hid hfa
        have HBA := Lib.hid hba
        have HGB := Lib.hid hgb
        have HBB := Lib.hid hbb
        have s0 := fun n => cell_of_row _ _ 2 _ _ _ (hgb n).1
        clear hfa hba hgb hbb
        refine Gro3.take0 3 (by kernel_rfl) ?_
        simp only [List.take, List.drop, List.length]
        repeat (go_big_quiet_step (fail))
        refine wpQuiet_nil ?_
        refine Gro3.take1 1 (by kernel_rfl) ?_
        simp only [List.take, List.drop, List.length]
        repeat (go_big_quiet_step (fail))
        refine wpQuiet_nil ?_
        refine Gro3.take0 3 (by kernel_rfl) ?_
        simp only [List.take, List.drop, List.length]
        repeat (go_big_quiet_step (fail))
        refine wpQuiet_nil ?_
        refine Gro3.callt (fun v => v = .int .u64 (W64 k2)) (fun _ _ => True) rfl rfl (⟨_, rfl⟩) (fun _ _ _ _ _ => trivial) (fun w1 hB hG => ?_) (fun v1 A1 hv1 hA => ?_)
        · obtain ⟨nq, rfl⟩ := hB
          clear s0
          go_simp
          refine (HK2.out _ (HGB.out nq).2.2).mono ?_
          rintro e w2 ⟨rfl, rfl⟩
          first | exact ⟨_, rfl, ⟨nq, rfl⟩, New.refl _, rfl⟩ | exact ⟨_, rfl, ⟨nq, rfl⟩, New.refl _, rfl, trivial⟩ | exact ⟨⟨nq, rfl⟩, New.refl _⟩
        simp [Act.put] at hA
        subst hA
        obtain rfl := hv1
        refine Gro3.callt (fun v => v = .int .u64 (W64 m2)) (fun _ _ => True) rfl rfl (⟨_, rfl⟩) (fun _ _ _ _ _ => trivial) (fun w1 hB hG => ?_) (fun v2 A2 hv2 hA => ?_)
        · obtain ⟨nq, rfl⟩ := hB
          clear s0
          go_simp
          refine (HQ2.out _).mono ?_
          rintro e w2 ⟨rfl, rfl⟩
          first | exact ⟨_, rfl, ⟨nq, rfl⟩, New.refl _, rfl⟩ | exact ⟨_, rfl, ⟨nq, rfl⟩, New.refl _, rfl, trivial⟩ | exact ⟨⟨nq, rfl⟩, New.refl _⟩
        simp [Act.put] at hA
        subst hA
        obtain rfl := hv2
        refine Gro3.take0 1 (by kernel_rfl) ?_
        simp only [List.take, List.drop, List.length]
        repeat (go_big_quiet_step (fail))
        refine wpQuiet_nil ?_
        refine Gro3.turn (fun v => v = undef) (fun _ w9 => Lies w9 w.heap.size (.cells #[.int .u64 (W64 m0), .int .u64 (W64 m1), .int .u64 (W64 m2), .int .u64 (W64 a3)] 36 (0, 0))) rfl rfl ⟨_, rfl⟩ (fun w1 hB hG => ?_) (fun v3 A3 hv3 hA => ?_)
        · obtain ⟨nq, rfl⟩ : ∃ nq, w1 = g nq := hB
          have HX := Lib.hid (HGB.out nq)
          have c0 := cell_of_row _ _ 2 _ _ _ HX.out.1
          have cf := fun i => frozen_of_row _ _ i _ _ HX.out.1
          have h0 := heap_setCell_same _ w.heap.size 2 _ _ (.int .u64 (W64 m2)) HX.out.1
          have HLI := Lib.hid (show Lies _ _ _ from h0)
          have HOT := Lib.hid (heap_setCell_other (g nq) ⟨w.heap.size, 2, none⟩ (w.heap.size + 1) (.int .u64 (W64 m2)) (by show w.heap.size + 1 ≠ w.heap.size; omega))
          clear h0 s0
          go_simp
          exact ⟨HBA.out _ ⟨⟨_, _, _, _, HLI.out⟩, HOT.out.trans HX.out.2.1, HX.out.2.2.setCell (Nat.le_refl _) _⟩, HLI.out⟩
        simp [Act.put] at hA
        subst hA
        refine Gro3.nil ?_
        rintro w11 ⟨n9, rfl⟩ hG
        have hF := HFA.out n9
        replace HV := Lib.hid (show (f n9).heap[w.heap.size]? = _ from hG)
        replace HZZ := Lib.hid hF.2.1
        replace HN := Lib.hid hF.2.2
        clear HFA HBA HGB HBB hG hF s0 HK2 HQ2
        generalize f n9 = w9 at *
        go_wp2_with fail
        rw [rounds_succ]
        go_wp2_with fail
        refine Gro3.wp_region_gro3S (fun w' => (∃ u0 u1 u2 u3 : Value, w'.heap[w.heap.size]? = some (.cells #[u0, u1, u2, u3] 36 (0, 0))) ∧ w'.heap[w.heap.size + 1]? = some (.cells #[.int .u64 0, .int .u64 0, .int .u64 0, .int .u64 0] 36 (0, 0)) ∧ New w w') (fun w' => w'.heap[w.heap.size]? = some (.cells #[.int .u64 (W64 m0), .int .u64 (W64 m1), .int .u64 (W64 m2), .int .u64 (W64 a3)] 36 (0, 0)) ∧ w'.heap[w.heap.size + 1]? = some (.cells #[.int .u64 0, .int .u64 0, .int .u64 0, .int .u64 0] 36 (0, 0)) ∧ New w w') [0,0,0,1,0,0,0,2,2,0,3] New (fun _ _ _ => True) (by kernel_rfl) (by kernel_rfl) (by kernel_rfl) (fun _ _ _ _ _ _ => trivial) (fun w' hw' => ⟨⟨_, _, _, _, hw'.1⟩, hw'.2⟩) (⟨HV.out, HZZ.out, HN.out.drew⟩) ?_
        intro I J _ _ f g hfa hba hgb hbb
        have HFA := Lib.hid hfa
        have HBA := Lib.hid hba
        have HGB := Lib.hid hgb
        have HBB := Lib.hid hbb
        have s0 := fun n => cell_of_row _ _ 3 _ _ _ (hgb n).1
        clear hfa hba hgb hbb
        refine Gro3.take0 3 (by kernel_rfl) ?_
        simp only [List.take, List.drop, List.length]
        repeat (go_big_quiet_step (fail))
        refine wpQuiet_nil ?_
        refine Gro3.take1 1 (by kernel_rfl) ?_
        simp only [List.take, List.drop, List.length]
        repeat (go_big_quiet_step (fail))
        refine wpQuiet_nil ?_
        refine Gro3.take0 3 (by kernel_rfl) ?_
        simp only [List.take, List.drop, List.length]
        repeat (go_big_quiet_step (fail))
        refine wpQuiet_nil ?_
        refine Gro3.callt (fun v => v = .int .u64 (W64 k3)) (fun _ _ => True) rfl rfl (⟨_, rfl⟩) (fun _ _ _ _ _ => trivial) (fun w1 hB hG => ?_) (fun v1 A1 hv1 hA => ?_)
        · obtain ⟨nq, rfl⟩ := hB
          clear s0
          go_simp
          refine (HK3.out _ (HGB.out nq).2.2).mono ?_
          rintro e w2 ⟨rfl, rfl⟩
          first | exact ⟨_, rfl, ⟨nq, rfl⟩, New.refl _, rfl⟩ | exact ⟨_, rfl, ⟨nq, rfl⟩, New.refl _, rfl, trivial⟩ | exact ⟨⟨nq, rfl⟩, New.refl _⟩
        simp [Act.put] at hA
        subst hA
        obtain rfl := hv1
        refine Gro3.callt (fun v => v = .int .u64 (W64 m3)) (fun _ _ => True) rfl rfl (⟨_, rfl⟩) (fun _ _ _ _ _ => trivial) (fun w1 hB hG => ?_) (fun v2 A2 hv2 hA => ?_)
        · obtain ⟨nq, rfl⟩ := hB
          clear s0
          go_simp
          refine (HQ3.out _).mono ?_
          rintro e w2 ⟨rfl, rfl⟩
          first | exact ⟨_, rfl, ⟨nq, rfl⟩, New.refl _, rfl⟩ | exact ⟨_, rfl, ⟨nq, rfl⟩, New.refl _, rfl, trivial⟩ | exact ⟨⟨nq, rfl⟩, New.refl _⟩
        simp [Act.put] at hA
        subst hA
        obtain rfl := hv2
        refine Gro3.take0 1 (by kernel_rfl) ?_
        simp only [List.take, List.drop, List.length]
        repeat (go_big_quiet_step (fail))
        refine wpQuiet_nil ?_
        refine Gro3.turn (fun v => v = undef) (fun _ w9 => Lies w9 w.heap.size (.cells #[.int .u64 (W64 m0), .int .u64 (W64 m1), .int .u64 (W64 m2), .int .u64 (W64 m3)] 36 (0, 0))) rfl rfl ⟨_, rfl⟩ (fun w1 hB hG => ?_) (fun v3 A3 hv3 hA => ?_)
        · obtain ⟨nq, rfl⟩ : ∃ nq, w1 = g nq := hB
          have HX := Lib.hid (HGB.out nq)
          have c0 := cell_of_row _ _ 3 _ _ _ HX.out.1
          have cf := fun i => frozen_of_row _ _ i _ _ HX.out.1
          have h0 := heap_setCell_same _ w.heap.size 3 _ _ (.int .u64 (W64 m3)) HX.out.1
          have HLI := Lib.hid (show Lies _ _ _ from h0)
          have HOT := Lib.hid (heap_setCell_other (g nq) ⟨w.heap.size, 3, none⟩ (w.heap.size + 1) (.int .u64 (W64 m3)) (by show w.heap.size + 1 ≠ w.heap.size; omega))
          clear h0 s0
          go_simp
          exact ⟨HBA.out _ ⟨⟨_, _, _, _, HLI.out⟩, HOT.out.trans HX.out.2.1, HX.out.2.2.setCell (Nat.le_refl _) _⟩, HLI.out⟩
        simp [Act.put] at hA
        subst hA
        refine Gro3.nil ?_
        rintro w11 ⟨n9, rfl⟩ hG
        have hF := HFA.out n9
        replace HV := Lib.hid (show (f n9).heap[w.heap.size]? = _ from hG)
        replace HZZ := Lib.hid hF.2.1
        replace HN := Lib.hid hF.2.2
        clear HFA HBA HGB HBB hG hF s0 HK3 HQ3
        generalize f n9 = w9 at *
        go_wp2_with fail
        rw [rounds_succ]
        go_wp2
        exact ⟨⟨_, (n2 - 32), (c2 - 32), l2.drop 32, (m0, m1, m2, m3), rfl, HR0.out, HST.out, HTL.out, HMD.out, HZZ.out, HV.out, HN.out⟩, by simp [lenOf33] <;> omega⟩
    · have hsh : l2.length < 32 := by omega
      have h1 := bState_short 32 stp33 s2 l2 hsh
      have h2 := bTail_short 32 l2 hsh
      rw [h1] at HS
      rw [h2] at HT
      have h3 : n % 32 = n2 := by have := HM.out; omega
      have H3 := Lib.hid h3
      have z0 := cell_of_row _ _ 0 _ _ _ HZZ.out
      have v0 := cell_of_row _ _ 0 _ _ _ HV.out
      have z1 := cell_of_row _ _ 1 _ _ _ HZZ.out
      have v1 := cell_of_row _ _ 1 _ _ _ HV.out
      have z2 := cell_of_row _ _ 2 _ _ _ HZZ.out
      have v2 := cell_of_row _ _ 2 _ _ _ HV.out
      have z3 := cell_of_row _ _ 3 _ _ _ HZZ.out
      have v3 := cell_of_row _ _ 3 _ _ _ HV.out
      have zf := fun i => frozen_of_row _ _ i _ _ HZZ.out
      clear h1 h2 h3 hsh
      go_wp2
      refine bodyPost_ret (by simp [results, Try.results64, go_sem, z0, z1, z2, z3]; try rfl) rfl ?_
      have hq : ∀ i, w.heap.size ≤ (⟨w.heap.size + 1, i, none⟩ : Addr).block := fun i => by show w.heap.size ≤ w.heap.size + 1; omega
      have HNF := ((((HN.out.setCell (hq 0) (.int .u64 (W64 s2.1))).setCell (hq 1) (.int .u64 (W64 s2.2.1))).setCell (hq 2) (.int .u64 (W64 s2.2.2.1))).setCell (hq 3) (.int .u64 (W64 s2.2.2.2)))
      rw [H3.out, ← HS.out, ← HT.out]
      exact ⟨aa, c2, rfl, HR.out.stay HNF, HNF⟩
set_option maxRecDepth 100000 in
set_option maxHeartbeats 1000000 in
theorem blocks_ref33 (sd : BitVec 64) (a : Option Addr) (n c : Nat) (l : List (BitVec 8)) (w : World) (h : BRow w a n c l) :
    Calls Try.prog 31 #[.int .u64 (W64 sd), .slice a n c] w fun e w' => ∃ a' c', e = .returned (.tuple #[.agg #[.int .u64 (W64 ((bState 32 stp33 (start33 sd) l).1)), .int .u64 (W64 ((bState 32 stp33 (start33 sd) l).2.1)), .int .u64 (W64 ((bState 32 stp33 (start33 sd) l).2.2.1)), .int .u64 (W64 ((bState 32 stp33 (start33 sd) l).2.2.2))], .slice a' (n % 32 : Nat) c']) ∧ BRow w' a' (n % 32) c' (bTail 32 l) ∧ New w w' := by
  have HF := Lib.hid (fun w' (hn : New w w') => from_ref33 (start33 sd) a n c l w' (h.stay hn))
  have HZ := Lib.hid (fun B => two_blocks w (.cells #[.int .u64 0, .int .u64 0, .int .u64 0, .int .u64 0] 36) B)
  obtain ⟨st, h1⟩ : ∃ z, bState 32 stp33 (start33 sd) l = z := ⟨_, rfl⟩
  obtain ⟨tl, h2⟩ : ∃ z, bTail 32 l = z := ⟨_, rfl⟩
  rw [h1, h2] at HF
  rw [h1, h2]
  clear h h1 h2
  unfold start33 at HF
  simp only at HF
  go_enter Try.func31, Try.ntmps31
  go_wp2_with fail
  refine (HF.out _ (((New.refl w).alloc _).alloc _)).mono ?_
  rintro e w9 ⟨a2, c2, rfl, hr, hn⟩
  have HR := Lib.hid hr
  have HO := Lib.hid ((hn.block _ (lt_of_block (HZ.out _).1)).trans (HZ.out _).1)
  have HN := Lib.hid ((((New.refl w).alloc _).alloc _).trans hn)
  clear hr hn HF HZ
  have z0 := cell_of_row _ _ 0 _ _ _ HO.out
  have z1 := cell_of_row _ _ 1 _ _ _ HO.out
  have z2 := cell_of_row _ _ 2 _ _ _ HO.out
  have z3 := cell_of_row _ _ 3 _ _ _ HO.out
  have zf := fun i => frozen_of_row _ _ i _ _ HO.out
  go_wp2
  refine bodyPost_ret (by simp [results, Try.results31, go_sem, z0, z1, z2, z3]; try rfl) rfl ?_
  have hq : ∀ i, w.heap.size ≤ (⟨w.heap.size, i, none⟩ : Addr).block := fun i => Nat.le_refl _
  have hnb : NoBytes w9 w.heap.size := ⟨_, _, _, HO.out, by simp⟩
  refine ⟨a2, c2, rfl, HR.out.buts (((((But.refl w.heap.size w9).setCell (p := ⟨w.heap.size, 0, none⟩) rfl _).setCell (p := ⟨w.heap.size, 1, none⟩) rfl _).setCell (p := ⟨w.heap.size, 2, none⟩) rfl _).setCell (p := ⟨w.heap.size, 3, none⟩) rfl _) hnb, ?_⟩
  exact (((HN.out.setCell (hq 0) _).setCell (hq 1) _).setCell (hq 2) _).setCell (hq 3) _
end Go.Proofs.Ytfeeecmcaakpkaa
