/- Layer 34: the document's From. -/
import Derived.Test.YtoplabhoedloeaaM34C
import Derived.Defers
import Derived.Recover
import Derived.Laws.Pointers
import Derived.Handy
import Derived.Laws.EntriesVeiled
namespace Go.Proofs.Ytoplabhoedloeaa
open Go.RowKit Go.Bv
set_option linter.unusedVariables false
theorem rd_take34 (l : List (BitVec 8)) (n k m : Nat) (h : k + m ≤ n) : rd (l.take n) k m = rd l k m := by
  unfold rd
  exact num_congr m (fun i hi => by simp [List.getD_eq_getElem?_getD, show k + i < n by omega])
set_option maxRecDepth 100000 in
set_option maxHeartbeats 8000000 in
theorem from_ref34 (kind : Int) (kd : Nat × Nat × Bool) (hr : (kind = 7 ∧ kd.1 = 1) ∨ (kind ≠ 7 ∧ kd.1 = 2)) (s : BitVec 64 × BitVec 64 × BitVec 64 × BitVec 64) (a : Option Addr) (n c : Nat) (l : List (BitVec 8)) (w : World) (h : BRow w a n c l) :
    Calls Try.prog 43 #[.int .i64 kind, .agg #[.int .u64 (W64 (s.1)), .int .u64 (W64 (s.2.1)), .int .u64 (W64 (s.2.2.1)), .int .u64 (W64 (s.2.2.2))], .slice a n c] w fun e w' => ∃ a' c', e = .returned (.tuple #[.agg #[.int .u64 (W64 ((bState 8 (stp34 kd) s l).1)), .int .u64 (W64 ((bState 8 (stp34 kd) s l).2.1)), .int .u64 (W64 ((bState 8 (stp34 kd) s l).2.2.1)), .int .u64 (W64 ((bState 8 (stp34 kd) s l).2.2.2))], .slice a' (n % 8 : Nat) c']) ∧ BRow w' a' (n % 8) c' (bTail 8 l) ∧ New w w' := by
  have H := Lib.hid h
  have HL := Lib.hid h.len_eq
  clear h
  have HZ := Lib.hid (two_blocks w (.cells #[.int .u64 (W64 (s.1)), .int .u64 (W64 (s.2.1)), .int .u64 (W64 (s.2.2.1)), .int .u64 (W64 (s.2.2.2))] 57) (.cells #[.int .u64 0, .int .u64 0, .int .u64 0, .int .u64 0] 57))
  go_enter Try.func43, Try.ntmps43
  go_wp2
  go_loopw [2] (fun sl wr => ∃ (a2 : Option Addr) (n2 c2 : Nat) (l2 : List (BitVec 8)) (s2 : BitVec 64 × BitVec 64 × BitVec 64 × BitVec 64), sl = .slice a2 n2 c2 ∧ BRow w a2 n2 c2 l2 ∧ bState 8 (stp34 kd) s2 l2 = bState 8 (stp34 kd) s l ∧ bTail 8 l2 = bTail 8 l ∧ n2 % 8 = n % 8 ∧ wr.heap[w.heap.size + 1]? = some (.cells #[.int .u64 0, .int .u64 0, .int .u64 0, .int .u64 0] 57 (0, 0)) ∧ wr.heap[w.heap.size]? = some (.cells #[.int .u64 (W64 (s2.1)), .int .u64 (W64 (s2.2.1)), .int .u64 (W64 (s2.2.2.1)), .int .u64 (W64 (s2.2.2.2))] 57 (0, 0)) ∧ New w wr) (fun sl _ => lenOf34 sl)
  case atStart => exact ⟨a, n, c, l, s, rfl, H.out, rfl, rfl, rfl, HZ.out.2.1, HZ.out.1, HZ.out.2.2⟩
  case round =>
    clear HZ
    obtain ⟨aa, n2, c2, l2, s2, rfl, hrow, hs, ht, hm, hz, hvb, hn⟩ := hrel
    have HR := Lib.hid hrow
    have HS := Lib.hid hs
    have HT := Lib.hid ht
    have HM := Lib.hid hm
    have HZZ := Lib.hid hz
    have HV := Lib.hid hvb
    have HN := Lib.hid hn
    have hle := hrow.le
    have hlen := hrow.len_eq
    have hmost := hrow.most
    have hroom := hrow.room
    clear hrow hs ht hm hz hn hvb
    by_cases hlt : (8 : Int) ≤ (n2 : Int)
    · obtain ⟨b, off, rfl, _⟩ := HR.out.addr (by omega)
      have hst := bState_step 8 (by decide) (stp34 kd) s2 l2 (by omega)
      have htl := bTail_step 8 (by decide) l2 (by omega)
      obtain ⟨a0, a1, a2, a3⟩ := s2
      have hstp : stp34 kd (a0, a1, a2, a3) (l2.take 8) = word34 kd.1 (a0, a1, a2, a3) (rd l2 0 8) := by
        unfold stp34
        rw [rd_take34 l2 8 0 8 (by omega)]
      rw [hstp] at hst
      clear hstp
      have HK := Lib.hid (fun w' (hn : New w w') => num_ref (some ⟨b, off, none⟩) n2 c2 l2 0 8 w' (HR.out.stay hn) (by omega) (by omega))
      obtain ⟨kk, hk⟩ : ∃ z, rd l2 0 8 = z := ⟨_, rfl⟩
      rw [hk] at HK hst
      clear hk
      have HW := Lib.hid (word_34d kind kd.1 hr (a0, a1, a2, a3) kk)
      obtain ⟨⟨m0, m1, m2, m3⟩, hr2⟩ : ∃ z, word34 kd.1 (a0, a1, a2, a3) kk = z := ⟨_, rfl⟩
      rw [hr2] at HW hst
      clear hr2
      have HST := Lib.hid (hst.symm.trans HS.out)
      have HTL := Lib.hid (htl.symm.trans HT.out)
      clear hst htl
      have hmod : (n2 - 8) % 8 = n2 % 8 := by omega
      have HMD := Lib.hid (hmod.trans HM.out)
      have hi1 : (8 : Int) ≤ (c2 : Int) := by omega
      have hlc : (n2 : Int) ≤ (c2 : Int) := by omega
      clear hmod hr
      by_cases hcm : c2 = 8
      · obtain rfl : n2 = 8 := by omega
        subst hcm
        have HR0 := Lib.hid (row_end HR.out)
        go_wp2_with fail
        refine Gro3.wp_region_gro3S (fun w' => (∃ u0 u1 u2 u3 : Value, w'.heap[w.heap.size]? = some (.cells #[u0, u1, u2, u3] 57 (0, 0))) ∧ w'.heap[w.heap.size + 1]? = some (.cells #[.int .u64 0, .int .u64 0, .int .u64 0, .int .u64 0] 57 (0, 0)) ∧ New w w') (fun w' => w'.heap[w.heap.size]? = some (.cells #[.int .u64 (W64 a0), .int .u64 (W64 a1), .int .u64 (W64 a2), .int .u64 (W64 a3)] 57 (0, 0)) ∧ w'.heap[w.heap.size + 1]? = some (.cells #[.int .u64 0, .int .u64 0, .int .u64 0, .int .u64 0] 57 (0, 0)) ∧ New w w') [0,1,0,2,2,3] New (fun _ _ _ => True) (by kernel_rfl) (by kernel_rfl) (by kernel_rfl) (fun _ _ _ _ _ _ => trivial) (fun w' hw' => ⟨⟨_, _, _, _, hw'.1⟩, hw'.2⟩) (⟨HV.out, HZZ.out, HN.out.drew⟩) ?_
        intro I J _ _ f g hfa hba hgb hbb
        have HFA := Lib.hid hfa
        have HBA := Lib.hid hba
        have HGB := Lib.hid hgb
        have HBB := Lib.hid hbb
        have fs0 := fun n => cell_of_row _ _ 0 _ _ _ (hgb n).1
        have fs1 := fun n => cell_of_row _ _ 1 _ _ _ (hgb n).1
        have fs2 := fun n => cell_of_row _ _ 2 _ _ _ (hgb n).1
        have fs3 := fun n => cell_of_row _ _ 3 _ _ _ (hgb n).1
        clear hfa hba hgb hbb
        refine Gro3.take0 1 (by kernel_rfl) ?_
        simp only [List.take, List.drop, List.length]
        repeat (go_big_quiet_step (fail))
        refine wpQuiet_nil ?_
        refine Gro3.take1 1 (by kernel_rfl) ?_
        simp only [List.take, List.drop, List.length]
        repeat (go_big_quiet_step (fail))
        refine wpQuiet_nil ?_
        refine Gro3.take0 1 (by kernel_rfl) ?_
        simp only [List.take, List.drop, List.length]
        repeat (go_big_quiet_step (fail))
        refine wpQuiet_nil ?_
        refine Gro3.callt (fun v => v = .int .u64 (W64 kk)) (fun _ _ => True) rfl rfl (⟨_, rfl⟩) (fun _ _ _ _ _ => trivial) (fun w1 hB hG => ?_) (fun v1 A1 hv1 hA => ?_)
        · obtain ⟨nq, rfl⟩ := hB
          clear fs0 fs1 fs2 fs3
          go_simp
          refine (HK.out _ (HGB.out nq).2.2).mono ?_
          rintro e w2 ⟨rfl, rfl⟩
          first | exact ⟨_, rfl, ⟨nq, rfl⟩, New.refl _, rfl⟩ | exact ⟨_, rfl, ⟨nq, rfl⟩, New.refl _, rfl, trivial⟩ | exact ⟨⟨nq, rfl⟩, New.refl _⟩
        simp [Act.put] at hA
        subst hA
        obtain rfl := hv1
        refine Gro3.callt (fun v => v = (.agg #[.int .u64 (W64 m0), .int .u64 (W64 m1), .int .u64 (W64 m2), .int .u64 (W64 m3)])) (fun _ _ => True) rfl rfl (⟨_, rfl⟩) (fun _ _ _ _ _ => trivial) (fun w1 hB hG => ?_) (fun v2 A2 hv2 hA => ?_)
        · obtain ⟨nq, rfl⟩ := hB
          clear fs0 fs1 fs2 fs3
          go_simp
          refine (HW.out _).mono ?_
          rintro e w2 ⟨rfl, hn⟩
          have HX := HBB.out _ ⟨(hn.block _ (lt_of_block (HGB.out nq).1)).trans (HGB.out nq).1, (hn.block _ (lt_of_block (HGB.out nq).2.1)).trans (HGB.out nq).2.1, (HGB.out nq).2.2.trans hn⟩
          first | exact ⟨_, rfl, HX, hn, rfl⟩ | exact ⟨_, rfl, HX, hn, rfl, trivial⟩ | exact ⟨rfl, HX, hn⟩ | exact ⟨HX, hn, rfl⟩ | exact ⟨HX, hn⟩
        simp [Act.put] at hA
        subst hA
        obtain rfl := hv2
        refine Gro3.turn (fun v => v = undef) (fun _ w9 => Lies w9 w.heap.size (.cells #[.int .u64 (W64 m0), .int .u64 (W64 m1), .int .u64 (W64 m2), .int .u64 (W64 m3)] 57 (0, 0))) rfl rfl ⟨_, rfl⟩ (fun w1 hB hG => ?_) (fun v3 A3 hv3 hA => ?_)
        · obtain ⟨nq, rfl⟩ : ∃ nq, w1 = g nq := hB
          have HX := Lib.hid (HGB.out nq)
          have c0 := cell_of_row _ _ 0 _ _ _ HX.out.1
          have c1 := cell_of_row _ _ 1 _ _ _ HX.out.1
          have c2 := cell_of_row _ _ 2 _ _ _ HX.out.1
          have c3 := cell_of_row _ _ 3 _ _ _ HX.out.1
          have cf := fun i => frozen_of_row _ _ i _ _ HX.out.1
          have HP := Lib.hid (put4h (.int .u64 (W64 m0)) (.int .u64 (W64 m1)) (.int .u64 (W64 m2)) (.int .u64 (W64 m3)) HX.out.1)
          have HLI := Lib.hid (show Lies _ _ _ from HP.out.1)
          clear fs0 fs1 fs2 fs3
          go_simp
          exact ⟨HBA.out _ ⟨⟨_, _, _, _, HLI.out⟩, (HP.out.2.1 _ (by omega)).trans HX.out.2.1, HP.out.2.2 _ HX.out.2.2 (Nat.le_refl _)⟩, HLI.out⟩
        simp [Act.put] at hA
        subst hA
        refine Gro3.nil ?_
        rintro w11 ⟨n9, rfl⟩ hG
        have hF := HFA.out n9
        replace HV := Lib.hid (show (f n9).heap[w.heap.size]? = _ from hG)
        replace HZZ := Lib.hid hF.2.1
        replace HN := Lib.hid hF.2.2
        clear HFA HBA HGB HBB hG hF fs0 fs1 fs2 fs3 HK HW
        generalize f n9 = w9 at *
        go_wp2
        exact ⟨⟨_, 0, 0, l2.drop 8, (m0, m1, m2, m3), rfl, HR0.out, HST.out, HTL.out, HMD.out, HZZ.out, HV.out, HN.out⟩, by simp [lenOf34] <;> omega⟩
      · have hcm2 : ¬ (c2 : Int) = 8 := by omega
        obtain ⟨sp2, hadd, hsp⟩ := row_rest HR.out (show 8 ≤ n2 by omega)
        obtain rfl : sp2 = none := by
          simp [Addr.add] at hadd
          first | exact hadd | exact hadd.symm
        have HR0 := Lib.hid hsp
        have HLT := Lib.hid hlt
        clear hsp hadd
        go_wp2_with fail
        refine Gro3.wp_region_gro3S (fun w' => (∃ u0 u1 u2 u3 : Value, w'.heap[w.heap.size]? = some (.cells #[u0, u1, u2, u3] 57 (0, 0))) ∧ w'.heap[w.heap.size + 1]? = some (.cells #[.int .u64 0, .int .u64 0, .int .u64 0, .int .u64 0] 57 (0, 0)) ∧ New w w') (fun w' => w'.heap[w.heap.size]? = some (.cells #[.int .u64 (W64 a0), .int .u64 (W64 a1), .int .u64 (W64 a2), .int .u64 (W64 a3)] 57 (0, 0)) ∧ w'.heap[w.heap.size + 1]? = some (.cells #[.int .u64 0, .int .u64 0, .int .u64 0, .int .u64 0] 57 (0, 0)) ∧ New w w') [0,1,0,2,2,3] New (fun _ _ _ => True) (by kernel_rfl) (by kernel_rfl) (by kernel_rfl) (fun _ _ _ _ _ _ => trivial) (fun w' hw' => ⟨⟨_, _, _, _, hw'.1⟩, hw'.2⟩) (⟨HV.out, HZZ.out, HN.out.drew⟩) ?_
        intro I J _ _ f g hfa hba hgb hbb
        have HFA := Lib.hid hfa
        have HBA := Lib.hid hba
        have HGB := Lib.hid hgb
        have HBB := Lib.hid hbb
        have fs0 := fun n => cell_of_row _ _ 0 _ _ _ (hgb n).1
        have fs1 := fun n => cell_of_row _ _ 1 _ _ _ (hgb n).1
        have fs2 := fun n => cell_of_row _ _ 2 _ _ _ (hgb n).1
        have fs3 := fun n => cell_of_row _ _ 3 _ _ _ (hgb n).1
        clear hfa hba hgb hbb
        refine Gro3.take0 1 (by kernel_rfl) ?_
        simp only [List.take, List.drop, List.length]
        repeat (go_big_quiet_step (fail))
        refine wpQuiet_nil ?_
        refine Gro3.take1 1 (by kernel_rfl) ?_
        simp only [List.take, List.drop, List.length]
        repeat (go_big_quiet_step (fail))
        refine wpQuiet_nil ?_
        refine Gro3.take0 1 (by kernel_rfl) ?_
        simp only [List.take, List.drop, List.length]
        repeat (go_big_quiet_step (fail))
        refine wpQuiet_nil ?_
        refine Gro3.callt (fun v => v = .int .u64 (W64 kk)) (fun _ _ => True) rfl rfl (⟨_, rfl⟩) (fun _ _ _ _ _ => trivial) (fun w1 hB hG => ?_) (fun v1 A1 hv1 hA => ?_)
        · obtain ⟨nq, rfl⟩ := hB
          clear fs0 fs1 fs2 fs3
          go_simp
          refine (HK.out _ (HGB.out nq).2.2).mono ?_
          rintro e w2 ⟨rfl, rfl⟩
          first | exact ⟨_, rfl, ⟨nq, rfl⟩, New.refl _, rfl⟩ | exact ⟨_, rfl, ⟨nq, rfl⟩, New.refl _, rfl, trivial⟩ | exact ⟨⟨nq, rfl⟩, New.refl _⟩
        simp [Act.put] at hA
        subst hA
        obtain rfl := hv1
        refine Gro3.callt (fun v => v = (.agg #[.int .u64 (W64 m0), .int .u64 (W64 m1), .int .u64 (W64 m2), .int .u64 (W64 m3)])) (fun _ _ => True) rfl rfl (⟨_, rfl⟩) (fun _ _ _ _ _ => trivial) (fun w1 hB hG => ?_) (fun v2 A2 hv2 hA => ?_)
        · obtain ⟨nq, rfl⟩ := hB
          clear fs0 fs1 fs2 fs3
          go_simp
          refine (HW.out _).mono ?_
          rintro e w2 ⟨rfl, hn⟩
          have HX := HBB.out _ ⟨(hn.block _ (lt_of_block (HGB.out nq).1)).trans (HGB.out nq).1, (hn.block _ (lt_of_block (HGB.out nq).2.1)).trans (HGB.out nq).2.1, (HGB.out nq).2.2.trans hn⟩
          first | exact ⟨_, rfl, HX, hn, rfl⟩ | exact ⟨_, rfl, HX, hn, rfl, trivial⟩ | exact ⟨rfl, HX, hn⟩ | exact ⟨HX, hn, rfl⟩ | exact ⟨HX, hn⟩
        simp [Act.put] at hA
        subst hA
        obtain rfl := hv2
        refine Gro3.turn (fun v => v = undef) (fun _ w9 => Lies w9 w.heap.size (.cells #[.int .u64 (W64 m0), .int .u64 (W64 m1), .int .u64 (W64 m2), .int .u64 (W64 m3)] 57 (0, 0))) rfl rfl ⟨_, rfl⟩ (fun w1 hB hG => ?_) (fun v3 A3 hv3 hA => ?_)
        · obtain ⟨nq, rfl⟩ : ∃ nq, w1 = g nq := hB
          have HX := Lib.hid (HGB.out nq)
          have c0 := cell_of_row _ _ 0 _ _ _ HX.out.1
          have c1 := cell_of_row _ _ 1 _ _ _ HX.out.1
          have c2 := cell_of_row _ _ 2 _ _ _ HX.out.1
          have c3 := cell_of_row _ _ 3 _ _ _ HX.out.1
          have cf := fun i => frozen_of_row _ _ i _ _ HX.out.1
          have HP := Lib.hid (put4h (.int .u64 (W64 m0)) (.int .u64 (W64 m1)) (.int .u64 (W64 m2)) (.int .u64 (W64 m3)) HX.out.1)
          have HLI := Lib.hid (show Lies _ _ _ from HP.out.1)
          clear fs0 fs1 fs2 fs3
          go_simp
          exact ⟨HBA.out _ ⟨⟨_, _, _, _, HLI.out⟩, (HP.out.2.1 _ (by omega)).trans HX.out.2.1, HP.out.2.2 _ HX.out.2.2 (Nat.le_refl _)⟩, HLI.out⟩
        simp [Act.put] at hA
        subst hA
        refine Gro3.nil ?_
        rintro w11 ⟨n9, rfl⟩ hG
        have hF := HFA.out n9
        replace HV := Lib.hid (show (f n9).heap[w.heap.size]? = _ from hG)
        replace HZZ := Lib.hid hF.2.1
        replace HN := Lib.hid hF.2.2
        clear HFA HBA HGB HBB hG hF fs0 fs1 fs2 fs3 HK HW
        generalize f n9 = w9 at *
        go_wp2
        exact ⟨⟨_, (n2 - 8), (c2 - 8), l2.drop 8, (m0, m1, m2, m3), rfl, HR0.out, HST.out, HTL.out, HMD.out, HZZ.out, HV.out, HN.out⟩, by simp [lenOf34] <;> omega⟩
    · have hsh : l2.length < 8 := by omega
      have h1 := bState_short 8 (stp34 kd) s2 l2 hsh
      have h2 := bTail_short 8 l2 hsh
      rw [h1] at HS
      rw [h2] at HT
      have h3 : n % 8 = n2 := by have := HM.out; omega
      have H3 := Lib.hid h3
      have z0 := cell_of_row _ _ 0 _ _ _ HZZ.out
      have v0 := cell_of_row _ _ 0 _ _ _ HV.out
      have z1 := cell_of_row _ _ 1 _ _ _ HZZ.out
      have v1 := cell_of_row _ _ 1 _ _ _ HV.out
      have z2 := cell_of_row _ _ 2 _ _ _ HZZ.out
      have v2 := cell_of_row _ _ 2 _ _ _ HV.out
      have z3 := cell_of_row _ _ 3 _ _ _ HZZ.out
      have v3 := cell_of_row _ _ 3 _ _ _ HV.out
      have zf := fun i => frozen_of_row _ _ i _ _ HZZ.out
      clear h1 h2 h3 hsh
      go_wp2
      refine bodyPost_ret (by simp [results, Try.results43, go_sem, z0, z1, z2, z3]; try rfl) rfl ?_
      have hq : ∀ i, w.heap.size ≤ (⟨w.heap.size + 1, i, none⟩ : Addr).block := fun i => by show w.heap.size ≤ w.heap.size + 1; omega
      have HNF := ((((HN.out.setCell (hq 0) (.int .u64 (W64 s2.1))).setCell (hq 1) (.int .u64 (W64 s2.2.1))).setCell (hq 2) (.int .u64 (W64 s2.2.2.1))).setCell (hq 3) (.int .u64 (W64 s2.2.2.2)))
      rw [H3.out, ← HS.out, ← HT.out]
      exact ⟨aa, c2, rfl, HR.out.stay HNF, HNF⟩
end Go.Proofs.Ytoplabhoedloeaa
