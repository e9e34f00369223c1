/- Contract of layer 28: the document's own Fold. -/
import Derived.Test.YtegibnffingciaaBlkG
import Derived.Defers
import Derived.Recover
import Derived.Laws.Pointers
import Derived.Handy
import Derived.Laws.EntriesVeiled
namespace Go.Proofs.Ytegibnffingciaa
open Go.RowKit Go.Bv
set_option linter.unusedVariables false
theorem BRow_part {w : World} {b off len cap k n : Nat} {l : List (BitVec 8)} (h : BRow w (some ⟨b, off, none⟩) len cap l) (hk : k + n ≤ len) :
    BRow w (some ⟨b, off + k, none⟩) n (cap - k) ((l.drop k).take n) where
  len_eq := (BRow_sub h hk).len_eq
  le := by have := h.le; omega
  most := (BRow_sub h hk).most
  room := by have := h.room; omega
  none := by intro e; cases e
  cell := (BRow_sub h hk).cell
  spot := (BRow_sub h hk).spot
  old := (BRow_sub h hk).old
set_option maxRecDepth 100000 in
set_option maxHeartbeats 4000000 in
theorem foldn_ref (i : Int) (n : Nat) (hin : szN i = n) (st : BitVec 64 × Int) (r : Option Addr) (len cap : Nat) (l : List (BitVec 8)) (w : World) (h : BRow w r len cap l) :
    Calls Try.prog 23 #[.int .i64 i, .agg #[.int .u64 (W64 (st.1)), .int .i64 (st.2)], .slice r len cap] w fun e w' => ∃ a c, e = .returned (.tuple #[.agg #[.int .u64 (W64 ((bState n stp28 st l).1)), .int .i64 ((bState n stp28 st l).2)], .slice a (len % n : Nat) c]) ∧ BRow w' a (len % n) c (bTail n l) ∧ New w w' := by
  have hn : 1 ≤ n ∧ n ≤ 64 := hin ▸ szN_in i
  have hm := h.most
  have hle := h.le
  have hroom := h.room
  have hlen := h.len_eq
  have H := Lib.hid h
  have HLEN := Lib.hid hlen
  have HSZ := Lib.hid (fun w => size_ref i w)
  rw [hin] at HSZ
  clear h hlen hin
  have HZ := Lib.hid (two_blocks w (.cells #[.int .u64 (W64 (st.1)), .int .i64 (st.2)] 27) (.cells #[.int .u64 0, .int .i64 0] 27))
  go_enter Try.func23, Try.ntmps23
  go_wp2_with fail
  refine (HSZ.out _).mono ?_
  rintro e w0 ⟨rfl, rfl⟩
  go_wp2
  go_loopw [8] (fun i wr => ∃ k : Nat, k ≤ len / n ∧ i = .int .i64 ((k * n : Nat) : Int) ∧ wr.heap[w.heap.size]? = some (.cells #[.int .u64 (W64 ((bFold n stp28 k st l).1)), .int .i64 ((bFold n stp28 k st l).2)] 27 (0, 0)) ∧ wr.heap[w.heap.size + 1]? = some (.cells #[.int .u64 0, .int .i64 0] 27 (0, 0)) ∧ New w wr) (fun i _ => len + 1 - (intOf i).toNat)
  case atStart => exact ⟨0, Nat.zero_le _, by simp, HZ.out.1, HZ.out.2.1, HZ.out.2.2⟩
  case round =>
    obtain ⟨k, hk, rfl, hb, hr, hnw⟩ := hrel
    have hkn : k * n ≤ len := Nat.le_trans (Nat.mul_le_mul_right _ hk) (Nat.div_mul_le_self _ _)
    have hsucc := bFold_succ n stp28 k st l
    have hks : (k + 1) * n = k * n + n := Nat.succ_mul k n
    obtain ⟨m, hmk⟩ : ∃ m, k * n = m := ⟨_, rfl⟩
    rw [hmk] at hkn hsucc hks ⊢
    have hmost : len ≤ 140737488355328 := hm
    obtain ⟨hw2, hw2'⟩ := wrap_add m (n : Int) (m + n) (by rw [Int.natCast_add]) (Nat.le_trans (Nat.add_le_add hkn (show n ≤ 64 by omega)) (by omega))
    have HB := Lib.hid hb
    have HR := Lib.hid hr
    have HN := Lib.hid hnw
    have HMK := Lib.hid hmk
    have HSUCC := Lib.hid hsucc
    have HKS := Lib.hid hks
    clear hb hr hnw hmk hsucc hks
    obtain ⟨cur, hcur⟩ : ∃ cur, bFold n stp28 k st l = cur := ⟨_, rfl⟩
    rw [hcur] at HB HSUCC
    have HCUR := Lib.hid hcur
    clear hcur
    by_cases hlt : m + n ≤ len
    · have hge : ((m + n : Nat) : Int) ≤ (len : Int) := by omega
      obtain ⟨b, off, rfl, _⟩ := H.out.addr (by omega)
      have hi0 : (0 : Int) ≤ (m : Int) := by omega
      have hi1 : (m : Int) ≤ ((m + n : Nat) : Int) := by omega
      have hi2 : ((m + n : Nat) : Int) ≤ (cap : Int) := by omega
      have hlc : (len : Int) ≤ (cap : Int) := by omega
      have hnz : ¬ (cap = m) := by omega
      have hsub : m + n - m = n := by omega
      have HAP := Lib.hid (fun w' (hn : New wr w') => step_28 cur (some ⟨b, off + m, none⟩) n (cap - m) ((l.drop m).take n) w' (BRow_part ((H.out.stay HN.out).stay hn) hlt))
      obtain ⟨nx, hnx⟩ : ∃ nx, stp28 cur ((l.drop m).take n) = nx := ⟨_, rfl⟩
      rw [hnx] at HAP HSUCC
      clear hnx
      go_wp2_with fail
      refine Gro2.wp_region_gro2S (fun w' => (∃ u0 u1 : Value, w'.heap[w.heap.size]? = some (.cells #[u0, u1] 27 (0, 0))) ∧ w'.heap[w.heap.size + 1]? = some (.cells #[.int .u64 0, .int .i64 0] 27 (0, 0)) ∧ New w w') (fun w' => w'.heap[w.heap.size]? = some (.cells #[.int .u64 (W64 (cur.1)), .int .i64 (cur.2)] 27 (0, 0)) ∧ New wr w' ∧ w'.heap[w.heap.size + 1]? = some (.cells #[.int .u64 0, .int .i64 0] 27 (0, 0))) [1,0,0,0,0,0,0,2,3] (by kernel_rfl) (by kernel_rfl) (by kernel_rfl) (fun w' hw' => ⟨⟨_, _, hw'.1⟩, hw'.2.2, HN.out.trans hw'.2.1⟩) (⟨HB.out, (New.refl _).drew, HR.out⟩) ?_
      intro I J _ _ f g hfa hba hgb hbb
      have HFA := Lib.hid hfa
      have HBA := Lib.hid hba
      have HGB := Lib.hid hgb
      have HBB := Lib.hid hbb
      have s0 := fun n => cell_of_row _ _ 0 _ _ _ (hgb n).1
      have s1 := fun n => cell_of_row _ _ 1 _ _ _ (hgb n).1
      clear hfa hba hgb hbb
      refine Gro2.take1 1 (by kernel_rfl) ?_
      simp only [List.take, List.drop, List.length]
      repeat (go_big_quiet_step (fail))
      refine wpQuiet_nil ?_
      refine Gro2.take0 6 (by kernel_rfl) ?_
      simp only [List.take, List.drop, List.length]
      repeat (go_big_quiet_step (fail))
      refine wpQuiet_nil ?_
      refine Gro2.call (fun v => v = .agg #[.int .u64 (W64 (nx.1)), .int .i64 (nx.2)]) (fun _ _ => True) rfl rfl (⟨_, rfl⟩) (fun w1 hB hG => ?_) (fun v1 A1 hv1 hA => ?_)
      · obtain ⟨nq, rfl⟩ := hB
        go_simp
        refine (HAP.out _ (HGB.out nq).2.1).mono ?_
        rintro e w2 ⟨rfl, hn⟩
        have HX := HBB.out _ ⟨(hn.block _ (lt_of_block (HGB.out nq).1)).trans (HGB.out nq).1, (HGB.out nq).2.1.trans hn, (hn.block _ (lt_of_block (HGB.out nq).2.2)).trans (HGB.out nq).2.2⟩
        first | exact ⟨_, rfl, HX, rfl, trivial, trivial⟩ | exact ⟨rfl, HX⟩ | exact ⟨HX, rfl⟩ | exact HX
      simp [Act.put] at hA
      subst hA
      obtain rfl := hv1
      refine Gro2.turn (fun v => v = undef) (fun _ w9 => w9.heap[w.heap.size]? = some (.cells #[.int .u64 (W64 (nx.1)), .int .i64 (nx.2)] 27 (0, 0))) rfl rfl ⟨_, rfl⟩ (fun w1 hB hG => ?_) (fun v2 A2 hv2 hA => ?_)
      · obtain ⟨nq, rfl⟩ : ∃ nq, w1 = g nq := hB
        have HX := Lib.hid (HGB.out nq)
        have c0 := cell_of_row _ _ 0 _ _ _ HX.out.1
        have c1 := cell_of_row _ _ 1 _ _ _ HX.out.1
        have cf := fun i => frozen_of_row _ _ i _ _ HX.out.1
        have HP := Lib.hid (put_28 (.int .u64 (W64 (nx.1))) (.int .i64 (nx.2)) HX.out.1)
        clear s0 s1
        go_simp
        exact ⟨HBA.out _ ⟨⟨_, _, HP.out.1⟩, (HP.out.2.1 _ (by omega)).trans HX.out.2.2, HP.out.2.2 _ (HN.out.trans HX.out.2.1) (Nat.le_refl _)⟩, HP.out.1⟩
      simp [Act.put] at hA
      subst hA
      refine Gro2.nil ?_
      rintro w9 ⟨n9, rfl⟩ hG
      have HF := Lib.hid (HFA.out n9)
      have HG := Lib.hid hG
      clear HFA HBA HGB HBB HAP hG s0 s1
      generalize f n9 = w9 at *
      go_wp2
      refine ⟨⟨k + 1, (Nat.le_div_iff_mul_le (by omega)).2 (by rw [HKS.out]; omega), by rw [HKS.out]; go_num, by rw [HSUCC.out]; exact HG.out, HF.out.2.1, HF.out.2.2⟩, by simp [intOf]; omega⟩
    · have hge : ¬ ((m + n : Nat) : Int) ≤ (len : Int) := by omega
      have hkd : k = len / n := by
        have h1 := (Nat.div_lt_iff_lt_mul (show 0 < n by omega)).2 (show len < (k + 1) * n by rw [HKS.out]; omega)
        omega
      have hmod : len - m = len % n := by
        have h1 := Nat.div_add_mod len n
        have h2 := HMK.out
        rw [hkd, Nat.mul_comm] at h2
        omega
      have hst : bState n stp28 st l = cur := by unfold bState; rw [HLEN.out, ← hkd]; exact HCUR.out
      have htl : bTail n l = l.drop m := by unfold bTail; rw [HLEN.out, ← hkd, HMK.out]
      have hi0 : (0 : Int) ≤ (m : Int) := by omega
      have hi1 : (m : Int) ≤ (len : Int) := by omega
      have hlc : (len : Int) ≤ (cap : Int) := by omega
      have hcs : (len : Int) - (m : Int) = ((len - m : Nat) : Int) := by omega
      have HE := Lib.hid (show bState n stp28 st l = cur ∧ bTail n l = l.drop m ∧ len - m = len % n from ⟨hst, htl, hmod⟩)
      clear hst htl hmod hkd
      have HLT := Lib.hid hlt
      clear hlt
      have HROW := Lib.hid (fun w' (hn : New wr w') => (H.out.stay HN.out).stay hn)
      cases r with
      | none =>
        obtain ⟨rfl, rfl, rfl⟩ := brow_nil H.out
        obtain rfl : m = 0 := by omega
        go_wp2_with fail
        refine Gro2.wp_region_gro2S (fun w' => (∃ u0 u1 : Value, w'.heap[w.heap.size + 1]? = some (.cells #[u0, u1] 27 (0, 0))) ∧ New w w') (fun w' => w'.heap[w.heap.size]? = some (.cells #[.int .u64 (W64 (cur.1)), .int .i64 (cur.2)] 27 (0, 0)) ∧ New wr w' ∧ w'.heap[w.heap.size + 1]? = some (.cells #[.int .u64 0, .int .i64 0] 27 (0, 0))) [1,0,0,0,3,0] (by kernel_rfl) (by kernel_rfl) (by kernel_rfl) (fun w' hw' => ⟨⟨_, _, hw'.2.2⟩, HN.out.trans hw'.2.1⟩) (⟨HB.out, (New.refl _).drew, HR.out⟩) ?_
        intro I J _ _ f g hfa hba hgb hbb
        have HFA := Lib.hid hfa
        have HBA := Lib.hid hba
        have HGB := Lib.hid hgb
        have HBB := Lib.hid hbb
        have s0 := fun n => cell_of_row _ _ 0 _ _ _ (hgb n).1
        have s1 := fun n => cell_of_row _ _ 1 _ _ _ (hgb n).1
        clear hfa hba hgb hbb
        refine Gro2.take1 1 (by kernel_rfl) ?_
        simp only [List.take, List.drop, List.length]
        repeat (go_big_quiet_step (fail))
        refine wpQuiet_nil ?_
        refine Gro2.take0 3 (by kernel_rfl) ?_
        simp only [List.take, List.drop, List.length]
        repeat (go_big_quiet_step (fail))
        refine wpQuiet_nil ?_
        refine Gro2.turn (fun v => v = undef) (fun _ w9 => Lies w9 (w.heap.size + 1) (.cells #[.int .u64 (W64 (cur.1)), .int .i64 (cur.2)] 27 (0, 0)) ∧ BRow w9 (none) (0) (0) ([])) rfl rfl ⟨_, rfl⟩ (fun w1 hB hG => ?_) (fun v1 A1 hv1 hA => ?_)
        · obtain ⟨nq, rfl⟩ : ∃ nq, w1 = g nq := hB
          have HX := Lib.hid (HGB.out nq)
          have c0 := cell_of_row _ _ 0 _ _ _ HX.out.2.2
          have c1 := cell_of_row _ _ 1 _ _ _ HX.out.2.2
          have cf := fun i => frozen_of_row _ _ i _ _ HX.out.2.2
          have HP := Lib.hid (put_28 (.int .u64 (W64 (cur.1))) (.int .i64 (cur.2)) HX.out.2.2)
          have HLI := Lib.hid (show Lies _ _ _ from HP.out.1)
          have HROW := Lib.hid ((HROW.out _ (HGB.out nq).2.1).but (by simp) (fun y e h0 => HP.out.2.1 _ (((HROW.out _ (HGB.out nq).2.1).apart ⟨_, _, _, HX.out.2.2, by simp⟩) y e h0)))
          clear s0 s1
          go_simp
          exact ⟨HBA.out _ ⟨⟨_, _, HP.out.1⟩, HP.out.2.2 _ (HN.out.trans HX.out.2.1) (by omega)⟩, HLI.out, HROW.out⟩
        simp [Act.put] at hA
        subst hA
        refine Gro2.take0 1 (by kernel_rfl) ?_
        simp only [List.take, List.drop, List.length]
        repeat (go_big_quiet_step (fail))
        refine wpQuiet_nil ?_
        refine Gro2.nil ?_
        rintro w9 ⟨n9, rfl⟩ hG
        obtain ⟨hli, hrow⟩ := hG
        have HF := Lib.hid (HFA.out n9).2
        have HG := Lib.hid hrow
        have k0 := cell_of_row _ _ 0 _ _ _ hli
        have k1 := cell_of_row _ _ 1 _ _ _ hli
        clear HFA HBA HGB HBB hli hrow s0 s1
        generalize f n9 = w9 at *
        go_wp2
        refine bodyPost_ret (by simp [results, Try.results23, go_sem, k0, k1]; try rfl) rfl ?_
        refine ⟨none, 0, ?_, ?_, HF.out⟩
        · rw [HE.out.1, show 0 % n = 0 from HE.out.2.2.symm.trans (by omega)]
          try rfl
        · rw [HE.out.2.1, show 0 % n = 0 from HE.out.2.2.symm.trans (by omega)]; exact HG.out
      | some y =>
        obtain ⟨bk, off, sp⟩ := y
        by_cases hcm : cap = m
        · obtain rfl : m = len := by omega
          obtain rfl : cap = m := hcm
          have hsp : BRow wr (some ⟨bk, off, sp⟩) 0 0 (l.drop cap) := row_end (HROW.out _ (New.refl _))
          have HSP := Lib.hid hsp
          clear hsp hcs hi1 hlc
          have hcs : ((cap - cap : Nat) : Int) = 0 := by omega
          go_wp2_with fail
          refine Gro2.wp_region_gro2S (fun w' => (∃ u0 u1 : Value, w'.heap[w.heap.size + 1]? = some (.cells #[u0, u1] 27 (0, 0))) ∧ New w w') (fun w' => w'.heap[w.heap.size]? = some (.cells #[.int .u64 (W64 (cur.1)), .int .i64 (cur.2)] 27 (0, 0)) ∧ New wr w' ∧ w'.heap[w.heap.size + 1]? = some (.cells #[.int .u64 0, .int .i64 0] 27 (0, 0))) [1,0,0,0,3,0] (by kernel_rfl) (by kernel_rfl) (by kernel_rfl) (fun w' hw' => ⟨⟨_, _, hw'.2.2⟩, HN.out.trans hw'.2.1⟩) (⟨HB.out, (New.refl _).drew, HR.out⟩) ?_
          intro I J _ _ f g hfa hba hgb hbb
          have HFA := Lib.hid hfa
          have HBA := Lib.hid hba
          have HGB := Lib.hid hgb
          have HBB := Lib.hid hbb
          have s0 := fun n => cell_of_row _ _ 0 _ _ _ (hgb n).1
          have s1 := fun n => cell_of_row _ _ 1 _ _ _ (hgb n).1
          clear hfa hba hgb hbb
          refine Gro2.take1 1 (by kernel_rfl) ?_
          simp only [List.take, List.drop, List.length]
          repeat (go_big_quiet_step (fail))
          refine wpQuiet_nil ?_
          refine Gro2.take0 3 (by kernel_rfl) ?_
          simp only [List.take, List.drop, List.length]
          repeat (go_big_quiet_step (fail))
          refine wpQuiet_nil ?_
          refine Gro2.turn (fun v => v = undef) (fun _ w9 => Lies w9 (w.heap.size + 1) (.cells #[.int .u64 (W64 (cur.1)), .int .i64 (cur.2)] 27 (0, 0)) ∧ BRow w9 (some ⟨bk, off, sp⟩) (0) (0) (l.drop cap)) rfl rfl ⟨_, rfl⟩ (fun w1 hB hG => ?_) (fun v1 A1 hv1 hA => ?_)
          · obtain ⟨nq, rfl⟩ : ∃ nq, w1 = g nq := hB
            have HX := Lib.hid (HGB.out nq)
            have c0 := cell_of_row _ _ 0 _ _ _ HX.out.2.2
            have c1 := cell_of_row _ _ 1 _ _ _ HX.out.2.2
            have cf := fun i => frozen_of_row _ _ i _ _ HX.out.2.2
            have HP := Lib.hid (put_28 (.int .u64 (W64 (cur.1))) (.int .i64 (cur.2)) HX.out.2.2)
            have HLI := Lib.hid (show Lies _ _ _ from HP.out.1)
            have HROW := Lib.hid ((HSP.out.stay (HGB.out nq).2.1).but (by simp) (fun y e h0 => HP.out.2.1 _ (((HSP.out.stay (HGB.out nq).2.1).apart ⟨_, _, _, HX.out.2.2, by simp⟩) y e h0)))
            clear s0 s1
            go_simp
            exact ⟨HBA.out _ ⟨⟨_, _, HP.out.1⟩, HP.out.2.2 _ (HN.out.trans HX.out.2.1) (by omega)⟩, HLI.out, HROW.out⟩
          simp [Act.put] at hA
          subst hA
          refine Gro2.take0 1 (by kernel_rfl) ?_
          simp only [List.take, List.drop, List.length]
          repeat (go_big_quiet_step (fail))
          refine wpQuiet_nil ?_
          refine Gro2.nil ?_
          rintro w9 ⟨n9, rfl⟩ hG
          obtain ⟨hli, hrow⟩ := hG
          have HF := Lib.hid (HFA.out n9).2
          have HG := Lib.hid hrow
          have k0 := cell_of_row _ _ 0 _ _ _ hli
          have k1 := cell_of_row _ _ 1 _ _ _ hli
          clear HFA HBA HGB HBB hli hrow s0 s1
          generalize f n9 = w9 at *
          go_wp2
          refine bodyPost_ret (by simp [results, Try.results23, go_sem, k0, k1]; try rfl) rfl ?_
          refine ⟨some ⟨bk, off, sp⟩, 0, ?_, ?_, HF.out⟩
          · rw [HE.out.1, show cap % n = 0 from HE.out.2.2.symm.trans (by omega)]
            try rfl
          · rw [HE.out.2.1, show cap % n = 0 from HE.out.2.2.symm.trans (by omega)]; exact HG.out
        · have hcm2 : ¬ (cap : Int) = (m : Int) := by omega
          have hsp : ∃ sp2, (⟨bk, off, sp⟩ : Addr).add m = ⟨bk, off + m, sp2⟩ ∧ BRow wr (some ⟨bk, off + m, sp2⟩) (len - m) (cap - m) (l.drop m) := row_rest (HROW.out _ (New.refl _)) (by omega)
          obtain ⟨sp2, hadd, hsp⟩ := hsp
          have HSP := Lib.hid hsp
          clear hsp
          go_wp2_with fail
          refine Gro2.wp_region_gro2S (fun w' => (∃ u0 u1 : Value, w'.heap[w.heap.size + 1]? = some (.cells #[u0, u1] 27 (0, 0))) ∧ New w w') (fun w' => w'.heap[w.heap.size]? = some (.cells #[.int .u64 (W64 (cur.1)), .int .i64 (cur.2)] 27 (0, 0)) ∧ New wr w' ∧ w'.heap[w.heap.size + 1]? = some (.cells #[.int .u64 0, .int .i64 0] 27 (0, 0))) [1,0,0,0,3,0] (by kernel_rfl) (by kernel_rfl) (by kernel_rfl) (fun w' hw' => ⟨⟨_, _, hw'.2.2⟩, HN.out.trans hw'.2.1⟩) (⟨HB.out, (New.refl _).drew, HR.out⟩) ?_
          intro I J _ _ f g hfa hba hgb hbb
          have HFA := Lib.hid hfa
          have HBA := Lib.hid hba
          have HGB := Lib.hid hgb
          have HBB := Lib.hid hbb
          have s0 := fun n => cell_of_row _ _ 0 _ _ _ (hgb n).1
          have s1 := fun n => cell_of_row _ _ 1 _ _ _ (hgb n).1
          clear hfa hba hgb hbb
          refine Gro2.take1 1 (by kernel_rfl) ?_
          simp only [List.take, List.drop, List.length]
          repeat (go_big_quiet_step (fail))
          refine wpQuiet_nil ?_
          refine Gro2.take0 3 (by kernel_rfl) ?_
          simp only [List.take, List.drop, List.length]
          repeat (go_big_quiet_step (fail))
          refine wpQuiet_nil ?_
          refine Gro2.turn (fun v => v = undef) (fun _ w9 => Lies w9 (w.heap.size + 1) (.cells #[.int .u64 (W64 (cur.1)), .int .i64 (cur.2)] 27 (0, 0)) ∧ BRow w9 (some ⟨bk, off + m, sp2⟩) (len - m) (cap - m) (l.drop m)) rfl rfl ⟨_, rfl⟩ (fun w1 hB hG => ?_) (fun v1 A1 hv1 hA => ?_)
          · obtain ⟨nq, rfl⟩ : ∃ nq, w1 = g nq := hB
            have HX := Lib.hid (HGB.out nq)
            have c0 := cell_of_row _ _ 0 _ _ _ HX.out.2.2
            have c1 := cell_of_row _ _ 1 _ _ _ HX.out.2.2
            have cf := fun i => frozen_of_row _ _ i _ _ HX.out.2.2
            have HP := Lib.hid (put_28 (.int .u64 (W64 (cur.1))) (.int .i64 (cur.2)) HX.out.2.2)
            have HLI := Lib.hid (show Lies _ _ _ from HP.out.1)
            have HROW := Lib.hid ((HSP.out.stay (HGB.out nq).2.1).but (by simp) (fun y e h0 => HP.out.2.1 _ (((HSP.out.stay (HGB.out nq).2.1).apart ⟨_, _, _, HX.out.2.2, by simp⟩) y e h0)))
            clear s0 s1
            go_simp
            exact ⟨HBA.out _ ⟨⟨_, _, HP.out.1⟩, HP.out.2.2 _ (HN.out.trans HX.out.2.1) (by omega)⟩, HLI.out, HROW.out⟩
          simp [Act.put] at hA
          subst hA
          refine Gro2.take0 1 (by kernel_rfl) ?_
          simp only [List.take, List.drop, List.length]
          repeat (go_big_quiet_step (fail))
          refine wpQuiet_nil ?_
          refine Gro2.nil ?_
          rintro w9 ⟨n9, rfl⟩ hG
          obtain ⟨hli, hrow⟩ := hG
          have HF := Lib.hid (HFA.out n9).2
          have HG := Lib.hid hrow
          have k0 := cell_of_row _ _ 0 _ _ _ hli
          have k1 := cell_of_row _ _ 1 _ _ _ hli
          clear HFA HBA HGB HBB hli hrow s0 s1
          generalize f n9 = w9 at *
          go_wp2
          refine bodyPost_ret (by simp [results, Try.results23, go_sem, k0, k1]; try rfl) rfl ?_
          refine ⟨some ⟨bk, off + m, sp2⟩, cap - m, ?_, ?_, HF.out⟩
          · rw [HE.out.1, show len % n = len - m from HE.out.2.2.symm.trans (by omega)]
            try rfl
          · rw [HE.out.2.1, show len % n = len - m from HE.out.2.2.symm.trans (by omega)]; exact HG.out
end Go.Proofs.Ytegibnffingciaa
