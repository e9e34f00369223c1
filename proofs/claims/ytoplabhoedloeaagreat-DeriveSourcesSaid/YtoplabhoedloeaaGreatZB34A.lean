import Derived.Test.YtoplabhoedloeaaGreatZBlkX
import Derived.Defers
import Derived.Recover
import Derived.Laws.Pointers
import Derived.Handy
import Derived.Laws.EntriesVeiled
import Derived.Deep.DeepCutAuto
import Derived.Test.YtoplabhoedloeaaGreatZBoth
import Derived.Test.YtoplabhoedloeaaGreatZM34C
import Derived.Test.YtoplabhoedloeaaGreatDrvA
import Derived.Test.YtoplabhoedloeaaGreatZRow
import Derived.ArgAppend
import Derived.Laws.IdiomStrings
import Derived.Deep.RegionHeld3
section
/- The block's contracts of layer 34: apply, pass. -/
namespace Go.Bv
open Go Go.RowKit
theorem put_34 {w : World} {q : Nat} {u0 u1 u2 u3 : Value} {T : TypeId} (v0 v1 v2 v3 : Value) (h : w.heap[q]? = some (.cells #[u0, u1, u2, u3] T (0, 0))) :
    ((((((((w).setCell ⟨q, 0, none⟩ (v0))).setCell ⟨q, 1, none⟩ (v1))).setCell ⟨q, 2, none⟩ (v2))).setCell ⟨q, 3, none⟩ (v3)).heap[q]? = some (.cells #[v0, v1, v2, v3] T (0, 0)) ∧ (∀ j, j ≠ q → ((((((((w).setCell ⟨q, 0, none⟩ (v0))).setCell ⟨q, 1, none⟩ (v1))).setCell ⟨q, 2, none⟩ (v2))).setCell ⟨q, 3, none⟩ (v3)).heap[j]? = w.heap[j]?) ∧ (∀ W : World, New W w → W.heap.size ≤ q → New W ((((((((w).setCell ⟨q, 0, none⟩ (v0))).setCell ⟨q, 1, none⟩ (v1))).setCell ⟨q, 2, none⟩ (v2))).setCell ⟨q, 3, none⟩ (v3))) := by
  refine ⟨?_, fun j hj => ?_, fun W hn hq => ?_⟩
  · have h0 := heap_setCell_same w q 0 _ _ v0 h
    have h1 := heap_setCell_same _ q 1 _ _ v1 h0
    have h2 := heap_setCell_same _ q 2 _ _ v2 h1
    have h3 := heap_setCell_same _ q 3 _ _ v3 h2
    exact h3
  · rw [heap_setCell_other _ _ _ _ hj, heap_setCell_other _ _ _ _ hj, heap_setCell_other _ _ _ _ hj, heap_setCell_other _ _ _ _ hj]
  · exact (((hn.setCell (by exact hq) _).setCell (by exact hq) _).setCell (by exact hq) _).setCell (by exact hq) _
end Go.Bv
namespace Go.Proofs.YtoplabhoedloeaaGreat
open Go.RowKit Go.Bv
set_option linter.unusedVariables false
theorem recover_34 (kd : Nat × Nat × Bool) (w : World) : CallsD Tryz.prog 155 #[] .returning w fun e u' w' => e = .returned (.tuple #[]) ∧ u' = .returning ∧ w' = w := by
  refine callsD_of_wpS Tryz.func155 rfl fun c₀ cs hu => ?_
  apply wpS_region
  simp [wpOpsS, go_sem, recoverD, hu, Tryz.ntmps155, bodyPostS, results, Tryz.results155]
  cases c₀; simp_all
set_option maxRecDepth 100000 in
set_option maxHeartbeats 1000000 in
theorem apply_34 (kd : Nat × Nat × Bool) (hkd : kd.1 ≤ 100) (s : BitVec 64 × BitVec 64 × BitVec 64 × BitVec 64) (a : Option Addr) (cap : Nat) (l : List (BitVec 8)) (w : World) (h : BRow w a 8 cap l) :
    Calls Tryz.prog 121 #[(.func (Fn.func 36) #[.agg #[.int .i64 (kd.1 : Nat), .int .i64 (kd.2.1 : Nat), .bool kd.2.2]] #[]), .agg #[.int .u64 (W64 (s.1)), .int .u64 (W64 (s.2.1)), .int .u64 (W64 (s.2.2.1)), .int .u64 (W64 (s.2.2.2))], .slice a 8 cap] w fun e w' => e = .returned (.agg #[.int .u64 (W64 (((stp34 kd) s l).1)), .int .u64 (W64 (((stp34 kd) s l).2.1)), .int .u64 (W64 (((stp34 kd) s l).2.2.1)), .int .u64 (W64 (((stp34 kd) s l).2.2.2))]) ∧ New w w' := by
  have hmf : ∀ (fn : Fn) (first cap : Array Value) (w : World), (Instr.makeFunc fn first cap).run Tryz.prog w = .ok (.func fn first cap) w := fun _ _ _ _ => rfl
  have hnf : ∀ w, (binOp .eql 81 (.func (Fn.func 36) #[.agg #[.int .i64 (kd.1 : Nat), .int .i64 (kd.2.1 : Nat), .bool kd.2.2]] #[]) .nilFunc).run Tryz.prog w = .ok (.bool false) w := fun _ => rfl
  have HS := Lib.hid (fun w' (hn : New w w') => step_34s kd hkd s a cap l w' (h.stay hn))
  clear h
  have hz := two_blocksD w (.cells #[.int .u64 (W64 (s.1)), .int .u64 (W64 (s.2.1)), .int .u64 (W64 (s.2.2.1)), .int .u64 (W64 (s.2.2.2))] 77) (.cells #[.int .u64 (W64 (s.1)), .int .u64 (W64 (s.2.1)), .int .u64 (W64 (s.2.2.1)), .int .u64 (W64 (s.2.2.2))] 77)
  have HZ := Lib.hid hz
  clear hz
  go_enter_defers Tryz.func121, Tryz.ntmps121
  go_wp2_with fail
  refine (HS.out _ ?hn).mono ?_
  case hn => exact HZ.out.2.2
  rintro e w3 ⟨rfl, hn⟩
  have hb := (hn.block _ (lt_of_block HZ.out.2.1)).trans HZ.out.2.1
  have k0 := cell_of_row _ _ 0 _ _ _ hb
  have k1 := cell_of_row _ _ 1 _ _ _ hb
  have k2 := cell_of_row _ _ 2 _ _ _ hb
  have k3 := cell_of_row _ _ 3 _ _ _ hb
  have kf := fun i => frozen_of_row _ _ i _ _ hb
  have HN := Lib.hid (HZ.out.2.2.trans hn)
  clear hb hn HZ
  go_wp2
  refine leaves_cons (f := 155) (args := #[]) (by simp) (by simp [go_sem]) ?_
  refine (recover_34 kd _).mono ?_
  rintro e u' w'' ⟨rfl, rfl, rfl⟩
  simp [Leaves, settle, results, Tryz.results121, go_sem, k0, k1, k2, k3]
  exact (((HN.out.setCell (by show w.heap.size ≤ w.heap.size + 1; omega) _).setCell (by show w.heap.size ≤ w.heap.size + 1; omega) _).setCell (by show w.heap.size ≤ w.heap.size + 1; omega) _).setCell (by show w.heap.size ≤ w.heap.size + 1; omega) _
set_option maxRecDepth 100000 in
set_option maxHeartbeats 4000000 in
theorem pass_34 (kd : Nat × Nat × Bool) (hkd : kd.1 ≤ 100) (st : BitVec 64 × BitVec 64 × BitVec 64 × BitVec 64) (r : Option Addr) (len cap : Nat) (l : List (BitVec 8)) (w : World) (h : BRow w r len cap l) :
    Calls Tryz.prog 86 #[.int .i64 8, .agg #[.int .u64 (W64 (st.1)), .int .u64 (W64 (st.2.1)), .int .u64 (W64 (st.2.2.1)), .int .u64 (W64 (st.2.2.2))], (.func (Fn.func 36) #[.agg #[.int .i64 (kd.1 : Nat), .int .i64 (kd.2.1 : Nat), .bool kd.2.2]] #[]), .slice r len cap] w fun e w' => ∃ a c, e = .returned (.tuple #[.agg #[.int .u64 (W64 ((bState 8 (stp34 kd) st l).1)), .int .u64 (W64 ((bState 8 (stp34 kd) st l).2.1)), .int .u64 (W64 ((bState 8 (stp34 kd) st l).2.2.1)), .int .u64 (W64 ((bState 8 (stp34 kd) st l).2.2.2))], .slice a (len % 8 : Nat) c]) ∧ BRow w' a (len % 8) c (bTail 8 l) ∧ (∀ x, a = some x → w.heap.size ≤ x.block) ∧ New w w' := by
  have hm := h.most
  have hle := h.le
  have hroom := h.room
  have hlen := h.len_eq
  have H := Lib.hid h
  have HLEN := Lib.hid hlen
  clear h hlen
  have HZ := Lib.hid (two_blocksD w (.cells #[.int .u64 (W64 (st.1)), .int .u64 (W64 (st.2.1)), .int .u64 (W64 (st.2.2.1)), .int .u64 (W64 (st.2.2.2))] 77) (.cells #[.int .u64 0, .int .u64 0, .int .u64 0, .int .u64 0] 77))
  go_enter Tryz.func86, Tryz.ntmps86
  go_wp2
  go_loopw [10] (fun i wr => ∃ k : Nat, k ≤ len / 8 ∧ i = .int .i64 ((k * 8 : Nat) : Int) ∧ wr.heap[w.heap.size]? = some (.cells #[.int .u64 (W64 ((bFold 8 (stp34 kd) k st l).1)), .int .u64 (W64 ((bFold 8 (stp34 kd) k st l).2.1)), .int .u64 (W64 ((bFold 8 (stp34 kd) k st l).2.2.1)), .int .u64 (W64 ((bFold 8 (stp34 kd) k st l).2.2.2))] 77 (0, 0)) ∧ wr.heap[w.heap.size + 1]? = some (.cells #[.int .u64 0, .int .u64 0, .int .u64 0, .int .u64 0] 77 (0, 0)) ∧ New w wr) (fun i _ => len + 1 - (intOf i).toNat)
  case atStart => exact ⟨0, Nat.zero_le _, by simp, HZ.out.1, HZ.out.2.1, HZ.out.2.2⟩
  case round =>
    obtain ⟨k, hk, rfl, hb, hr, hnw⟩ := hrel
    have hkn : k * 8 ≤ len := Nat.le_trans (Nat.mul_le_mul_right _ hk) (Nat.div_mul_le_self _ _)
    have hsucc := bFold_succ 8 (stp34 kd) k st l
    have hks : (k + 1) * 8 = k * 8 + 8 := Nat.succ_mul k 8
    obtain ⟨m, hmk⟩ : ∃ m, k * 8 = m := ⟨_, rfl⟩
    rw [hmk] at hkn hsucc hks ⊢
    have hmost : len ≤ 140737488355328 := hm
    obtain ⟨hw1, hw1'⟩ := wrap_less len m (Nat.le_trans hmost (by decide)) hkn
    obtain ⟨hw2, hw2'⟩ := wrap_add m (8 : Int) (m + 8) (by rw [Int.natCast_add]; try rfl) (Nat.le_trans (Nat.add_le_add hkn (show 8 ≤ 64 by omega)) (by omega))
    have HB := Lib.hid hb
    have HR := Lib.hid hr
    have HN := Lib.hid hnw
    have HMK := Lib.hid hmk
    have HSUCC := Lib.hid hsucc
    have HKS := Lib.hid hks
    clear hb hr hnw hmk hsucc hks
    obtain ⟨cur, hcur⟩ : ∃ cur, bFold 8 (stp34 kd) k st l = cur := ⟨_, rfl⟩
    rw [hcur] at HB HSUCC
    have HCUR := Lib.hid hcur
    clear hcur
    have kc := cell_of_row _ _ 0 _ _ _ HB.out
    by_cases hlt : m + 8 ≤ len
    · have hge : (8 : Int) ≤ (len : Int) - (m : Int) := by omega
      obtain ⟨b, off, rfl, _⟩ := H.out.addr (by omega)
      have hi0 : (0 : Int) ≤ (m : Int) := by omega
      have hi1 : (m : Int) ≤ ((m + 8 : Nat) : Int) := by omega
      have hi2 : ((m + 8 : Nat) : Int) ≤ (cap : Int) := by omega
      have hlc : (len : Int) ≤ (cap : Int) := by omega
      have hnz : ¬ ((m + 8 : Nat) = m) := by omega
      have hsub : m + 8 - m = 8 := by omega
      have HAP := Lib.hid (fun w' (hn : New wr w') => apply_34 kd hkd cur (some ⟨b, off + m, none⟩) 8 ((l.drop m).take 8) w' (BRow_sub ((H.out.stay HN.out).stay hn) hlt))
      obtain ⟨nx, hnx⟩ : ∃ nx, (stp34 kd) cur ((l.drop m).take 8) = nx := ⟨_, rfl⟩
      rw [hnx] at HAP HSUCC
      clear hnx kc
      go_wp2_with fail
      refine Gro2.wp_region_gro2S (fun w' => (∃ u0 u1 u2 u3 : Value, w'.heap[w.heap.size]? = some (.cells #[u0, u1, u2, u3] 77 (0, 0))) ∧ w'.heap[w.heap.size + 1]? = some (.cells #[.int .u64 0, .int .u64 0, .int .u64 0, .int .u64 0] 77 (0, 0)) ∧ New w w') (fun w' => w'.heap[w.heap.size]? = some (.cells #[.int .u64 (W64 (cur.1)), .int .u64 (W64 (cur.2.1)), .int .u64 (W64 (cur.2.2.1)), .int .u64 (W64 (cur.2.2.2))] 77 (0, 0)) ∧ New wr w' ∧ w'.heap[w.heap.size + 1]? = some (.cells #[.int .u64 0, .int .u64 0, .int .u64 0, .int .u64 0] 77 (0, 0))) [0,1,0,0,0,0,0,0,0,0,0,2,3] (by kernel_rfl) (by kernel_rfl) (by kernel_rfl) (fun w' hw' => ⟨⟨_, _, _, _, hw'.1⟩, hw'.2.2, HN.out.trans hw'.2.1⟩) (⟨HB.out, (New.refl _).drew, HR.out⟩) ?_
      intro I J _ _ f g hfa hba hgb hbb
      have HFA := Lib.hid hfa
      have HBA := Lib.hid hba
      have HGB := Lib.hid hgb
      have HBB := Lib.hid hbb
      have s0 := fun n => cell_of_row _ _ 0 _ _ _ (hgb n).1
      have s1 := fun n => cell_of_row _ _ 1 _ _ _ (hgb n).1
      have s2 := fun n => cell_of_row _ _ 2 _ _ _ (hgb n).1
      have s3 := fun n => cell_of_row _ _ 3 _ _ _ (hgb n).1
      clear hfa hba hgb hbb
      refine Gro2.take0 1 (by kernel_rfl) ?_
      simp only [List.take, List.drop, List.length]
      repeat (go_big_quiet_step (fail))
      refine wpQuiet_nil ?_
      refine Gro2.take1 1 (by kernel_rfl) ?_
      simp only [List.take, List.drop, List.length]
      repeat (go_big_quiet_step (fail))
      refine wpQuiet_nil ?_
      refine Gro2.take0 9 (by kernel_rfl) ?_
      simp only [List.take, List.drop, List.length]
      repeat (go_big_quiet_step (fail))
      refine wpQuiet_nil ?_
      refine Gro2.call (fun v => v = .agg #[.int .u64 (W64 (nx.1)), .int .u64 (W64 (nx.2.1)), .int .u64 (W64 (nx.2.2.1)), .int .u64 (W64 (nx.2.2.2))]) (fun _ _ => True) rfl rfl (⟨_, rfl⟩) (fun w1 hB hG => ?_) (fun v1 A1 hv1 hA => ?_)
      · obtain ⟨nq, rfl⟩ := hB
        go_simp
        refine (HAP.out _ (HGB.out nq).2.1).mono ?_
        rintro e w2 ⟨rfl, hn⟩
        have HX := HBB.out _ ⟨(hn.block _ (lt_of_block (HGB.out nq).1)).trans (HGB.out nq).1, (HGB.out nq).2.1.trans hn, (hn.block _ (lt_of_block (HGB.out nq).2.2)).trans (HGB.out nq).2.2⟩
        first | exact ⟨_, rfl, HX, rfl, trivial, trivial⟩ | exact ⟨rfl, HX⟩ | exact ⟨HX, rfl⟩ | exact HX
      simp [Act.put] at hA
      subst hA
      obtain rfl := hv1
      refine Gro2.turn (fun v => v = undef) (fun _ w9 => w9.heap[w.heap.size]? = some (.cells #[.int .u64 (W64 (nx.1)), .int .u64 (W64 (nx.2.1)), .int .u64 (W64 (nx.2.2.1)), .int .u64 (W64 (nx.2.2.2))] 77 (0, 0))) rfl rfl ⟨_, rfl⟩ (fun w1 hB hG => ?_) (fun v2 A2 hv2 hA => ?_)
      · obtain ⟨nq, rfl⟩ : ∃ nq, w1 = g nq := hB
        have HX := Lib.hid (HGB.out nq)
        have c0 := cell_of_row _ _ 0 _ _ _ HX.out.1
        have c1 := cell_of_row _ _ 1 _ _ _ HX.out.1
        have c2 := cell_of_row _ _ 2 _ _ _ HX.out.1
        have c3 := cell_of_row _ _ 3 _ _ _ HX.out.1
        have cf := fun i => frozen_of_row _ _ i _ _ HX.out.1
        have HP := Lib.hid (put_34 (.int .u64 (W64 (nx.1))) (.int .u64 (W64 (nx.2.1))) (.int .u64 (W64 (nx.2.2.1))) (.int .u64 (W64 (nx.2.2.2))) HX.out.1)
        clear s0
        go_simp
        exact ⟨HBA.out _ ⟨⟨_, _, _, _, HP.out.1⟩, (HP.out.2.1 _ (by omega)).trans HX.out.2.2, HP.out.2.2 _ (HN.out.trans HX.out.2.1) (Nat.le_refl _)⟩, HP.out.1⟩
      simp [Act.put] at hA
      subst hA
      refine Gro2.nil ?_
      rintro w9 ⟨n9, rfl⟩ hG
      have HF := Lib.hid (HFA.out n9)
      have HG := Lib.hid hG
      clear HFA HBA HGB HBB HAP hG s0 s1 s2 s3
      generalize f n9 = w9 at *
      go_wp2
      refine ⟨⟨k + 1, (Nat.le_div_iff_mul_le (by omega)).2 (by rw [HKS.out]; omega), by rw [HKS.out]; go_num, by rw [HSUCC.out]; exact HG.out, HF.out.2.1, HF.out.2.2⟩, by simp [intOf]; omega⟩
    · have hge : ¬ (8 : Int) ≤ (len : Int) - (m : Int) := by omega
      have hkd : k = len / 8 := by
        have h1 := (Nat.div_lt_iff_lt_mul (show 0 < 8 by omega)).2 (show len < (k + 1) * 8 by rw [HKS.out]; omega)
        omega
      have hmod : len - m = len % 8 := by
        have h1 := Nat.div_add_mod len 8
        have h2 := HMK.out
        rw [hkd, Nat.mul_comm] at h2
        omega
      have hst : bState 8 (stp34 kd) st l = cur := by unfold bState; rw [HLEN.out, ← hkd]; exact HCUR.out
      have htl : bTail 8 l = l.drop m := by unfold bTail; rw [HLEN.out, ← hkd, HMK.out]
      have hi0 : (0 : Int) ≤ (m : Int) := by omega
      have hi1 : (m : Int) ≤ (len : Int) := by omega
      have hlc : (len : Int) ≤ (cap : Int) := by omega
      have hcs : (len : Int) - (m : Int) = ((len - m : Nat) : Int) := by omega
      have HE := Lib.hid (show bState 8 (stp34 kd) st l = cur ∧ bTail 8 l = l.drop m ∧ len - m = len % 8 from ⟨hst, htl, hmod⟩)
      clear hst htl hmod hkd
      have HLT := Lib.hid hlt
      clear hlt
      have HROW := Lib.hid (fun w' (hn : New wr w') => (H.out.stay HN.out).stay hn)
      cases r with
      | none =>
        obtain ⟨rfl, rfl, rfl⟩ := brow_nil H.out
        obtain rfl : m = 0 := by omega
        go_wp2_with fail
        refine Gro2.wp_region_gro2S (fun w' => (∃ u0 u1 u2 u3 : Value, w'.heap[w.heap.size + 1]? = some (.cells #[u0, u1, u2, u3] 77 (0, 0))) ∧ New w w') (fun w' => w'.heap[w.heap.size]? = some (.cells #[.int .u64 (W64 (cur.1)), .int .u64 (W64 (cur.2.1)), .int .u64 (W64 (cur.2.2.1)), .int .u64 (W64 (cur.2.2.2))] 77 (0, 0)) ∧ New wr w' ∧ w'.heap[w.heap.size + 1]? = some (.cells #[.int .u64 0, .int .u64 0, .int .u64 0, .int .u64 0] 77 (0, 0))) [1,0,0,0,2,3,0] (by kernel_rfl) (by kernel_rfl) (by kernel_rfl) (fun w' hw' => ⟨⟨_, _, _, _, hw'.2.2⟩, HN.out.trans hw'.2.1⟩) (⟨HB.out, (New.refl _).drew, HR.out⟩) ?_
        intro I J _ _ f g hfa hba hgb hbb
        have HFA := Lib.hid hfa
        have HBA := Lib.hid hba
        have HGB := Lib.hid hgb
        have HBB := Lib.hid hbb
        have s0 := fun n => cell_of_row _ _ 0 _ _ _ (hgb n).1
        have s1 := fun n => cell_of_row _ _ 1 _ _ _ (hgb n).1
        have s2 := fun n => cell_of_row _ _ 2 _ _ _ (hgb n).1
        have s3 := fun n => cell_of_row _ _ 3 _ _ _ (hgb n).1
        clear hfa hba hgb hbb
        refine Gro2.take1 1 (by kernel_rfl) ?_
        simp only [List.take, List.drop, List.length]
        repeat (go_big_quiet_step (fail))
        refine wpQuiet_nil ?_
        refine Gro2.take0 3 (by kernel_rfl) ?_
        simp only [List.take, List.drop, List.length]
        repeat (go_big_quiet_step (fail))
        refine wpQuiet_nil ?_
        refine Gro2.call (fun v => ∃ a c, v = .slice a (0 : Nat) c) (fun v w' => ∃ a c, v = .slice a (0 : Nat) c ∧ BRow w' a (0) c ([]) ∧ ∀ x, a = some x → w.heap.size + 1 < x.block) rfl rfl (⟨_, none, 0, rfl⟩) (fun w1 hB hG => ?_) (fun v1 A1 hv1 hA => ?_)
        · obtain ⟨nq, rfl⟩ := hB
          go_simp
          refine (clone_b _ _ _ _ _ (HROW.out _ (HGB.out nq).2.1)).mono ?_
          rintro e w2 ⟨a2, c2, rfl, hrow, hfr, hn⟩
          have hlt := lt_of_block (HGB.out nq).2.2
          have HX := HBB.out _ ⟨(hn.block _ (lt_of_block (HGB.out nq).1)).trans (HGB.out nq).1, (HGB.out nq).2.1.trans hn, (hn.block _ (lt_of_block (HGB.out nq).2.2)).trans (HGB.out nq).2.2⟩
          have HR2 : ∀ x, a2 = some x → w.heap.size + 1 < x.block := fun x e => by have := hfr x e; omega
          exact ⟨_, rfl, HX, ⟨_, _, rfl⟩, ⟨_, _, rfl, hrow, HR2⟩⟩
        simp [Act.put] at hA
        subst hA
        obtain ⟨a2, c2, rfl⟩ := hv1
        refine Gro2.turn (fun v => v = undef) (fun _ w9 => w9.heap[w.heap.size + 1]? = some (.cells #[.int .u64 (W64 (cur.1)), .int .u64 (W64 (cur.2.1)), .int .u64 (W64 (cur.2.2.1)), .int .u64 (W64 (cur.2.2.2))] 77 (0, 0)) ∧ BRow w9 a2 (0) c2 ([]) ∧ ∀ x, a2 = some x → w.heap.size + 1 < x.block) rfl rfl ⟨_, rfl⟩ (fun w1 hB hG => ?_) (fun v2 A2 hv2 hA => ?_)
        · obtain ⟨nq, rfl⟩ : ∃ nq, w1 = g nq := hB
          have HX := Lib.hid (HGB.out nq)
          have c0 := cell_of_row _ _ 0 _ _ _ HX.out.2.2
          have c1 := cell_of_row _ _ 1 _ _ _ HX.out.2.2
          have c2 := cell_of_row _ _ 2 _ _ _ HX.out.2.2
          have c3 := cell_of_row _ _ 3 _ _ _ HX.out.2.2
          have cf := fun i => frozen_of_row _ _ i _ _ HX.out.2.2
          have HP := Lib.hid (put_34 (.int .u64 (W64 (cur.1))) (.int .u64 (W64 (cur.2.1))) (.int .u64 (W64 (cur.2.2.1))) (.int .u64 (W64 (cur.2.2.2))) HX.out.2.2)
          have HGG := Lib.hid hG.2
          clear s0 hG
          go_simp
          obtain ⟨a3, c3, e3, hrow, hfr⟩ := HGG.out
          cases e3
          exact ⟨HBA.out _ ⟨⟨_, _, _, _, HP.out.1⟩, HP.out.2.2 _ (HN.out.trans HX.out.2.1) (by omega)⟩, HP.out.1, hrow.but (by simp) (fun x e _ => HP.out.2.1 _ (by have := hfr x e; omega)), hfr⟩
        simp [Act.put] at hA
        subst hA
        refine Gro2.take0 1 (by kernel_rfl) ?_
        simp only [List.take, List.drop, List.length]
        repeat (go_big_quiet_step (fail))
        refine wpQuiet_nil ?_
        refine Gro2.nil ?_
        rintro w9 ⟨n9, rfl⟩ hG
        have HF := Lib.hid (HFA.out n9)
        have HG := Lib.hid hG
        have k0 := cell_of_row _ _ 0 _ _ _ hG.1
        have k1 := cell_of_row _ _ 1 _ _ _ hG.1
        have k2 := cell_of_row _ _ 2 _ _ _ hG.1
        have k3 := cell_of_row _ _ 3 _ _ _ hG.1
        clear HFA HBA HGB HBB hG s0 s1 s2 s3
        generalize f n9 = w9 at *
        go_wp2
        refine bodyPost_ret (by simp [results, Tryz.results86, go_sem, k0, k1, k2, k3]; try rfl) rfl ?_
        refine ⟨a2, c2, ?_, ?_, fun x e => by have := HG.out.2.2 x e; omega, HF.out.2⟩
        · rw [HE.out.1, show 0 % 8 = 0 from (by first | exact HE.out.2.2.symm.trans (by omega) | rfl | exact Nat.zero_mod _)]
          try rfl
        · rw [HE.out.2.1, show 0 % 8 = 0 from (by first | exact HE.out.2.2.symm.trans (by omega) | rfl | exact Nat.zero_mod _)]; exact HG.out.2.1
      | some y =>
        obtain ⟨bk, off, sp⟩ := y
        by_cases hcm : cap = m
        · obtain rfl : m = len := by omega
          obtain rfl : cap = m := hcm
          have hsp : BRow wr (some ⟨bk, off, sp⟩) 0 0 (l.drop cap) := row_end (HROW.out _ (New.refl _))
          have HSP := Lib.hid hsp
          clear hsp hcs hi1 hlc
          have hcs : ((cap - cap : Nat) : Int) = 0 := by omega
          go_wp2_with fail
          refine Gro2.wp_region_gro2S (fun w' => (∃ u0 u1 u2 u3 : Value, w'.heap[w.heap.size + 1]? = some (.cells #[u0, u1, u2, u3] 77 (0, 0))) ∧ New w w') (fun w' => w'.heap[w.heap.size]? = some (.cells #[.int .u64 (W64 (cur.1)), .int .u64 (W64 (cur.2.1)), .int .u64 (W64 (cur.2.2.1)), .int .u64 (W64 (cur.2.2.2))] 77 (0, 0)) ∧ New wr w' ∧ w'.heap[w.heap.size + 1]? = some (.cells #[.int .u64 0, .int .u64 0, .int .u64 0, .int .u64 0] 77 (0, 0))) [1,0,0,0,2,3,0] (by kernel_rfl) (by kernel_rfl) (by kernel_rfl) (fun w' hw' => ⟨⟨_, _, _, _, hw'.2.2⟩, HN.out.trans hw'.2.1⟩) (⟨HB.out, (New.refl _).drew, HR.out⟩) ?_
          intro I J _ _ f g hfa hba hgb hbb
          have HFA := Lib.hid hfa
          have HBA := Lib.hid hba
          have HGB := Lib.hid hgb
          have HBB := Lib.hid hbb
          have s0 := fun n => cell_of_row _ _ 0 _ _ _ (hgb n).1
          have s1 := fun n => cell_of_row _ _ 1 _ _ _ (hgb n).1
          have s2 := fun n => cell_of_row _ _ 2 _ _ _ (hgb n).1
          have s3 := fun n => cell_of_row _ _ 3 _ _ _ (hgb n).1
          clear hfa hba hgb hbb
          refine Gro2.take1 1 (by kernel_rfl) ?_
          simp only [List.take, List.drop, List.length]
          repeat (go_big_quiet_step (fail))
          refine wpQuiet_nil ?_
          refine Gro2.take0 3 (by kernel_rfl) ?_
          simp only [List.take, List.drop, List.length]
          repeat (go_big_quiet_step (fail))
          refine wpQuiet_nil ?_
          refine Gro2.call (fun v => ∃ a c, v = .slice a (0 : Nat) c) (fun v w' => ∃ a c, v = .slice a (0 : Nat) c ∧ BRow w' a (0) c (l.drop cap) ∧ ∀ x, a = some x → w.heap.size + 1 < x.block) rfl rfl (⟨_, none, 0, rfl⟩) (fun w1 hB hG => ?_) (fun v1 A1 hv1 hA => ?_)
          · obtain ⟨nq, rfl⟩ := hB
            go_simp
            refine (clone_b _ _ _ _ _ (HSP.out.stay (HGB.out nq).2.1)).mono ?_
            rintro e w2 ⟨a2, c2, rfl, hrow, hfr, hn⟩
            have hlt := lt_of_block (HGB.out nq).2.2
            have HX := HBB.out _ ⟨(hn.block _ (lt_of_block (HGB.out nq).1)).trans (HGB.out nq).1, (HGB.out nq).2.1.trans hn, (hn.block _ (lt_of_block (HGB.out nq).2.2)).trans (HGB.out nq).2.2⟩
            have HR2 : ∀ x, a2 = some x → w.heap.size + 1 < x.block := fun x e => by have := hfr x e; omega
            exact ⟨_, rfl, HX, ⟨_, _, rfl⟩, ⟨_, _, rfl, hrow, HR2⟩⟩
          simp [Act.put] at hA
          subst hA
          obtain ⟨a2, c2, rfl⟩ := hv1
          refine Gro2.turn (fun v => v = undef) (fun _ w9 => w9.heap[w.heap.size + 1]? = some (.cells #[.int .u64 (W64 (cur.1)), .int .u64 (W64 (cur.2.1)), .int .u64 (W64 (cur.2.2.1)), .int .u64 (W64 (cur.2.2.2))] 77 (0, 0)) ∧ BRow w9 a2 (0) c2 (l.drop cap) ∧ ∀ x, a2 = some x → w.heap.size + 1 < x.block) rfl rfl ⟨_, rfl⟩ (fun w1 hB hG => ?_) (fun v2 A2 hv2 hA => ?_)
          · obtain ⟨nq, rfl⟩ : ∃ nq, w1 = g nq := hB
            have HX := Lib.hid (HGB.out nq)
            have c0 := cell_of_row _ _ 0 _ _ _ HX.out.2.2
            have c1 := cell_of_row _ _ 1 _ _ _ HX.out.2.2
            have c2 := cell_of_row _ _ 2 _ _ _ HX.out.2.2
            have c3 := cell_of_row _ _ 3 _ _ _ HX.out.2.2
            have cf := fun i => frozen_of_row _ _ i _ _ HX.out.2.2
            have HP := Lib.hid (put_34 (.int .u64 (W64 (cur.1))) (.int .u64 (W64 (cur.2.1))) (.int .u64 (W64 (cur.2.2.1))) (.int .u64 (W64 (cur.2.2.2))) HX.out.2.2)
            have HGG := Lib.hid hG.2
            clear s0 hG
            go_simp
            obtain ⟨a3, c3, e3, hrow, hfr⟩ := HGG.out
            cases e3
            exact ⟨HBA.out _ ⟨⟨_, _, _, _, HP.out.1⟩, HP.out.2.2 _ (HN.out.trans HX.out.2.1) (by omega)⟩, HP.out.1, hrow.but (by simp) (fun x e _ => HP.out.2.1 _ (by have := hfr x e; omega)), hfr⟩
          simp [Act.put] at hA
          subst hA
          refine Gro2.take0 1 (by kernel_rfl) ?_
          simp only [List.take, List.drop, List.length]
          repeat (go_big_quiet_step (fail))
          refine wpQuiet_nil ?_
          refine Gro2.nil ?_
          rintro w9 ⟨n9, rfl⟩ hG
          have HF := Lib.hid (HFA.out n9)
          have HG := Lib.hid hG
          have k0 := cell_of_row _ _ 0 _ _ _ hG.1
          have k1 := cell_of_row _ _ 1 _ _ _ hG.1
          have k2 := cell_of_row _ _ 2 _ _ _ hG.1
          have k3 := cell_of_row _ _ 3 _ _ _ hG.1
          clear HFA HBA HGB HBB hG s0 s1 s2 s3
          generalize f n9 = w9 at *
          go_wp2
          refine bodyPost_ret (by simp [results, Tryz.results86, go_sem, k0, k1, k2, k3]; try rfl) rfl ?_
          refine ⟨a2, c2, ?_, ?_, fun x e => by have := HG.out.2.2 x e; omega, HF.out.2⟩
          · rw [HE.out.1, show cap % 8 = 0 from (by first | exact HE.out.2.2.symm.trans (by omega) | rfl | exact Nat.zero_mod _)]
            try rfl
          · rw [HE.out.2.1, show cap % 8 = 0 from (by first | exact HE.out.2.2.symm.trans (by omega) | rfl | exact Nat.zero_mod _)]; exact HG.out.2.1
        · have hcm2 : ¬ (cap : Int) = (m : Int) := by omega
          have hsp : ∃ sp2, (⟨bk, off, sp⟩ : Addr).add m = ⟨bk, off + m, sp2⟩ ∧ BRow wr (some ⟨bk, off + m, sp2⟩) (len - m) (cap - m) (l.drop m) := row_rest (HROW.out _ (New.refl _)) (by omega)
          obtain ⟨sp2, hadd, hsp⟩ := hsp
          have HSP := Lib.hid hsp
          clear hsp
          go_wp2_with fail
          refine Gro2.wp_region_gro2S (fun w' => (∃ u0 u1 u2 u3 : Value, w'.heap[w.heap.size + 1]? = some (.cells #[u0, u1, u2, u3] 77 (0, 0))) ∧ New w w') (fun w' => w'.heap[w.heap.size]? = some (.cells #[.int .u64 (W64 (cur.1)), .int .u64 (W64 (cur.2.1)), .int .u64 (W64 (cur.2.2.1)), .int .u64 (W64 (cur.2.2.2))] 77 (0, 0)) ∧ New wr w' ∧ w'.heap[w.heap.size + 1]? = some (.cells #[.int .u64 0, .int .u64 0, .int .u64 0, .int .u64 0] 77 (0, 0))) [1,0,0,0,2,3,0] (by kernel_rfl) (by kernel_rfl) (by kernel_rfl) (fun w' hw' => ⟨⟨_, _, _, _, hw'.2.2⟩, HN.out.trans hw'.2.1⟩) (⟨HB.out, (New.refl _).drew, HR.out⟩) ?_
          intro I J _ _ f g hfa hba hgb hbb
          have HFA := Lib.hid hfa
          have HBA := Lib.hid hba
          have HGB := Lib.hid hgb
          have HBB := Lib.hid hbb
          have s0 := fun n => cell_of_row _ _ 0 _ _ _ (hgb n).1
          have s1 := fun n => cell_of_row _ _ 1 _ _ _ (hgb n).1
          have s2 := fun n => cell_of_row _ _ 2 _ _ _ (hgb n).1
          have s3 := fun n => cell_of_row _ _ 3 _ _ _ (hgb n).1
          clear hfa hba hgb hbb
          refine Gro2.take1 1 (by kernel_rfl) ?_
          simp only [List.take, List.drop, List.length]
          repeat (go_big_quiet_step (fail))
          refine wpQuiet_nil ?_
          refine Gro2.take0 3 (by kernel_rfl) ?_
          simp only [List.take, List.drop, List.length]
          repeat (go_big_quiet_step (fail))
          refine wpQuiet_nil ?_
          refine Gro2.call (fun v => ∃ a c, v = .slice a (len - m : Nat) c) (fun v w' => ∃ a c, v = .slice a (len - m : Nat) c ∧ BRow w' a (len - m) c (l.drop m) ∧ ∀ x, a = some x → w.heap.size + 1 < x.block) rfl rfl (⟨_, none, 0, rfl⟩) (fun w1 hB hG => ?_) (fun v1 A1 hv1 hA => ?_)
          · obtain ⟨nq, rfl⟩ := hB
            go_simp
            refine (clone_b _ _ _ _ _ (HSP.out.stay (HGB.out nq).2.1)).mono ?_
            rintro e w2 ⟨a2, c2, rfl, hrow, hfr, hn⟩
            have hlt := lt_of_block (HGB.out nq).2.2
            have HX := HBB.out _ ⟨(hn.block _ (lt_of_block (HGB.out nq).1)).trans (HGB.out nq).1, (HGB.out nq).2.1.trans hn, (hn.block _ (lt_of_block (HGB.out nq).2.2)).trans (HGB.out nq).2.2⟩
            have HR2 : ∀ x, a2 = some x → w.heap.size + 1 < x.block := fun x e => by have := hfr x e; omega
            exact ⟨_, rfl, HX, ⟨_, _, rfl⟩, ⟨_, _, rfl, hrow, HR2⟩⟩
          simp [Act.put] at hA
          subst hA
          obtain ⟨a2, c2, rfl⟩ := hv1
          refine Gro2.turn (fun v => v = undef) (fun _ w9 => w9.heap[w.heap.size + 1]? = some (.cells #[.int .u64 (W64 (cur.1)), .int .u64 (W64 (cur.2.1)), .int .u64 (W64 (cur.2.2.1)), .int .u64 (W64 (cur.2.2.2))] 77 (0, 0)) ∧ BRow w9 a2 (len - m) c2 (l.drop m) ∧ ∀ x, a2 = some x → w.heap.size + 1 < x.block) rfl rfl ⟨_, rfl⟩ (fun w1 hB hG => ?_) (fun v2 A2 hv2 hA => ?_)
          · obtain ⟨nq, rfl⟩ : ∃ nq, w1 = g nq := hB
            have HX := Lib.hid (HGB.out nq)
            have c0 := cell_of_row _ _ 0 _ _ _ HX.out.2.2
            have c1 := cell_of_row _ _ 1 _ _ _ HX.out.2.2
            have c2 := cell_of_row _ _ 2 _ _ _ HX.out.2.2
            have c3 := cell_of_row _ _ 3 _ _ _ HX.out.2.2
            have cf := fun i => frozen_of_row _ _ i _ _ HX.out.2.2
            have HP := Lib.hid (put_34 (.int .u64 (W64 (cur.1))) (.int .u64 (W64 (cur.2.1))) (.int .u64 (W64 (cur.2.2.1))) (.int .u64 (W64 (cur.2.2.2))) HX.out.2.2)
            have HGG := Lib.hid hG.2
            clear s0 hG
            go_simp
            obtain ⟨a3, c3, e3, hrow, hfr⟩ := HGG.out
            cases e3
            exact ⟨HBA.out _ ⟨⟨_, _, _, _, HP.out.1⟩, HP.out.2.2 _ (HN.out.trans HX.out.2.1) (by omega)⟩, HP.out.1, hrow.but (by simp) (fun x e _ => HP.out.2.1 _ (by have := hfr x e; omega)), hfr⟩
          simp [Act.put] at hA
          subst hA
          refine Gro2.take0 1 (by kernel_rfl) ?_
          simp only [List.take, List.drop, List.length]
          repeat (go_big_quiet_step (fail))
          refine wpQuiet_nil ?_
          refine Gro2.nil ?_
          rintro w9 ⟨n9, rfl⟩ hG
          have HF := Lib.hid (HFA.out n9)
          have HG := Lib.hid hG
          have k0 := cell_of_row _ _ 0 _ _ _ hG.1
          have k1 := cell_of_row _ _ 1 _ _ _ hG.1
          have k2 := cell_of_row _ _ 2 _ _ _ hG.1
          have k3 := cell_of_row _ _ 3 _ _ _ hG.1
          clear HFA HBA HGB HBB hG s0 s1 s2 s3
          generalize f n9 = w9 at *
          go_wp2
          refine bodyPost_ret (by simp [results, Tryz.results86, go_sem, k0, k1, k2, k3]; try rfl) rfl ?_
          refine ⟨a2, c2, ?_, ?_, fun x e => by have := HG.out.2.2 x e; omega, HF.out.2⟩
          · rw [HE.out.1, show len % 8 = len - m from (by first | exact HE.out.2.2.symm.trans (by omega) | rfl | exact Nat.zero_mod _)]
            try rfl
          · rw [HE.out.2.1, show len % 8 = len - m from (by first | exact HE.out.2.2.symm.trans (by omega) | rfl | exact Nat.zero_mod _)]; exact HG.out.2.1
end Go.Proofs.YtoplabhoedloeaaGreat
end
section
/- Layer 45: the block's Fold at sip's state alone (a seat without the streams). -/
namespace Go.Proofs.YtoplabhoedloeaaGreat
open Go.RowKit Go.Bv
set_option linter.unusedVariables false
set_option maxRecDepth 100000 in
set_option maxHeartbeats 4000000 in
theorem fold_34 (kd : Nat × Nat × Bool) (hkd : kd.1 ≤ 100) (st : BitVec 64 × BitVec 64 × BitVec 64 × BitVec 64) (b : Option Addr) (lb cb : Nat) (l : List (BitVec 8)) (w : World) (hm : BRow w b lb cb l) :
    Calls Tryz.prog 34 #[.int .i64 8, .agg #[.int .u64 (W64 (st.1)), .int .u64 (W64 (st.2.1)), .int .u64 (W64 (st.2.2.1)), .int .u64 (W64 (st.2.2.2))], (.func (Fn.func 36) #[.agg #[.int .i64 (kd.1 : Nat), .int .i64 (kd.2.1 : Nat), .bool kd.2.2]] #[]), .slice b lb cb] w fun e w' => ∃ a c, e = .returned (.tuple #[.agg #[.int .u64 (W64 ((bState 8 (stp34 kd) st l).1)), .int .u64 (W64 ((bState 8 (stp34 kd) st l).2.1)), .int .u64 (W64 ((bState 8 (stp34 kd) st l).2.2.1)), .int .u64 (W64 ((bState 8 (stp34 kd) st l).2.2.2))], .slice a (lb % 8 : Nat) c]) ∧ BRow w' a (lb % 8) c (bTail 8 l) ∧ New w w' := by
  have HSZ : Hid (∀ w : World, Calls Tryz.prog 87 #[.int .i64 8] w fun e w' => e = .returned (.int .i64 8) ∧ w' = w) := Lib.hid fun w => size_of 8 w
  have HMR := Lib.hid hm
  have HPS := Lib.hid (fun (w' : World) r c (hrw : BRow w' r lb c l) => pass_34 kd hkd st r lb c l w' hrw)
  have HZ := Lib.hid (two_blocksD w (.cells #[.int .u64 (W64 (st.1)), .int .u64 (W64 (st.2.1)), .int .u64 (W64 (st.2.2.1)), .int .u64 (W64 (st.2.2.2))] 77) (.cells #[.int .u64 0, .int .u64 0, .int .u64 0, .int .u64 0] 77))
  clear hm
  generalize (bState 8 (stp34 kd) st l) = nst at *
  generalize (bTail 8 l) = ntl at *
  go_enter Tryz.func34, Tryz.ntmps34
  go_wp2_with fail
  refine Gro2.wp_region_gro2S (fun w' => (∃ u0 u1 u2 u3 : Value, w'.heap[w.heap.size + 1]? = some (.cells #[u0, u1, u2, u3] 77 (0, 0))) ∧ New w w') (fun w' => w'.heap[w.heap.size]? = some (.cells #[.int .u64 (W64 (st.1)), .int .u64 (W64 (st.2.1)), .int .u64 (W64 (st.2.2.1)), .int .u64 (W64 (st.2.2.2))] 77 (0, 0)) ∧ w'.heap[w.heap.size + 1]? = some (.cells #[.int .u64 0, .int .u64 0, .int .u64 0, .int .u64 0] 77 (0, 0)) ∧ New w w') [0,2,1,0,0,2,2,0,0,3,0] (by kernel_rfl) (by kernel_rfl) (by kernel_rfl) (fun w' hw' => ⟨⟨_, _, _, _, hw'.2.1⟩, hw'.2.2⟩) (⟨HZ.out.1, HZ.out.2.1, HZ.out.2.2.drew⟩) ?_
  intro I J _ _ f g hfa hba hgb hbb
  have HFA := Lib.hid hfa
  have HBA := Lib.hid hba
  have HGB := Lib.hid hgb
  have HBB := Lib.hid hbb
  have s0 := fun n => cell_of_row _ _ 0 _ _ _ (hgb n).1
  have s1 := fun n => cell_of_row _ _ 1 _ _ _ (hgb n).1
  have s2 := fun n => cell_of_row _ _ 2 _ _ _ (hgb n).1
  have s3 := fun n => cell_of_row _ _ 3 _ _ _ (hgb n).1
  clear hfa hba hgb hbb
  refine Gro2.take0 1 (by kernel_rfl) ?_
  simp only [List.take, List.drop, List.length]
  repeat (go_big_quiet_step (fail))
  refine wpQuiet_nil ?_
  refine Gro2.callt (fun v => v = .int .i64 8) (fun _ _ => True) rfl rfl (⟨_, rfl⟩) (fun w1 hB hG => ?_) (fun v1 A1 hv1 hA => ?_)
  · obtain ⟨nq, rfl⟩ := hB
    go_simp
    refine (HSZ.out _).mono ?_
    rintro e w2 ⟨rfl, rfl⟩
    first | exact ⟨_, rfl, ⟨nq, rfl⟩, rfl, trivial⟩ | exact ⟨⟨nq, rfl⟩, rfl⟩ | exact ⟨rfl, ⟨nq, rfl⟩⟩ | exact ⟨nq, rfl⟩
  simp [Act.put] at hA
  subst hA
  obtain rfl := hv1
  refine Gro2.take1 1 (by kernel_rfl) ?_
  simp only [List.take, List.drop, List.length]
  repeat (go_big_quiet_step (fail))
  refine wpQuiet_nil ?_
  refine Gro2.take0 2 (by kernel_rfl) ?_
  simp only [List.take, List.drop, List.length]
  repeat (go_big_quiet_step (fail))
  refine wpQuiet_nil ?_
  refine Gro2.callt (fun v => ∃ r c, v = .slice r (lb : Nat) c) (fun v w' => ∃ r c, v = .slice r (lb : Nat) c ∧ BRow w' r lb c l) rfl rfl (⟨_, none, 0, rfl⟩) (fun w1 hB hG => ?_) (fun v2 A2 hv2 hA => ?_)
  · obtain ⟨nq, rfl⟩ := hB
    clear s0 s1 s2 s3
    go_simp
    refine (clone_b _ _ _ _ _ (HMR.out.stay (HGB.out nq).2.2)).mono ?_
    rintro e w2 ⟨r, c, rfl, hrow, hfr, hn⟩
    have HX := HBB.out _ ⟨(hn.block _ (lt_of_block (HGB.out nq).1)).trans (HGB.out nq).1, (hn.block _ (lt_of_block (HGB.out nq).2.1)).trans (HGB.out nq).2.1, (HGB.out nq).2.2.trans hn⟩
    exact ⟨_, rfl, HX, ⟨_, _, rfl⟩, ⟨_, _, rfl, hrow⟩⟩
  simp [Act.put] at hA
  subst hA
  obtain ⟨r2, c2, rfl⟩ := hv2
  refine Gro2.callt (fun v => ∃ r c, v = .tuple #[.agg #[.int .u64 (W64 (nst.1)), .int .u64 (W64 (nst.2.1)), .int .u64 (W64 (nst.2.2.1)), .int .u64 (W64 (nst.2.2.2))], .slice r (lb % 8 : Nat) c]) (fun v w' => ∃ r c, v = .tuple #[.agg #[.int .u64 (W64 (nst.1)), .int .u64 (W64 (nst.2.1)), .int .u64 (W64 (nst.2.2.1)), .int .u64 (W64 (nst.2.2.2))], .slice r (lb % 8 : Nat) c] ∧ BRow w' r (lb % 8) c ntl ∧ ∀ y, r = some y → w.heap.size + 1 < y.block) rfl rfl (⟨_, none, 0, rfl⟩) (fun w1 hB hG => ?_) (fun v3 A3 hv3 hA => ?_)
  · obtain ⟨nq, rfl⟩ := hB
    obtain ⟨r3, c3, e2, hz⟩ := hG
    cases e2
    have HZ2 := Lib.hid hz
    clear hz s0 s1 s2 s3
    go_simp
    refine (HPS.out _ _ _ HZ2.out).mono ?_
    rintro e w2 ⟨r, c, rfl, hrow, hfr, hn⟩
    have HX := HBB.out _ ⟨(hn.block _ (lt_of_block (HGB.out nq).1)).trans (HGB.out nq).1, (hn.block _ (lt_of_block (HGB.out nq).2.1)).trans (HGB.out nq).2.1, (HGB.out nq).2.2.trans hn⟩
    have hlt := lt_of_block (HGB.out nq).2.1
    have HR2 : ∀ y, r = some y → w.heap.size + 1 < y.block := fun y e => by have := hfr y e; omega
    exact ⟨_, rfl, HX, ⟨_, _, rfl⟩, ⟨_, _, rfl, hrow, HR2⟩⟩
  simp [Act.put] at hA
  subst hA
  obtain ⟨r3, c3, rfl⟩ := hv3
  refine Gro2.take0 2 (by kernel_rfl) ?_
  simp only [List.take, List.drop, List.length]
  repeat (go_big_quiet_step (fail))
  refine wpQuiet_nil ?_
  refine Gro2.turn (fun v => v = undef) (fun _ w9 => Lies w9 (w.heap.size + 1) (.cells #[.int .u64 (W64 (nst.1)), .int .u64 (W64 (nst.2.1)), .int .u64 (W64 (nst.2.2.1)), .int .u64 (W64 (nst.2.2.2))] 77 (0, 0)) ∧ BRow w9 r3 (lb % 8) c3 ntl) rfl rfl ⟨_, rfl⟩ (fun w1 hB hG => ?_) (fun v4 A4 hv4 hA => ?_)
  · obtain ⟨nq, rfl⟩ : ∃ nq, w1 = g nq := hB
    obtain ⟨r4, c4, e2, hrow, hfr⟩ := hG
    cases e2
    have HX := Lib.hid (HGB.out nq)
    have c0 := cell_of_row _ _ 0 _ _ _ HX.out.2.1
    have c1 := cell_of_row _ _ 1 _ _ _ HX.out.2.1
    have c2 := cell_of_row _ _ 2 _ _ _ HX.out.2.1
    have c3 := cell_of_row _ _ 3 _ _ _ HX.out.2.1
    have cf := fun i => frozen_of_row _ _ i _ _ HX.out.2.1
    have HP := Lib.hid (put_34 (.int .u64 (W64 (nst.1))) (.int .u64 (W64 (nst.2.1))) (.int .u64 (W64 (nst.2.2.1))) (.int .u64 (W64 (nst.2.2.2))) HX.out.2.1)
    have HROW := Lib.hid (hrow.but (by simp) (fun y e _ => HP.out.2.1 _ (by have := hfr y e; omega)))
    have HLI := Lib.hid (show Lies _ _ _ from HP.out.1)
    clear hrow hfr s0 s1 s2 s3
    go_simp
    exact ⟨HBA.out _ ⟨⟨_, _, _, _, HP.out.1⟩, HP.out.2.2 _ HX.out.2.2 (by omega)⟩, HLI.out, HROW.out⟩
  simp [Act.put] at hA
  subst hA
  refine Gro2.take0 1 (by kernel_rfl) ?_
  simp only [List.take, List.drop, List.length]
  repeat (go_big_quiet_step (fail))
  refine wpQuiet_nil ?_
  refine Gro2.nil ?_
  rintro w9 ⟨n9, rfl⟩ hG
  obtain ⟨hli, hrow⟩ := hG
  have HN := Lib.hid (HFA.out n9).2
  have HROW := Lib.hid hrow
  have k0 := cell_of_row _ _ 0 _ _ _ hli
  have k1 := cell_of_row _ _ 1 _ _ _ hli
  have k2 := cell_of_row _ _ 2 _ _ _ hli
  have k3 := cell_of_row _ _ 3 _ _ _ hli
  clear HFA HBA HGB HBB hli hrow s0 s1 s2 s3
  generalize f n9 = w9 at *
  go_wp2
  refine bodyPost_ret (by simp [results, Tryz.results34, go_sem, k0, k1, k2, k3]; try rfl) rfl ?_
  exact ⟨r3, c3, rfl, HROW.out, HN.out⟩
end Go.Proofs.YtoplabhoedloeaaGreat
end
section
/- Layer 45: sip.One. -/
namespace Go.Proofs.YtoplabhoedloeaaGreat
open Go.RowKit Go.Bv
set_option linter.unusedVariables false
/-- a function value with one thing held -/
theorem _root_.Go.Gro3.mkf {P : Program} {ops : Array Oper} {A B : World → Prop} {kd : Nat → Nat} {N : World → World → Prop} {AQ : Nat → Nat → World → Prop} {Q : Bool → (World → Prop) → Act → Prop} {p : Bool} {G : World → Prop} {o : Oper} {rest : List Oper} {k : Nat} {a : Act} (fn : Fn) (x : Operand) (v : Value) (hop : o.op = .makeFunc fn #[x] #[]) (hw : Region.wanted o (yielded ops a.tmps) = true) (hc : kd k = 0) (he : a.eval x = v)
    (hk : ∀ a', a' = a.put o.dst (.func fn #[v] #[]) → Gro3.wpGrow P ops A B kd N AQ Q rest (k + 1) p G a') : Gro3.wpGrow P ops A B kd N AQ Q (o :: rest) k p G a := by
  show Gro3.step P ops A B kd N AQ k o (Gro3.wpGrow P ops A B kd N AQ Q rest (k + 1)) p G a
  unfold Gro3.step
  rw [if_pos hw, if_pos (by unfold Gro3.still?; simp [hc])]
  refine ⟨Or.inl hc, .func fn #[v] #[], fun w _ => ?_, hk _ rfl⟩
  generalize a.eval = ρ at he ⊢
  simp [execOp, hop, he, go_sem, Grow.stillUpon]
set_option maxRecDepth 100000 in
set_option maxHeartbeats 4000000 in
theorem hone_34 (sd : Sd34) (a : Option Addr) (n c : Nat) (l : List (BitVec 8)) (w : World) (h : BRow w a n c l) :
    Calls Tryz.prog 21 #[.int .i64 sd.kind, .agg #[.int .u64 (W64 sd.key.1), .int .u64 (W64 sd.key.2)], .slice a n c] w fun e w' => e = .returned (.agg #[.int .u64 (W64 (hash34 sd.kd sd.key l).2), .int .u64 (W64 (hash34 sd.kd sd.key l).1)]) ∧ New w w' := by
  have HST := Lib.hid (start_34s sd.kd sd.key)
  have HF := Lib.hid (fun w' (hn : New w w') => fold_34 sd.kd sd.h1 (start34 sd.kd sd.key) a n c l w' (h.stay hn))
  have HVA := Lib.hid (variant_34s sd.kind sd.kd sd.hK)
  have hlen := h.len_eq
  unfold hash34
  rw [hlen]
  clear h hlen
  obtain ⟨s0, h0⟩ : ∃ z, start34 sd.kd sd.key = z := ⟨_, rfl⟩
  rw [h0] at HST HF
  rw [h0]
  obtain ⟨st, h1⟩ : ∃ z, bState 8 (stp34 sd.kd) s0 l = z := ⟨_, rfl⟩
  obtain ⟨tl, h2⟩ : ∃ z, bTail 8 l = z := ⟨_, rfl⟩
  rw [h1, h2] at HF
  rw [h1, h2]
  clear h0 h1 h2
  have HEN := Lib.hid (fun (w' : World) a' c' (hr : BRow w' a' (n % 8) c' tl) => finish_34s sd.kd sd.h1 sd.h2 st a' (n % 8) c' tl (BitVec.ofNat 64 n) w' hr)
  obtain ⟨hh, hhe⟩ : ∃ z, end34 sd.kd st tl (BitVec.ofNat 64 n) = z := ⟨_, rfl⟩
  rw [hhe] at HEN
  rw [hhe]
  clear hhe
  have HZ := Lib.hid (two_blocksD w (.cells #[.int .u64 (W64 sd.key.1), .int .u64 (W64 sd.key.2)] 24) (.cells #[.int .u64 0, .int .u64 0] 24))
  have HKY := Lib.hid HZ.out.1
  have HO := Lib.hid HZ.out.2.1
  have HN := Lib.hid HZ.out.2.2
  clear HZ
  go_enter Tryz.func21, Tryz.ntmps21
  go_wp2_with fail
  refine (HVA.out _).mono ?_
  rintro e w9 ⟨rfl, hn⟩
  replace HKY := Lib.hid ((hn.block _ (lt_of_block HKY.out)).trans HKY.out)
  replace HO := Lib.hid ((hn.block _ (lt_of_block HO.out)).trans HO.out)
  replace HN := Lib.hid (HN.out.trans hn)
  clear hn HVA
  have hx := heap_alloc_new w9 (.cells #[.int .i64 (sd.kd.1 : Nat), .int .i64 (sd.kd.2.1 : Nat), .bool sd.kd.2.2] 74)
  have hn2 := (New.refl w9).alloc (.cells #[.int .i64 (sd.kd.1 : Nat), .int .i64 (sd.kd.2.1 : Nat), .bool sd.kd.2.2] 74)
  obtain ⟨qHVB, hq⟩ : ∃ q, w9.heap.size = q := ⟨_, rfl⟩
  have hle := HN.out.le
  rw [hq] at hx hle
  have hw0 := And.intro (rfl : w9.alloc (.cells #[.int .i64 (sd.kd.1 : Nat), .int .i64 (sd.kd.2.1 : Nat), .bool sd.kd.2.2] 74) = w9.alloc (.cells #[.int .i64 (sd.kd.1 : Nat), .int .i64 (sd.kd.2.1 : Nat), .bool sd.kd.2.2] 74)) hq
  generalize hw2 : w9.alloc (.cells #[.int .i64 (sd.kd.1 : Nat), .int .i64 (sd.kd.2.1 : Nat), .bool sd.kd.2.2] 74) = w10 at hx hn2 hw0
  have HE := Lib.hid (show w9.alloc (.cells #[.int .i64 (sd.kd.1 : Nat), .int .i64 (sd.kd.2.1 : Nat), .bool sd.kd.2.2] 74) = w10 ∧ w9.heap.size = qHVB from ⟨hw2, hq⟩)
  clear hw0 hw2
  replace HKY := Lib.hid ((hn2.block _ (lt_of_block HKY.out)).trans HKY.out)
  replace HO := Lib.hid ((hn2.block _ (lt_of_block HO.out)).trans HO.out)
  replace HN := Lib.hid (HN.out.trans hn2)
  have HVB := Lib.hid hx
  have HLHVB := Lib.hid hle
  clear hx hn2 hq hle
  go_wp2_with (rw [HE.out.1, HE.out.2])
  clear HE
  refine Gro3.wp_region_gro3S (fun w' => w'.heap[w.heap.size]? = some (.cells #[.int .u64 (W64 sd.key.1), .int .u64 (W64 sd.key.2)] 24 (0, 0)) ∧ w'.heap[w.heap.size + 1]? = some (.cells #[.int .u64 0, .int .u64 0] 24 (0, 0)) ∧ w'.heap[qHVB]? = some (.cells #[.int .i64 (sd.kd.1 : Nat), .int .i64 (sd.kd.2.1 : Nat), .bool sd.kd.2.2] 74 (0, 0)) ∧ New w w') (fun w' => w'.heap[w.heap.size]? = some (.cells #[.int .u64 (W64 sd.key.1), .int .u64 (W64 sd.key.2)] 24 (0, 0)) ∧ w'.heap[w.heap.size + 1]? = some (.cells #[.int .u64 0, .int .u64 0] 24 (0, 0)) ∧ w'.heap[qHVB]? = some (.cells #[.int .i64 (sd.kd.1 : Nat), .int .i64 (sd.kd.2.1 : Nat), .bool sd.kd.2.2] 74 (0, 0)) ∧ New w w') [0,0,2,0,0,0,2,0,0,0,4,3,0] New (fun _ q w' => Lies w' q (.cells #[.int .u64 0, .int .u64 0, .int .u64 0, .int .u64 0] 77 (0, 0)) ∧ w.heap.size + 1 < q ∧ qHVB < q) (by kernel_rfl) (by kernel_rfl) (by kernel_rfl) (fun k q w w' hn h => ⟨(hn.block _ (lt_of_block h.1)).trans h.1, h.2⟩) (fun w' hw' => hw') (⟨HKY.out, HO.out, HVB.out, HN.out.drew⟩) ?_
  intro I J _ _ f g hfa hba hgb hbb
  have HFA := Lib.hid hfa
  have HBA := Lib.hid hba
  have HGB := Lib.hid hgb
  have HBB := Lib.hid hbb
  have fk0 := fun n => cell_of_row _ _ 0 _ _ _ (hfa n).1
  have fk1 := fun n => cell_of_row _ _ 1 _ _ _ (hfa n).1
  have fv0 := fun n => cell_of_row _ _ 0 _ _ _ (hfa n).2.2.1
  have fv1 := fun n => cell_of_row _ _ 1 _ _ _ (hfa n).2.2.1
  have fv2 := fun n => cell_of_row _ _ 2 _ _ _ (hfa n).2.2.1
  clear hfa hba hgb hbb
  refine Gro3.take0 2 (by kernel_rfl) ?_
  simp only [List.take, List.drop, List.length]
  repeat (go_big_quiet_step (fail))
  refine wpQuiet_nil ?_
  refine Gro3.callt (fun v => v = .agg #[.int .u64 (W64 (s0.1)), .int .u64 (W64 (s0.2.1)), .int .u64 (W64 (s0.2.2.1)), .int .u64 (W64 (s0.2.2.2))]) (fun _ _ => True) rfl rfl (⟨_, rfl⟩) (fun _ _ _ _ _ => trivial) (fun w1 hB hG => ?_) (fun v1 A1 hv1 hA => ?_)
  · obtain ⟨nq, rfl⟩ := hB
    clear fk0 fk1 fv0 fv1 fv2
    go_simp
    refine (HST.out _).mono ?_
    rintro e w2 ⟨rfl, hn⟩
    have HX := HBB.out _ ⟨(hn.block _ (lt_of_block (HGB.out nq).1)).trans (HGB.out nq).1, (hn.block _ (lt_of_block (HGB.out nq).2.1)).trans (HGB.out nq).2.1, (hn.block _ (lt_of_block (HGB.out nq).2.2.1)).trans (HGB.out nq).2.2.1, (HGB.out nq).2.2.2.trans hn⟩
    first | exact ⟨_, rfl, HX, hn, rfl⟩ | exact ⟨_, rfl, HX, hn, rfl, trivial⟩ | exact ⟨rfl, HX, hn⟩ | exact ⟨HX, hn, rfl⟩ | exact ⟨HX, hn⟩
  simp [Act.put] at hA
  subst hA
  obtain rfl := hv1
  refine Gro3.take0 1 (by kernel_rfl) ?_
  simp only [List.take, List.drop, List.length]
  repeat (go_big_quiet_step (fail))
  refine wpQuiet_nil ?_
  refine Gro3.mkf (Fn.func 36) (.tmp 23) ((.agg #[.int .i64 (sd.kd.1 : Nat), .int .i64 (sd.kd.2.1 : Nat), .bool sd.kd.2.2])) rfl rfl rfl rfl (fun A2 hA => ?_)
  simp [Act.put] at hA
  subst hA
  refine Gro3.take0 1 (by kernel_rfl) ?_
  simp only [List.take, List.drop, List.length]
  repeat (go_big_quiet_step (fail))
  refine wpQuiet_nil ?_
  refine Gro3.callt (fun v => ∃ r c, v = .tuple #[.agg #[.int .u64 (W64 (st.1)), .int .u64 (W64 (st.2.1)), .int .u64 (W64 (st.2.2.1)), .int .u64 (W64 (st.2.2.2))], .slice r (n % 8 : Nat) c]) (fun v w' => ∃ r c, v = .tuple #[.agg #[.int .u64 (W64 (st.1)), .int .u64 (W64 (st.2.1)), .int .u64 (W64 (st.2.2.1)), .int .u64 (W64 (st.2.2.2))], .slice r (n % 8 : Nat) c] ∧ BRow w' r (n % 8) c tl) rfl rfl (⟨_, none, 0, rfl⟩) (fun v w w' hn h => by obtain ⟨r, c, e, hr⟩ := h; exact ⟨r, c, e, hr.stay hn⟩) (fun w1 hB hG => ?_) (fun v3 A3 hv3 hA => ?_)
  · obtain ⟨nq, rfl⟩ := hB
    clear fk0 fk1 fv0 fv1 fv2
    go_simp
    refine (HF.out _ (HGB.out nq).2.2.2).mono ?_
    rintro e w2 ⟨r, c, rfl, hrow, hn⟩
    have HX := HBB.out _ ⟨(hn.block _ (lt_of_block (HGB.out nq).1)).trans (HGB.out nq).1, (hn.block _ (lt_of_block (HGB.out nq).2.1)).trans (HGB.out nq).2.1, (hn.block _ (lt_of_block (HGB.out nq).2.2.1)).trans (HGB.out nq).2.2.1, (HGB.out nq).2.2.2.trans hn⟩
    exact ⟨_, rfl, HX, hn, ⟨_, _, rfl⟩, ⟨_, _, rfl, hrow⟩⟩
  simp [Act.put] at hA
  subst hA
  obtain ⟨ra, ca, rfl⟩ := hv3
  refine Gro3.take0 3 (by kernel_rfl) ?_
  simp only [List.take, List.drop, List.length]
  repeat (go_big_quiet_step (fail))
  refine wpQuiet_nil ?_
  refine Gro3.alloc rfl rfl (fun w1 hB => ?_) (fun qG A4 hA => ?_)
  · obtain ⟨nq, rfl⟩ := hB
    have hal := (New.refl (g nq)).alloc (.cells #[.int .u64 0, .int .u64 0, .int .u64 0, .int .u64 0] 77)
    have HX := Lib.hid (HBB.out _ ⟨(hal.block _ (lt_of_block (HGB.out nq).1)).trans (HGB.out nq).1, (hal.block _ (lt_of_block (HGB.out nq).2.1)).trans (HGB.out nq).2.1, (hal.block _ (lt_of_block (HGB.out nq).2.2.1)).trans (HGB.out nq).2.2.1, (HGB.out nq).2.2.2.trans hal⟩)
    have HNL := Lib.hid hal
    have HLZ := Lib.hid (show Lies _ _ _ from heap_alloc_new (g nq) (.cells #[.int .u64 0, .int .u64 0, .int .u64 0, .int .u64 0] 77))
    have HLE9 := Lib.hid (lt_of_block (HGB.out nq).2.1)
    have HLE8 := Lib.hid (lt_of_block (HGB.out nq).2.2.1)
    clear hal fk0 fk1 fv0 fv1 fv2
    go_simp
    first | exact ⟨_, rfl, HX.out, HNL.out, HLZ.out, HLE9.out, HLE8.out⟩ | exact ⟨HX.out, HNL.out, HLZ.out, HLE9.out, HLE8.out⟩
  simp [Act.put] at hA
  subst hA
  refine Gro3.turn (fun v => v = undef) (fun _ w9 => Lies w9 qG (.cells #[.int .u64 (W64 (st.1)), .int .u64 (W64 (st.2.1)), .int .u64 (W64 (st.2.2.1)), .int .u64 (W64 (st.2.2.2))] 77 (0, 0)) ∧ w.heap.size + 1 < qG ∧ BRow w9 ra (n % 8) ca tl) rfl rfl ⟨_, rfl⟩ (fun w1 hB hG => ?_) (fun v5 A5 hv5 hA => ?_)
  · obtain ⟨nq, rfl⟩ : ∃ nq, w1 = g nq := hB
    obtain ⟨⟨r5, c5, e5, hz⟩, hli, hge, hge2⟩ := hG
    cases e5
    have HX := Lib.hid (HGB.out nq)
    have HGE := Lib.hid hge
    have HGE2 := Lib.hid hge2
    have c0 := cell_of_row _ _ 0 _ _ _ hli
    have c1 := cell_of_row _ _ 1 _ _ _ hli
    have c2 := cell_of_row _ _ 2 _ _ _ hli
    have c3 := cell_of_row _ _ 3 _ _ _ hli
    have cf := fun i => frozen_of_row _ _ i _ _ hli
    have HP := Lib.hid (put4h (.int .u64 (W64 (st.1))) (.int .u64 (W64 (st.2.1))) (.int .u64 (W64 (st.2.2.1))) (.int .u64 (W64 (st.2.2.2))) hli)
    have HROW := Lib.hid (hz.but (by simp) (fun y e h0 => HP.out.2.1 _ (hz.apart ⟨_, _, _, hli, by simp⟩ y e h0)))
    have HLI := Lib.hid (show Lies _ _ _ from HP.out.1)
    clear hz hli hge hge2 fk0 fk1 fv0 fv1 fv2
    go_simp
    exact ⟨HBA.out _ ⟨(HP.out.2.1 _ (by have := HGE.out; omega)).trans HX.out.1, (HP.out.2.1 _ (by have := HGE.out; omega)).trans HX.out.2.1, (HP.out.2.1 _ (by have := HGE2.out; omega)).trans HX.out.2.2.1, HP.out.2.2 _ HX.out.2.2.2 (by have := HGE.out; omega)⟩, HLI.out, HGE.out, HROW.out⟩
  simp [Act.put] at hA
  subst hA
  refine Gro3.take0 1 (by kernel_rfl) ?_
  simp only [List.take, List.drop, List.length]
  repeat (go_big_quiet_step (fail))
  refine wpQuiet_nil ?_
  refine Gro3.nil ?_
  rintro w11 ⟨n9, rfl⟩ hG
  have hF := HFA.out n9
  obtain ⟨hli, hge, hrow⟩ := hG
  have HS := Lib.hid (show (f n9).heap[qG]? = _ from hli)
  have HR := Lib.hid hrow
  replace HO := Lib.hid hF.2.1
  replace HVB := Lib.hid hF.2.2.1
  replace HN := Lib.hid hF.2.2.2
  clear HFA HBA HGB HBB hli hge hrow hF fk0 fk1 fv0 fv1 fv2 HKY HST HF HLHVB
  generalize f n9 = w9 at *
  have x0 := cell_of_row _ _ 0 _ _ _ HS.out
  have x1 := cell_of_row _ _ 1 _ _ _ HS.out
  have x2 := cell_of_row _ _ 2 _ _ _ HS.out
  have x3 := cell_of_row _ _ 3 _ _ _ HS.out
  have u0 := cell_of_row _ _ 0 _ _ _ HVB.out
  have u1 := cell_of_row _ _ 1 _ _ _ HVB.out
  have u2 := cell_of_row _ _ 2 _ _ _ HVB.out
  go_wp2_with fail
  refine (HEN.out _ _ _ HR.out).mono ?_
  rintro e w8 ⟨rfl, hn⟩
  replace HO := Lib.hid ((hn.block _ (lt_of_block HO.out)).trans HO.out)
  replace HN := Lib.hid (HN.out.trans hn)
  clear hn x0 x1 x2 x3 u0 u1 u2 HS HR HEN HVB
  have z0 := cell_of_row _ _ 0 _ _ _ HO.out
  have z1 := cell_of_row _ _ 1 _ _ _ HO.out
  have zf := fun i => frozen_of_row _ _ i _ _ HO.out
  go_wp2
  refine bodyPost_ret (by simp [results, Tryz.results21, go_sem, z0, z1]; try rfl) rfl ?_
  exact ⟨rfl, ((HN.out.setCell (by show w.heap.size ≤ w.heap.size + 1; omega) _).setCell (by show w.heap.size ≤ w.heap.size + 1; omega) _)⟩
end Go.Proofs.YtoplabhoedloeaaGreat
end
section
/- Layer 45: Child. -/
namespace Go.Drv
open Go Go.Bv Go.RowKit
set_option linter.unusedVariables false
/-- the bytes of a text, as words of 8 bits -/
def wds (l : List UInt8) : List (BitVec 8) := l.map UInt8.toBitVec
theorem wds_len (l : List UInt8) : (wds l).length = l.length := by unfold wds; simp
/-- one byte more on a slice that lies in a block of its own -/
theorem app1 {P : Program} (t ty e : TypeId) (i : TypeInfo) (ht : P.underlying t = some (.slice e)) (hi : P.info? e = some i) (hz : i.zero = some (.int .u8 0)) (hsize : i.size = 1) (hby : i.bytes = 1)
    (W w : World) (g n cap : Nat) (fz : Nat × Nat) (cur : Array Value) (l : List (BitVec 8)) (hg : w.heap[g]? = some (.cells cur e fz)) (hW : New W w) (hgW : W.heap.size ≤ g) (hcs : cur.size = cap) (hnc : n ≤ cap) (hl : l.length = n) (hn : n ≤ 140737488355327) (hfz : cap ≤ fz.1 ∨ fz.2 = 0) (hcm : cap ≤ maxLen)
    (hc : ∀ j, j < n → cur[j]? = some (.int .u8 (W8 (l.getD j 0)))) (ad : Addr) (c : Nat) (x : BitVec 8) (hx : w.cell? (ad.add 0) = some (.int .u8 (W8 x))) :
    ∃ a' cap' w', (Builtin.append_ #[t, t] ty #[.slice (some ⟨g, 0, none⟩) n cap, .slice (some ad) 1 c]).run P w = .ok (.slice a' (n + 1 : Nat) cap') w' ∧ BRow w' a' (n + 1) cap' (l ++ [x]) ∧ New W w' := by
  have hnews : ∀ (j : Nat) u, [Value.int .u8 (W8 x)][j]? = some u → w.cell? (ad.add j) = some u := by
    intro j u hj
    cases j with
    | zero => simp at hj; subst hj; exact hx
    | succ k => simp at hj
  by_cases hr : n + 1 ≤ cap
  · have h1 := run_append_room_cells (P := P) w t ty e i ht hi g 0 n cap ad 1 c [.int .u8 (W8 x)] (by rw [hsize]; rfl) hnews (by intro u hu; simp at hu; subst hu; rfl) hr
      (by
        intro j hj
        have hj0 : j = 0 := by simpa using hj
        subst hj0
        rw [hsize]
        unfold World.cell?
        simp only [hg]
        simp
        omega)
      (by
        intro j hj
        have hj0 : j = 0 := by simpa using hj
        subst hj0
        rw [hsize]
        unfold World.frozen?
        simp only [hg]
        simp
        omega)
    have hset : w.setCells g (0 + n * i.size) [.int .u8 (W8 x)] = w.setCell ⟨g, n, none⟩ (.int .u8 (W8 x)) := by
      rw [hsize, Nat.zero_add, Nat.mul_one]
      rfl
    rw [hset] at h1
    have hb : (w.setCell ⟨g, n, none⟩ (.int .u8 (W8 x))).heap[g]? = some (.cells (cur.setIfInBounds n (.int .u8 (W8 x))) e fz) := by simp [World.setCell, Array.getElem?_modify, hg]
    refine ⟨_, _, _, h1, ?_, hW.setCell hgW _⟩
    exact {
      len_eq := by rw [List.length_append, hl]; rfl
      le := hr
      most := by omega
      room := by unfold maxLen at hcm; omega
      none := by intro e0; cases e0
      cell := by
        intro b off e0 j hj
        cases e0
        unfold World.cell?
        simp only [hb]
        rw [Nat.zero_add]
        by_cases hjn : j = n
        · subst hjn
          rw [List.getD_eq_getElem?_getD, List.getElem?_append_right (by omega), hl, Nat.sub_self]
          have hlt : j < cur.size := by omega
          simp [hlt]
        · have := hc j (by omega)
          rw [List.getD_eq_getElem?_getD, List.getElem?_append_left (by omega), ← List.getD_eq_getElem?_getD]
          have hne : n ≠ j := fun e1 => hjn e1.symm
          simp only [Array.getElem?_setIfInBounds]
          simp only [if_neg hne]
          simpa using this
      spot := by intro y e0 _; cases e0; rfl
      old := by intro y e0 _; cases e0; exact lt_of_block hb }
  · obtain ⟨v', w', r1, r2, r3⟩ := run_append_arg_grows (P := P) w t ty e i (.int .u8 0) 1 1 ht hi hz hsize hby rfl (by decide) ⟨g, 0, none⟩ n cap (l.map fun y => .int .u8 (W8 y)) (by simp [hl])
      (by
        intro j u hj
        rw [add_plainD, Nat.zero_add]
        have hjn : j < n := by
          rcases Nat.lt_or_ge j l.length with h2 | h2
          · omega
          · rw [List.getElem?_map, List.getElem?_eq_none h2] at hj; cases hj
        have h2 := hc j hjn
        rw [List.getElem?_map, List.getElem?_eq_getElem (by omega)] at hj
        rw [List.getD_eq_getElem?_getD, List.getElem?_eq_getElem (by omega)] at h2
        unfold World.cell?
        simp only [hg]
        rw [← hj]
        simpa using h2)
      ad 1 c [.int .u8 (W8 x)] rfl hnews (by omega) (by unfold maxLen; omega) (by omega)
    have r2' : w'.ownsRow w.heap.size e 1 v' (n + 1) ((l ++ [x]).map fun y => .int .u8 (W8 y)) := by
      rw [List.map_append]; exact r2
    obtain ⟨a', cap', rfl, hrow⟩ := BRow.of_owns r2' (by omega)
    exact ⟨a', cap', w', r1, hrow, hW.grown r3⟩
/-- what a converted text is: a block of its own, which nothing of it is frozen -/
structure CB (w : World) (g n cap : Nat) (t : TypeId) (l : List (BitVec 8)) : Prop where
  blk : ∃ cur fz, w.heap[g]? = some (.cells cur t fz) ∧ cur.size = cap ∧ (cap ≤ fz.1 ∨ fz.2 = 0) ∧ ∀ j, j < n → cur[j]? = some (.int .u8 (W8 (l.getD j 0)))
  len : l.length = n
  le : n ≤ cap
  most : cap ≤ maxLen
theorem CB.stay {w w' : World} {g n cap : Nat} {t : TypeId} {l : List (BitVec 8)} (h : CB w g n cap t l) (hn : New w w') : CB w' g n cap t l := by
  obtain ⟨⟨cur, fz, hb, h1⟩, h2, h3, h4⟩ := h
  exact ⟨⟨cur, fz, (hn.block _ (lt_of_block hb)).trans hb, h1⟩, h2, h3, h4⟩
theorem CB.lt {w : World} {g n cap : Nat} {t : TypeId} {l : List (BitVec 8)} (h : CB w g n cap t l) : g < w.heap.size := by
  obtain ⟨⟨cur, fz, hb, h1⟩, h2, h3, h4⟩ := h
  exact lt_of_block hb
theorem CB.row {w : World} {g n cap : Nat} {t : TypeId} {l : List (BitVec 8)} (h : CB w g n cap t l) (hn : n ≤ 140737488355328) : BRow w (some ⟨g, 0, none⟩) n cap l := by
  obtain ⟨⟨cur, fz, hb, h1, h5, h6⟩, h2, h3, h4⟩ := h
  exact {
    len_eq := h2
    le := h3
    most := hn
    room := by unfold maxLen at h4; omega
    none := by intro e0; cases e0
    cell := by
      intro b off e0 j hj
      cases e0
      unfold World.cell?
      simp only [hb]
      rw [Nat.zero_add]
      have := h6 j hj
      simpa using this
    spot := by intro y e0 _; cases e0; rfl
    old := by intro y e0 _; cases e0; exact lt_of_block hb }
/-- a text turned into bytes -/
theorem CB.of_owns {w : World} {base n : Nat} {t : TypeId} {v : Value} {l : List (BitVec 8)} (h : w.ownsRow base t 1 v n (l.map fun x => .int .u8 (W8 x))) (h0 : 0 < n) :
    ∃ g cap, v = .slice (some ⟨g, 0, none⟩) n cap ∧ base ≤ g ∧ CB w g n cap t l := by
  obtain ⟨hl, h⟩ := h
  rw [List.length_map, Nat.mul_one] at hl
  rcases h with ⟨_, h1⟩ | ⟨g, cap, cur, rfl, hb, hc, hle, hm, hs, ht⟩
  · omega
  · refine ⟨g, cap, rfl, hb, ⟨cur, (0, 0), hc, by omega, Or.inr rfl, ?_⟩, hl, hle, hm⟩
    intro j hj
    have e1 : (cur.toList.take (n * 1))[j]? = some (.int .u8 (W8 (l.getD j 0))) := by
      rw [ht, List.getElem?_map, List.getD_eq_getElem?_getD, List.getElem?_eq_getElem (by omega)]; rfl
    rw [List.getElem?_take, if_pos (by omega)] at e1
    simpa using e1
theorem conv_cb {P : Program} (src dst e : TypeId) (l : List UInt8) (w : World) (hs : P.underlying src = some .string) (hd : P.underlying dst = some (.slice e)) (he : P.underlying e = some (.int .u8)) (hl : l.length ≤ maxLen) :
    ∃ cap w', (convert src dst (.string (bs l))).run P w = .ok (.slice (some ⟨w.heap.size, 0, none⟩) l.length cap) w' ∧ CB w' w.heap.size l.length cap e (wds l) ∧ New w w' := by
  have h := run_bytes_of_string (P := P) w src dst e (bs l) hs hd he
  rw [bs_size] at h
  obtain ⟨cap, hcap⟩ : ∃ c, grownCap w l.length 0 e = c := ⟨_, rfl⟩
  have hge : l.length ≤ cap := by rw [← hcap]; exact grownCap_ge w _ _ _
  have hle : cap ≤ maxLen := by rw [← hcap]; exact grownCap_le_maxLen w _ _ _ hl
  rw [hcap] at h
  have hsz : (bytesRow (bs l) cap).size = cap := by
    unfold bytesRow
    rw [Array.size_append, Array.size_map, Array.size_replicate, bs_size]
    show l.toArray.size + _ = _
    rw [List.size_toArray]
    omega
  refine ⟨cap, _, h, ⟨⟨_, _, heap_alloc_new w.drew _, hsz, Or.inl (by rw [hsz]; exact Nat.le_refl _), ?_⟩, wds_len l, hge, hle⟩, (New.refl w).drew.alloc _⟩
  intro j hj
  unfold bytesRow
  have hj2 : j < ((bs l).data.map fun b => Value.int .u8 (b.toNat : Int)).size := by
    rw [Array.size_map]
    show j < l.toArray.size
    rw [List.size_toArray]; exact hj
  rw [Array.getElem?_append_left hj2, Array.getElem?_map]
  show Option.map _ (l.toArray[j]?) = _
  rw [List.getElem?_toArray, List.getElem?_eq_getElem hj]
  unfold wds
  rw [List.getD_eq_getElem?_getD, List.getElem?_map, List.getElem?_eq_getElem hj]
  rfl
theorem step_conv {P : Program} {ops : Array Oper} {o : Oper} {a : Act} {w : World} {K : Act → World → Prop} {Q : Exit → Act → World → Prop} {E : Prop} (hgd : o.guard = none) (src dst e : TypeId) (x : Operand) (ho : o.op = .convert src dst x) (l : List UInt8) (hx : a.eval x = .string (bs l)) (hs : P.underlying src = some .string) (hd : P.underlying dst = some (.slice e)) (he : P.underlying e = some (.int .u8)) (hl : l.length ≤ maxLen)
    (h : ∀ g cap w', w.heap.size ≤ g → CB w' g l.length cap e (wds l) → New w w' → K (a.put o.dst (.slice (some ⟨g, 0, none⟩) l.length cap)) w') :
    if Region.wanted o (yielded ops a.tmps) = true then Oper.wp P o a w K Q else E := by
  have hw : Region.wanted o (yielded ops a.tmps) = true := by simp [Region.wanted, hgd]
  rw [if_pos hw]
  obtain ⟨cap, w', hrun, h1, h2⟩ := conv_cb (P := P) src dst e l w hs hd he hl
  have hk := h _ _ _ (Nat.le_refl _) h1 h2
  clear h h1 h2 hw
  unfold Oper.wp
  generalize a.eval = ρ at hx ⊢
  simp [execOp, ho, hx, hrun, Result.andThen, go_sem]
  exact hk
theorem step_app1 {P : Program} {ops : Array Oper} {o : Oper} {a : Act} {w : World} {K : Act → World → Prop} {Q : Exit → Act → World → Prop} {E : Prop} (hgd : o.guard = none) (s x : Operand) (t e : TypeId) (ho : o.op = .call { callee := .builtin .append, args := #[s, x], argTypes := #[t, t] }) (i : TypeInfo) (ht : P.underlying t = some (.slice e)) (hi : P.info? e = some i) (hz : i.zero = some (.int .u8 0)) (hsize : i.size = 1) (hby : i.bytes = 1)
    (W : World) (g n cap : Nat) (l : List (BitVec 8)) (hs : a.eval s = .slice (some ⟨g, 0, none⟩) n cap) (hn : n ≤ 140737488355327) (ad : Addr) (c : Nat) (y : BitVec 8) (hx : a.eval x = .slice (some ad) 1 c) (hcb : CB w g n cap e l) (hW : New W w) (hgW : W.heap.size ≤ g) (hc : w.cell? (ad.add 0) = some (.int .u8 (W8 y)))
    (h : ∀ a' cap' w', BRow w' a' (n + 1) cap' (l ++ [y]) → New W w' → K (a.put o.dst (.slice a' (n + 1 : Nat) cap')) w') :
    if Region.wanted o (yielded ops a.tmps) = true then Oper.wp P o a w K Q else E := by
  have hw : Region.wanted o (yielded ops a.tmps) = true := by simp [Region.wanted, hgd]
  rw [if_pos hw]
  obtain ⟨⟨cur, fz, hb, h1, h5, h6⟩, h2, h3, h4⟩ := hcb
  obtain ⟨a', cap', w', hrun, r1, r2⟩ := app1 (P := P) t o.type e i ht hi hz hsize hby W w g n cap fz cur l hb hW hgW h1 h3 h2 hn h5 h4 h6 ad c y hc
  unfold Oper.wp
  simp [execOp, ho, resolve, invoke, builtin, hs, hx, hrun, Result.andThen]
  exact h _ _ _ r1 r2
/-- the conversion, as functions of the world -/
theorem conv_fun {P : Program} (src dst e : TypeId) (l : List UInt8) (hs : P.underlying src = some .string) (hd : P.underlying dst = some (.slice e)) (he : P.underlying e = some (.int .u8)) (hl : l.length ≤ maxLen) :
    ∃ (C : World → Nat) (F : World → World), ∀ w, (convert src dst (.string (bs l))).run P w = .ok (.slice (some ⟨w.heap.size, 0, none⟩) l.length (C w)) (F w) ∧ CB (F w) w.heap.size l.length (C w) e (wds l) ∧ New w (F w) :=
  ⟨fun w => Classical.choose (conv_cb (P := P) src dst e l w hs hd he hl), fun w => Classical.choose (Classical.choose_spec (conv_cb (P := P) src dst e l w hs hd he hl)), fun w => Classical.choose_spec (Classical.choose_spec (conv_cb (P := P) src dst e l w hs hd he hl))⟩
theorem CB.size_eq {w : World} {g g' n cap : Nat} {t : TypeId} {l : List (BitVec 8)} (h : CB w g n cap t l) (e : g = g') : CB w g' n cap t l := e ▸ h
theorem drew_size (w : World) (o : Obj) : (w.alloc o).drew.heap.size = w.heap.size + 1 := by
  show (w.alloc o).heap.size = _
  simp
theorem lit_now (w : World) (v : Value) (t : TypeId) : (w.alloc (.cells #[v] t)).cell? ((⟨w.heap.size, 0, none⟩ : Addr).add 0) = some v := by
  rw [add_plainD, World.cell?_alloc_new]; rfl
theorem lit_kept {w w' : World} {v : Value} {t : TypeId} (h : New (w.alloc (.cells #[v] t)) w') : w'.cell? ((⟨w.heap.size, 0, none⟩ : Addr).add 0) = some v := by
  rw [add_plainD, h.cell (a := ⟨w.heap.size, 0 + 0, none⟩) (by simp), World.cell?_alloc_new]; rfl
theorem ret_two {w w0 w' : World} (h : New w w0) (hn : New w0 w') : New w w' := h.trans hn
end Go.Drv
namespace Go.Proofs.YtoplabhoedloeaaGreat
open Go Go.RowKit Go.Bv Go.Drv
set_option linter.unusedVariables false
def sd8 (k : BitVec 64 × BitVec 64) : Sd34 := ⟨8, (2, 4, true), Or.inr (Or.inr ⟨rfl, rfl⟩), k⟩
/-- the key that a row of bytes derives -/
def kidB (k : BitVec 64 × BitVec 64) (m : List (BitVec 8)) : BitVec 64 × BitVec 64 := ((hash34 (sd8 k).kd k m).2, (hash34 (sd8 k).kd k m).1)
def kid (k : BitVec 64 × BitVec 64) (l : List UInt8) : BitVec 64 × BitVec 64 := kidB k (wds l ++ [108#8])
def kidE (k : BitVec 64 × BitVec 64) (l : List UInt8) : BitVec 64 × BitVec 64 := if labE l = 0 then kid k l else (0#64, 0#64)
theorem one_q (k : BitVec 64 × BitVec 64) (a : Option Addr) (n c : Nat) (m : List (BitVec 8)) (w : World) (h : BRow w a n c m) :
    Calls Tryz.prog 21 #[.int .i64 8, .agg #[.int .u64 (W64 k.1), .int .u64 (W64 k.2)], .slice a n c] w fun e w' => e = .returned (.agg #[.int .u64 (W64 (kidB k m).1), .int .u64 (W64 (kidB k m).2)]) ∧ New w w' := by
  have h1 := hone_34 (sd8 k) a n c m w h
  have e1 : (sd8 k).kind = 8 := rfl
  have e2 : (sd8 k).key = k := rfl
  rw [e1, e2] at h1
  unfold kidB
  generalize hash34 (sd8 k).kd k m = z at *
  exact h1
end Go.Proofs.YtoplabhoedloeaaGreat
end
