/- The block's contracts of layer 34: apply, pass. -/
import Derived.Test.YtoplabhoedloeaaM34B
import Derived.Defers
import Derived.Recover
import Derived.Laws.Pointers
import Derived.Handy
import Derived.Laws.EntriesVeiled
import Derived.Deep.DeepCutAuto
namespace Go.Bv
open Go Go.RowKit
theorem put_34 {w : World} {q : Nat} {u0 u1 u2 u3 : Value} {T : TypeId} (v0 v1 v2 v3 : Value) (h : w.heap[q]? = some (.cells #[u0, u1, u2, u3] T (0, 0))) :
    ((((((((w).setCell ⟨q, 0, none⟩ (v0))).setCell ⟨q, 1, none⟩ (v1))).setCell ⟨q, 2, none⟩ (v2))).setCell ⟨q, 3, none⟩ (v3)).heap[q]? = some (.cells #[v0, v1, v2, v3] T (0, 0)) ∧ (∀ j, j ≠ q → ((((((((w).setCell ⟨q, 0, none⟩ (v0))).setCell ⟨q, 1, none⟩ (v1))).setCell ⟨q, 2, none⟩ (v2))).setCell ⟨q, 3, none⟩ (v3)).heap[j]? = w.heap[j]?) ∧ (∀ W : World, New W w → W.heap.size ≤ q → New W ((((((((w).setCell ⟨q, 0, none⟩ (v0))).setCell ⟨q, 1, none⟩ (v1))).setCell ⟨q, 2, none⟩ (v2))).setCell ⟨q, 3, none⟩ (v3))) := by
  refine ⟨?_, fun j hj => ?_, fun W hn hq => ?_⟩
  · have h0 := heap_setCell_same w q 0 _ _ v0 h
    have h1 := heap_setCell_same _ q 1 _ _ v1 h0
    have h2 := heap_setCell_same _ q 2 _ _ v2 h1
    have h3 := heap_setCell_same _ q 3 _ _ v3 h2
    exact h3
  · rw [heap_setCell_other _ _ _ _ hj, heap_setCell_other _ _ _ _ hj, heap_setCell_other _ _ _ _ hj, heap_setCell_other _ _ _ _ hj]
  · exact (((hn.setCell (by exact hq) _).setCell (by exact hq) _).setCell (by exact hq) _).setCell (by exact hq) _
end Go.Bv
namespace Go.Proofs.Ytoplabhoedloeaa
open Go.RowKit Go.Bv
set_option linter.unusedVariables false
theorem recover_34 (kd : Nat × Nat × Bool) (w : World) : CallsD Try.prog 52 #[] .returning w fun e u' w' => e = .returned (.tuple #[]) ∧ u' = .returning ∧ w' = w := by
  refine callsD_of_wpS Try.func52 rfl fun c₀ cs hu => ?_
  apply wpS_region
  simp [wpOpsS, go_sem, recoverD, hu, Try.ntmps52, bodyPostS, results, Try.results52]
  cases c₀; simp_all
set_option maxRecDepth 100000 in
set_option maxHeartbeats 1000000 in
theorem apply_34 (kd : Nat × Nat × Bool) (hkd : kd.1 ≤ 100) (s : BitVec 64 × BitVec 64 × BitVec 64 × BitVec 64) (a : Option Addr) (cap : Nat) (l : List (BitVec 8)) (w : World) (h : BRow w a 8 cap l) :
    Calls Try.prog 48 #[(.func (Fn.func 28) #[.agg #[.int .i64 (kd.1 : Nat), .int .i64 (kd.2.1 : Nat), .bool kd.2.2]] #[]), .agg #[.int .u64 (W64 (s.1)), .int .u64 (W64 (s.2.1)), .int .u64 (W64 (s.2.2.1)), .int .u64 (W64 (s.2.2.2))], .slice a 8 cap] w fun e w' => e = .returned (.agg #[.int .u64 (W64 (((stp34 kd) s l).1)), .int .u64 (W64 (((stp34 kd) s l).2.1)), .int .u64 (W64 (((stp34 kd) s l).2.2.1)), .int .u64 (W64 (((stp34 kd) s l).2.2.2))]) ∧ New w w' := by
  have hmf : ∀ (fn : Fn) (first cap : Array Value) (w : World), (Instr.makeFunc fn first cap).run Try.prog w = .ok (.func fn first cap) w := fun _ _ _ _ => rfl
  have hnf : ∀ w, (binOp .eql 62 (.func (Fn.func 28) #[.agg #[.int .i64 (kd.1 : Nat), .int .i64 (kd.2.1 : Nat), .bool kd.2.2]] #[]) .nilFunc).run Try.prog w = .ok (.bool false) w := fun _ => rfl
  have HS := Lib.hid (fun w' (hn : New w w') => step_34s kd hkd s a cap l w' (h.stay hn))
  clear h
  have hz := two_blocks w (.cells #[.int .u64 (W64 (s.1)), .int .u64 (W64 (s.2.1)), .int .u64 (W64 (s.2.2.1)), .int .u64 (W64 (s.2.2.2))] 58) (.cells #[.int .u64 (W64 (s.1)), .int .u64 (W64 (s.2.1)), .int .u64 (W64 (s.2.2.1)), .int .u64 (W64 (s.2.2.2))] 58)
  have HZ := Lib.hid hz
  clear hz
  go_enter_defers Try.func48, Try.ntmps48
  go_wp2_with fail
  refine (HS.out _ ?hn).mono ?_
  case hn => exact HZ.out.2.2
  rintro e w3 ⟨rfl, hn⟩
  have hb := (hn.block _ (lt_of_block HZ.out.2.1)).trans HZ.out.2.1
  have k0 := cell_of_row _ _ 0 _ _ _ hb
  have k1 := cell_of_row _ _ 1 _ _ _ hb
  have k2 := cell_of_row _ _ 2 _ _ _ hb
  have k3 := cell_of_row _ _ 3 _ _ _ hb
  have kf := fun i => frozen_of_row _ _ i _ _ hb
  have HN := Lib.hid (HZ.out.2.2.trans hn)
  clear hb hn HZ
  go_wp2
  refine leaves_cons (f := 52) (args := #[]) (by simp) (by simp [go_sem]) ?_
  refine (recover_34 kd _).mono ?_
  rintro e u' w'' ⟨rfl, rfl, rfl⟩
  simp [Leaves, settle, results, Try.results48, go_sem, k0, k1, k2, k3]
  exact (((HN.out.setCell (by show w.heap.size ≤ w.heap.size + 1; omega) _).setCell (by show w.heap.size ≤ w.heap.size + 1; omega) _).setCell (by show w.heap.size ≤ w.heap.size + 1; omega) _).setCell (by show w.heap.size ≤ w.heap.size + 1; omega) _
set_option maxRecDepth 100000 in
set_option maxHeartbeats 4000000 in
theorem pass_34 (kd : Nat × Nat × Bool) (hkd : kd.1 ≤ 100) (st : BitVec 64 × BitVec 64 × BitVec 64 × BitVec 64) (r : Option Addr) (len cap : Nat) (l : List (BitVec 8)) (w : World) (h : BRow w r len cap l) :
    Calls Try.prog 36 #[.int .i64 8, .agg #[.int .u64 (W64 (st.1)), .int .u64 (W64 (st.2.1)), .int .u64 (W64 (st.2.2.1)), .int .u64 (W64 (st.2.2.2))], (.func (Fn.func 28) #[.agg #[.int .i64 (kd.1 : Nat), .int .i64 (kd.2.1 : Nat), .bool kd.2.2]] #[]), .slice r len cap] w fun e w' => ∃ a c, e = .returned (.tuple #[.agg #[.int .u64 (W64 ((bState 8 (stp34 kd) st l).1)), .int .u64 (W64 ((bState 8 (stp34 kd) st l).2.1)), .int .u64 (W64 ((bState 8 (stp34 kd) st l).2.2.1)), .int .u64 (W64 ((bState 8 (stp34 kd) st l).2.2.2))], .slice a (len % 8 : Nat) c]) ∧ BRow w' a (len % 8) c (bTail 8 l) ∧ (∀ x, a = some x → w.heap.size ≤ x.block) ∧ New w w' := by
  have hm := h.most
  have hle := h.le
  have hroom := h.room
  have hlen := h.len_eq
  have H := Lib.hid h
  have HLEN := Lib.hid hlen
  clear h hlen
  have HZ := Lib.hid (two_blocks w (.cells #[.int .u64 (W64 (st.1)), .int .u64 (W64 (st.2.1)), .int .u64 (W64 (st.2.2.1)), .int .u64 (W64 (st.2.2.2))] 58) (.cells #[.int .u64 0, .int .u64 0, .int .u64 0, .int .u64 0] 58))
  go_enter Try.func36, Try.ntmps36
  go_wp2
  go_loopw [10] (fun i wr => ∃ k : Nat, k ≤ len / 8 ∧ i = .int .i64 ((k * 8 : Nat) : Int) ∧ wr.heap[w.heap.size]? = some (.cells #[.int .u64 (W64 ((bFold 8 (stp34 kd) k st l).1)), .int .u64 (W64 ((bFold 8 (stp34 kd) k st l).2.1)), .int .u64 (W64 ((bFold 8 (stp34 kd) k st l).2.2.1)), .int .u64 (W64 ((bFold 8 (stp34 kd) k st l).2.2.2))] 58 (0, 0)) ∧ wr.heap[w.heap.size + 1]? = some (.cells #[.int .u64 0, .int .u64 0, .int .u64 0, .int .u64 0] 58 (0, 0)) ∧ New w wr) (fun i _ => len + 1 - (intOf i).toNat)
  case atStart => exact ⟨0, Nat.zero_le _, by simp, HZ.out.1, HZ.out.2.1, HZ.out.2.2⟩
  case round =>
    obtain ⟨k, hk, rfl, hb, hr, hnw⟩ := hrel
    have hkn : k * 8 ≤ len := Nat.le_trans (Nat.mul_le_mul_right _ hk) (Nat.div_mul_le_self _ _)
    have hsucc := bFold_succ 8 (stp34 kd) k st l
    have hks : (k + 1) * 8 = k * 8 + 8 := Nat.succ_mul k 8
    obtain ⟨m, hmk⟩ : ∃ m, k * 8 = m := ⟨_, rfl⟩
    rw [hmk] at hkn hsucc hks ⊢
    have hmost : len ≤ 140737488355328 := hm
    obtain ⟨hw1, hw1'⟩ := wrap_less len m (Nat.le_trans hmost (by decide)) hkn
    obtain ⟨hw2, hw2'⟩ := wrap_add m (8 : Int) (m + 8) (by rw [Int.natCast_add]; try rfl) (Nat.le_trans (Nat.add_le_add hkn (show 8 ≤ 64 by omega)) (by omega))
    have HB := Lib.hid hb
    have HR := Lib.hid hr
    have HN := Lib.hid hnw
    have HMK := Lib.hid hmk
    have HSUCC := Lib.hid hsucc
    have HKS := Lib.hid hks
    clear hb hr hnw hmk hsucc hks
    obtain ⟨cur, hcur⟩ : ∃ cur, bFold 8 (stp34 kd) k st l = cur := ⟨_, rfl⟩
    rw [hcur] at HB HSUCC
    have HCUR := Lib.hid hcur
    clear hcur
    have kc := cell_of_row _ _ 0 _ _ _ HB.out
    by_cases hlt : m + 8 ≤ len
    · have hge : (8 : Int) ≤ (len : Int) - (m : Int) := by omega
      obtain ⟨b, off, rfl, _⟩ := H.out.addr (by omega)
      have hi0 : (0 : Int) ≤ (m : Int) := by omega
      have hi1 : (m : Int) ≤ ((m + 8 : Nat) : Int) := by omega
      have hi2 : ((m + 8 : Nat) : Int) ≤ (cap : Int) := by omega
      have hlc : (len : Int) ≤ (cap : Int) := by omega
      have hnz : ¬ ((m + 8 : Nat) = m) := by omega
      have hsub : m + 8 - m = 8 := by omega
      have HAP := Lib.hid (fun w' (hn : New wr w') => apply_34 kd hkd cur (some ⟨b, off + m, none⟩) 8 ((l.drop m).take 8) w' (BRow_sub ((H.out.stay HN.out).stay hn) hlt))
      obtain ⟨nx, hnx⟩ : ∃ nx, (stp34 kd) cur ((l.drop m).take 8) = nx := ⟨_, rfl⟩
      rw [hnx] at HAP HSUCC
      clear hnx kc
      go_wp2_with fail
      refine Gro2.wp_region_gro2S (fun w' => (∃ u0 u1 u2 u3 : Value, w'.heap[w.heap.size]? = some (.cells #[u0, u1, u2, u3] 58 (0, 0))) ∧ w'.heap[w.heap.size + 1]? = some (.cells #[.int .u64 0, .int .u64 0, .int .u64 0, .int .u64 0] 58 (0, 0)) ∧ New w w') (fun w' => w'.heap[w.heap.size]? = some (.cells #[.int .u64 (W64 (cur.1)), .int .u64 (W64 (cur.2.1)), .int .u64 (W64 (cur.2.2.1)), .int .u64 (W64 (cur.2.2.2))] 58 (0, 0)) ∧ New wr w' ∧ w'.heap[w.heap.size + 1]? = some (.cells #[.int .u64 0, .int .u64 0, .int .u64 0, .int .u64 0] 58 (0, 0))) [0,1,0,0,0,0,0,0,0,0,0,2,3] (by kernel_rfl) (by kernel_rfl) (by kernel_rfl) (fun w' hw' => ⟨⟨_, _, _, _, hw'.1⟩, hw'.2.2, HN.out.trans hw'.2.1⟩) (⟨HB.out, (New.refl _).drew, HR.out⟩) ?_
      intro I J _ _ f g hfa hba hgb hbb
      have HFA := Lib.hid hfa
      have HBA := Lib.hid hba
      have HGB := Lib.hid hgb
      have HBB := Lib.hid hbb
      have s0 := fun n => cell_of_row _ _ 0 _ _ _ (hgb n).1
      have s1 := fun n => cell_of_row _ _ 1 _ _ _ (hgb n).1
      have s2 := fun n => cell_of_row _ _ 2 _ _ _ (hgb n).1
      have s3 := fun n => cell_of_row _ _ 3 _ _ _ (hgb n).1
      clear hfa hba hgb hbb
      refine Gro2.take0 1 (by kernel_rfl) ?_
      simp only [List.take, List.drop, List.length]
      repeat (go_big_quiet_step (fail))
      refine wpQuiet_nil ?_
      refine Gro2.take1 1 (by kernel_rfl) ?_
      simp only [List.take, List.drop, List.length]
      repeat (go_big_quiet_step (fail))
      refine wpQuiet_nil ?_
      refine Gro2.take0 9 (by kernel_rfl) ?_
      simp only [List.take, List.drop, List.length]
      repeat (go_big_quiet_step (fail))
      refine wpQuiet_nil ?_
      refine Gro2.call (fun v => v = .agg #[.int .u64 (W64 (nx.1)), .int .u64 (W64 (nx.2.1)), .int .u64 (W64 (nx.2.2.1)), .int .u64 (W64 (nx.2.2.2))]) (fun _ _ => True) rfl rfl (⟨_, rfl⟩) (fun w1 hB hG => ?_) (fun v1 A1 hv1 hA => ?_)
      · obtain ⟨nq, rfl⟩ := hB
        go_simp
        refine (HAP.out _ (HGB.out nq).2.1).mono ?_
        rintro e w2 ⟨rfl, hn⟩
        have HX := HBB.out _ ⟨(hn.block _ (lt_of_block (HGB.out nq).1)).trans (HGB.out nq).1, (HGB.out nq).2.1.trans hn, (hn.block _ (lt_of_block (HGB.out nq).2.2)).trans (HGB.out nq).2.2⟩
        first | exact ⟨_, rfl, HX, rfl, trivial, trivial⟩ | exact ⟨rfl, HX⟩ | exact ⟨HX, rfl⟩ | exact HX
      simp [Act.put] at hA
      subst hA
      obtain rfl := hv1
      refine Gro2.turn (fun v => v = undef) (fun _ w9 => w9.heap[w.heap.size]? = some (.cells #[.int .u64 (W64 (nx.1)), .int .u64 (W64 (nx.2.1)), .int .u64 (W64 (nx.2.2.1)), .int .u64 (W64 (nx.2.2.2))] 58 (0, 0))) rfl rfl ⟨_, rfl⟩ (fun w1 hB hG => ?_) (fun v2 A2 hv2 hA => ?_)
      · obtain ⟨nq, rfl⟩ : ∃ nq, w1 = g nq := hB
        have HX := Lib.hid (HGB.out nq)
        have c0 := cell_of_row _ _ 0 _ _ _ HX.out.1
        have c1 := cell_of_row _ _ 1 _ _ _ HX.out.1
        have c2 := cell_of_row _ _ 2 _ _ _ HX.out.1
        have c3 := cell_of_row _ _ 3 _ _ _ HX.out.1
        have cf := fun i => frozen_of_row _ _ i _ _ HX.out.1
        have HP := Lib.hid (put_34 (.int .u64 (W64 (nx.1))) (.int .u64 (W64 (nx.2.1))) (.int .u64 (W64 (nx.2.2.1))) (.int .u64 (W64 (nx.2.2.2))) HX.out.1)
        clear s0
        go_simp
        exact ⟨HBA.out _ ⟨⟨_, _, _, _, HP.out.1⟩, (HP.out.2.1 _ (by omega)).trans HX.out.2.2, HP.out.2.2 _ (HN.out.trans HX.out.2.1) (Nat.le_refl _)⟩, HP.out.1⟩
      simp [Act.put] at hA
      subst hA
      refine Gro2.nil ?_
      rintro w9 ⟨n9, rfl⟩ hG
      have HF := Lib.hid (HFA.out n9)
      have HG := Lib.hid hG
      clear HFA HBA HGB HBB HAP hG s0 s1 s2 s3
      generalize f n9 = w9 at *
      go_wp2
      refine ⟨⟨k + 1, (Nat.le_div_iff_mul_le (by omega)).2 (by rw [HKS.out]; omega), by rw [HKS.out]; go_num, by rw [HSUCC.out]; exact HG.out, HF.out.2.1, HF.out.2.2⟩, by simp [intOf]; omega⟩
    · have hge : ¬ (8 : Int) ≤ (len : Int) - (m : Int) := by omega
      have hkd : k = len / 8 := by
        have h1 := (Nat.div_lt_iff_lt_mul (show 0 < 8 by omega)).2 (show len < (k + 1) * 8 by rw [HKS.out]; omega)
        omega
      have hmod : len - m = len % 8 := by
        have h1 := Nat.div_add_mod len 8
        have h2 := HMK.out
        rw [hkd, Nat.mul_comm] at h2
        omega
      have hst : bState 8 (stp34 kd) st l = cur := by unfold bState; rw [HLEN.out, ← hkd]; exact HCUR.out
      have htl : bTail 8 l = l.drop m := by unfold bTail; rw [HLEN.out, ← hkd, HMK.out]
      have hi0 : (0 : Int) ≤ (m : Int) := by omega
      have hi1 : (m : Int) ≤ (len : Int) := by omega
      have hlc : (len : Int) ≤ (cap : Int) := by omega
      have hcs : (len : Int) - (m : Int) = ((len - m : Nat) : Int) := by omega
      have HE := Lib.hid (show bState 8 (stp34 kd) st l = cur ∧ bTail 8 l = l.drop m ∧ len - m = len % 8 from ⟨hst, htl, hmod⟩)
      clear hst htl hmod hkd
      have HLT := Lib.hid hlt
      clear hlt
      have HROW := Lib.hid (fun w' (hn : New wr w') => (H.out.stay HN.out).stay hn)
      cases r with
      | none =>
        obtain ⟨rfl, rfl, rfl⟩ := brow_nil H.out
        obtain rfl : m = 0 := by omega
        go_wp2_with fail
        refine Gro2.wp_region_gro2S (fun w' => (∃ u0 u1 u2 u3 : Value, w'.heap[w.heap.size + 1]? = some (.cells #[u0, u1, u2, u3] 58 (0, 0))) ∧ New w w') (fun w' => w'.heap[w.heap.size]? = some (.cells #[.int .u64 (W64 (cur.1)), .int .u64 (W64 (cur.2.1)), .int .u64 (W64 (cur.2.2.1)), .int .u64 (W64 (cur.2.2.2))] 58 (0, 0)) ∧ New wr w' ∧ w'.heap[w.heap.size + 1]? = some (.cells #[.int .u64 0, .int .u64 0, .int .u64 0, .int .u64 0] 58 (0, 0))) [1,0,0,0,2,3,0] (by kernel_rfl) (by kernel_rfl) (by kernel_rfl) (fun w' hw' => ⟨⟨_, _, _, _, hw'.2.2⟩, HN.out.trans hw'.2.1⟩) (⟨HB.out, (New.refl _).drew, HR.out⟩) ?_
        intro I J _ _ f g hfa hba hgb hbb
        have HFA := Lib.hid hfa
        have HBA := Lib.hid hba
        have HGB := Lib.hid hgb
        have HBB := Lib.hid hbb
        have s0 := fun n => cell_of_row _ _ 0 _ _ _ (hgb n).1
        have s1 := fun n => cell_of_row _ _ 1 _ _ _ (hgb n).1
        have s2 := fun n => cell_of_row _ _ 2 _ _ _ (hgb n).1
        have s3 := fun n => cell_of_row _ _ 3 _ _ _ (hgb n).1
        clear hfa hba hgb hbb
        refine Gro2.take1 1 (by kernel_rfl) ?_
        simp only [List.take, List.drop, List.length]
        repeat (go_big_quiet_step (fail))
        refine wpQuiet_nil ?_
        refine Gro2.take0 3 (by kernel_rfl) ?_
        simp only [List.take, List.drop, List.length]
        repeat (go_big_quiet_step (fail))
        refine wpQuiet_nil ?_
        refine Gro2.call (fun v => ∃ a c, v = .slice a (0 : Nat) c) (fun v w' => ∃ a c, v = .slice a (0 : Nat) c ∧ BRow w' a (0) c ([]) ∧ ∀ x, a = some x → w.heap.size + 1 < x.block) rfl rfl (⟨_, none, 0, rfl⟩) (fun w1 hB hG => ?_) (fun v1 A1 hv1 hA => ?_)
        · obtain ⟨nq, rfl⟩ := hB
          go_simp
          refine (clone_b _ _ _ _ _ (HROW.out _ (HGB.out nq).2.1)).mono ?_
          rintro e w2 ⟨a2, c2, rfl, hrow, hfr, hn⟩
          have hlt := lt_of_block (HGB.out nq).2.2
          have HX := HBB.out _ ⟨(hn.block _ (lt_of_block (HGB.out nq).1)).trans (HGB.out nq).1, (HGB.out nq).2.1.trans hn, (hn.block _ (lt_of_block (HGB.out nq).2.2)).trans (HGB.out nq).2.2⟩
          have HR2 : ∀ x, a2 = some x → w.heap.size + 1 < x.block := fun x e => by have := hfr x e; omega
          exact ⟨_, rfl, HX, ⟨_, _, rfl⟩, ⟨_, _, rfl, hrow, HR2⟩⟩
        simp [Act.put] at hA
        subst hA
        obtain ⟨a2, c2, rfl⟩ := hv1
        refine Gro2.turn (fun v => v = undef) (fun _ w9 => w9.heap[w.heap.size + 1]? = some (.cells #[.int .u64 (W64 (cur.1)), .int .u64 (W64 (cur.2.1)), .int .u64 (W64 (cur.2.2.1)), .int .u64 (W64 (cur.2.2.2))] 58 (0, 0)) ∧ BRow w9 a2 (0) c2 ([]) ∧ ∀ x, a2 = some x → w.heap.size + 1 < x.block) rfl rfl ⟨_, rfl⟩ (fun w1 hB hG => ?_) (fun v2 A2 hv2 hA => ?_)
        · obtain ⟨nq, rfl⟩ : ∃ nq, w1 = g nq := hB
          have HX := Lib.hid (HGB.out nq)
          have c0 := cell_of_row _ _ 0 _ _ _ HX.out.2.2
          have c1 := cell_of_row _ _ 1 _ _ _ HX.out.2.2
          have c2 := cell_of_row _ _ 2 _ _ _ HX.out.2.2
          have c3 := cell_of_row _ _ 3 _ _ _ HX.out.2.2
          have cf := fun i => frozen_of_row _ _ i _ _ HX.out.2.2
          have HP := Lib.hid (put_34 (.int .u64 (W64 (cur.1))) (.int .u64 (W64 (cur.2.1))) (.int .u64 (W64 (cur.2.2.1))) (.int .u64 (W64 (cur.2.2.2))) HX.out.2.2)
          have HGG := Lib.hid hG.2
          clear s0 hG
          go_simp
          obtain ⟨a3, c3, e3, hrow, hfr⟩ := HGG.out
          cases e3
          exact ⟨HBA.out _ ⟨⟨_, _, _, _, HP.out.1⟩, HP.out.2.2 _ (HN.out.trans HX.out.2.1) (by omega)⟩, HP.out.1, hrow.but (by simp) (fun x e _ => HP.out.2.1 _ (by have := hfr x e; omega)), hfr⟩
        simp [Act.put] at hA
        subst hA
        refine Gro2.take0 1 (by kernel_rfl) ?_
        simp only [List.take, List.drop, List.length]
        repeat (go_big_quiet_step (fail))
        refine wpQuiet_nil ?_
        refine Gro2.nil ?_
        rintro w9 ⟨n9, rfl⟩ hG
        have HF := Lib.hid (HFA.out n9)
        have HG := Lib.hid hG
        have k0 := cell_of_row _ _ 0 _ _ _ hG.1
        have k1 := cell_of_row _ _ 1 _ _ _ hG.1
        have k2 := cell_of_row _ _ 2 _ _ _ hG.1
        have k3 := cell_of_row _ _ 3 _ _ _ hG.1
        clear HFA HBA HGB HBB hG s0 s1 s2 s3
        generalize f n9 = w9 at *
        go_wp2
        refine bodyPost_ret (by simp [results, Try.results36, go_sem, k0, k1, k2, k3]; try rfl) rfl ?_
        refine ⟨a2, c2, ?_, ?_, fun x e => by have := HG.out.2.2 x e; omega, HF.out.2⟩
        · rw [HE.out.1, show 0 % 8 = 0 from (by first | exact HE.out.2.2.symm.trans (by omega) | rfl | exact Nat.zero_mod _)]
          try rfl
        · rw [HE.out.2.1, show 0 % 8 = 0 from (by first | exact HE.out.2.2.symm.trans (by omega) | rfl | exact Nat.zero_mod _)]; exact HG.out.2.1
      | some y =>
        obtain ⟨bk, off, sp⟩ := y
        by_cases hcm : cap = m
        · obtain rfl : m = len := by omega
          obtain rfl : cap = m := hcm
          have hsp : BRow wr (some ⟨bk, off, sp⟩) 0 0 (l.drop cap) := row_end (HROW.out _ (New.refl _))
          have HSP := Lib.hid hsp
          clear hsp hcs hi1 hlc
          have hcs : ((cap - cap : Nat) : Int) = 0 := by omega
          go_wp2_with fail
          refine Gro2.wp_region_gro2S (fun w' => (∃ u0 u1 u2 u3 : Value, w'.heap[w.heap.size + 1]? = some (.cells #[u0, u1, u2, u3] 58 (0, 0))) ∧ New w w') (fun w' => w'.heap[w.heap.size]? = some (.cells #[.int .u64 (W64 (cur.1)), .int .u64 (W64 (cur.2.1)), .int .u64 (W64 (cur.2.2.1)), .int .u64 (W64 (cur.2.2.2))] 58 (0, 0)) ∧ New wr w' ∧ w'.heap[w.heap.size + 1]? = some (.cells #[.int .u64 0, .int .u64 0, .int .u64 0, .int .u64 0] 58 (0, 0))) [1,0,0,0,2,3,0] (by kernel_rfl) (by kernel_rfl) (by kernel_rfl) (fun w' hw' => ⟨⟨_, _, _, _, hw'.2.2⟩, HN.out.trans hw'.2.1⟩) (⟨HB.out, (New.refl _).drew, HR.out⟩) ?_
          intro I J _ _ f g hfa hba hgb hbb
          have HFA := Lib.hid hfa
          have HBA := Lib.hid hba
          have HGB := Lib.hid hgb
          have HBB := Lib.hid hbb
          have s0 := fun n => cell_of_row _ _ 0 _ _ _ (hgb n).1
          have s1 := fun n => cell_of_row _ _ 1 _ _ _ (hgb n).1
          have s2 := fun n => cell_of_row _ _ 2 _ _ _ (hgb n).1
          have s3 := fun n => cell_of_row _ _ 3 _ _ _ (hgb n).1
          clear hfa hba hgb hbb
          refine Gro2.take1 1 (by kernel_rfl) ?_
          simp only [List.take, List.drop, List.length]
          repeat (go_big_quiet_step (fail))
          refine wpQuiet_nil ?_
          refine Gro2.take0 3 (by kernel_rfl) ?_
          simp only [List.take, List.drop, List.length]
          repeat (go_big_quiet_step (fail))
          refine wpQuiet_nil ?_
          refine Gro2.call (fun v => ∃ a c, v = .slice a (0 : Nat) c) (fun v w' => ∃ a c, v = .slice a (0 : Nat) c ∧ BRow w' a (0) c (l.drop cap) ∧ ∀ x, a = some x → w.heap.size + 1 < x.block) rfl rfl (⟨_, none, 0, rfl⟩) (fun w1 hB hG => ?_) (fun v1 A1 hv1 hA => ?_)
          · obtain ⟨nq, rfl⟩ := hB
            go_simp
            refine (clone_b _ _ _ _ _ (HSP.out.stay (HGB.out nq).2.1)).mono ?_
            rintro e w2 ⟨a2, c2, rfl, hrow, hfr, hn⟩
            have hlt := lt_of_block (HGB.out nq).2.2
            have HX := HBB.out _ ⟨(hn.block _ (lt_of_block (HGB.out nq).1)).trans (HGB.out nq).1, (HGB.out nq).2.1.trans hn, (hn.block _ (lt_of_block (HGB.out nq).2.2)).trans (HGB.out nq).2.2⟩
            have HR2 : ∀ x, a2 = some x → w.heap.size + 1 < x.block := fun x e => by have := hfr x e; omega
            exact ⟨_, rfl, HX, ⟨_, _, rfl⟩, ⟨_, _, rfl, hrow, HR2⟩⟩
          simp [Act.put] at hA
          subst hA
          obtain ⟨a2, c2, rfl⟩ := hv1
          refine Gro2.turn (fun v => v = undef) (fun _ w9 => w9.heap[w.heap.size + 1]? = some (.cells #[.int .u64 (W64 (cur.1)), .int .u64 (W64 (cur.2.1)), .int .u64 (W64 (cur.2.2.1)), .int .u64 (W64 (cur.2.2.2))] 58 (0, 0)) ∧ BRow w9 a2 (0) c2 (l.drop cap) ∧ ∀ x, a2 = some x → w.heap.size + 1 < x.block) rfl rfl ⟨_, rfl⟩ (fun w1 hB hG => ?_) (fun v2 A2 hv2 hA => ?_)
          · obtain ⟨nq, rfl⟩ : ∃ nq, w1 = g nq := hB
            have HX := Lib.hid (HGB.out nq)
            have c0 := cell_of_row _ _ 0 _ _ _ HX.out.2.2
            have c1 := cell_of_row _ _ 1 _ _ _ HX.out.2.2
            have c2 := cell_of_row _ _ 2 _ _ _ HX.out.2.2
            have c3 := cell_of_row _ _ 3 _ _ _ HX.out.2.2
            have cf := fun i => frozen_of_row _ _ i _ _ HX.out.2.2
            have HP := Lib.hid (put_34 (.int .u64 (W64 (cur.1))) (.int .u64 (W64 (cur.2.1))) (.int .u64 (W64 (cur.2.2.1))) (.int .u64 (W64 (cur.2.2.2))) HX.out.2.2)
            have HGG := Lib.hid hG.2
            clear s0 hG
            go_simp
            obtain ⟨a3, c3, e3, hrow, hfr⟩ := HGG.out
            cases e3
            exact ⟨HBA.out _ ⟨⟨_, _, _, _, HP.out.1⟩, HP.out.2.2 _ (HN.out.trans HX.out.2.1) (by omega)⟩, HP.out.1, hrow.but (by simp) (fun x e _ => HP.out.2.1 _ (by have := hfr x e; omega)), hfr⟩
          simp [Act.put] at hA
          subst hA
          refine Gro2.take0 1 (by kernel_rfl) ?_
          simp only [List.take, List.drop, List.length]
          repeat (go_big_quiet_step (fail))
          refine wpQuiet_nil ?_
          refine Gro2.nil ?_
          rintro w9 ⟨n9, rfl⟩ hG
          have HF := Lib.hid (HFA.out n9)
          have HG := Lib.hid hG
          have k0 := cell_of_row _ _ 0 _ _ _ hG.1
          have k1 := cell_of_row _ _ 1 _ _ _ hG.1
          have k2 := cell_of_row _ _ 2 _ _ _ hG.1
          have k3 := cell_of_row _ _ 3 _ _ _ hG.1
          clear HFA HBA HGB HBB hG s0 s1 s2 s3
          generalize f n9 = w9 at *
          go_wp2
          refine bodyPost_ret (by simp [results, Try.results36, go_sem, k0, k1, k2, k3]; try rfl) rfl ?_
          refine ⟨a2, c2, ?_, ?_, fun x e => by have := HG.out.2.2 x e; omega, HF.out.2⟩
          · rw [HE.out.1, show cap % 8 = 0 from (by first | exact HE.out.2.2.symm.trans (by omega) | rfl | exact Nat.zero_mod _)]
            try rfl
          · rw [HE.out.2.1, show cap % 8 = 0 from (by first | exact HE.out.2.2.symm.trans (by omega) | rfl | exact Nat.zero_mod _)]; exact HG.out.2.1
        · have hcm2 : ¬ (cap : Int) = (m : Int) := by omega
          have hsp : ∃ sp2, (⟨bk, off, sp⟩ : Addr).add m = ⟨bk, off + m, sp2⟩ ∧ BRow wr (some ⟨bk, off + m, sp2⟩) (len - m) (cap - m) (l.drop m) := row_rest (HROW.out _ (New.refl _)) (by omega)
          obtain ⟨sp2, hadd, hsp⟩ := hsp
          have HSP := Lib.hid hsp
          clear hsp
          go_wp2_with fail
          refine Gro2.wp_region_gro2S (fun w' => (∃ u0 u1 u2 u3 : Value, w'.heap[w.heap.size + 1]? = some (.cells #[u0, u1, u2, u3] 58 (0, 0))) ∧ New w w') (fun w' => w'.heap[w.heap.size]? = some (.cells #[.int .u64 (W64 (cur.1)), .int .u64 (W64 (cur.2.1)), .int .u64 (W64 (cur.2.2.1)), .int .u64 (W64 (cur.2.2.2))] 58 (0, 0)) ∧ New wr w' ∧ w'.heap[w.heap.size + 1]? = some (.cells #[.int .u64 0, .int .u64 0, .int .u64 0, .int .u64 0] 58 (0, 0))) [1,0,0,0,2,3,0] (by kernel_rfl) (by kernel_rfl) (by kernel_rfl) (fun w' hw' => ⟨⟨_, _, _, _, hw'.2.2⟩, HN.out.trans hw'.2.1⟩) (⟨HB.out, (New.refl _).drew, HR.out⟩) ?_
          intro I J _ _ f g hfa hba hgb hbb
          have HFA := Lib.hid hfa
          have HBA := Lib.hid hba
          have HGB := Lib.hid hgb
          have HBB := Lib.hid hbb
          have s0 := fun n => cell_of_row _ _ 0 _ _ _ (hgb n).1
          have s1 := fun n => cell_of_row _ _ 1 _ _ _ (hgb n).1
          have s2 := fun n => cell_of_row _ _ 2 _ _ _ (hgb n).1
          have s3 := fun n => cell_of_row _ _ 3 _ _ _ (hgb n).1
          clear hfa hba hgb hbb
          refine Gro2.take1 1 (by kernel_rfl) ?_
          simp only [List.take, List.drop, List.length]
          repeat (go_big_quiet_step (fail))
          refine wpQuiet_nil ?_
          refine Gro2.take0 3 (by kernel_rfl) ?_
          simp only [List.take, List.drop, List.length]
          repeat (go_big_quiet_step (fail))
          refine wpQuiet_nil ?_
          refine Gro2.call (fun v => ∃ a c, v = .slice a (len - m : Nat) c) (fun v w' => ∃ a c, v = .slice a (len - m : Nat) c ∧ BRow w' a (len - m) c (l.drop m) ∧ ∀ x, a = some x → w.heap.size + 1 < x.block) rfl rfl (⟨_, none, 0, rfl⟩) (fun w1 hB hG => ?_) (fun v1 A1 hv1 hA => ?_)
          · obtain ⟨nq, rfl⟩ := hB
            go_simp
            refine (clone_b _ _ _ _ _ (HSP.out.stay (HGB.out nq).2.1)).mono ?_
            rintro e w2 ⟨a2, c2, rfl, hrow, hfr, hn⟩
            have hlt := lt_of_block (HGB.out nq).2.2
            have HX := HBB.out _ ⟨(hn.block _ (lt_of_block (HGB.out nq).1)).trans (HGB.out nq).1, (HGB.out nq).2.1.trans hn, (hn.block _ (lt_of_block (HGB.out nq).2.2)).trans (HGB.out nq).2.2⟩
            have HR2 : ∀ x, a2 = some x → w.heap.size + 1 < x.block := fun x e => by have := hfr x e; omega
            exact ⟨_, rfl, HX, ⟨_, _, rfl⟩, ⟨_, _, rfl, hrow, HR2⟩⟩
          simp [Act.put] at hA
          subst hA
          obtain ⟨a2, c2, rfl⟩ := hv1
          refine Gro2.turn (fun v => v = undef) (fun _ w9 => w9.heap[w.heap.size + 1]? = some (.cells #[.int .u64 (W64 (cur.1)), .int .u64 (W64 (cur.2.1)), .int .u64 (W64 (cur.2.2.1)), .int .u64 (W64 (cur.2.2.2))] 58 (0, 0)) ∧ BRow w9 a2 (len - m) c2 (l.drop m) ∧ ∀ x, a2 = some x → w.heap.size + 1 < x.block) rfl rfl ⟨_, rfl⟩ (fun w1 hB hG => ?_) (fun v2 A2 hv2 hA => ?_)
          · obtain ⟨nq, rfl⟩ : ∃ nq, w1 = g nq := hB
            have HX := Lib.hid (HGB.out nq)
            have c0 := cell_of_row _ _ 0 _ _ _ HX.out.2.2
            have c1 := cell_of_row _ _ 1 _ _ _ HX.out.2.2
            have c2 := cell_of_row _ _ 2 _ _ _ HX.out.2.2
            have c3 := cell_of_row _ _ 3 _ _ _ HX.out.2.2
            have cf := fun i => frozen_of_row _ _ i _ _ HX.out.2.2
            have HP := Lib.hid (put_34 (.int .u64 (W64 (cur.1))) (.int .u64 (W64 (cur.2.1))) (.int .u64 (W64 (cur.2.2.1))) (.int .u64 (W64 (cur.2.2.2))) HX.out.2.2)
            have HGG := Lib.hid hG.2
            clear s0 hG
            go_simp
            obtain ⟨a3, c3, e3, hrow, hfr⟩ := HGG.out
            cases e3
            exact ⟨HBA.out _ ⟨⟨_, _, _, _, HP.out.1⟩, HP.out.2.2 _ (HN.out.trans HX.out.2.1) (by omega)⟩, HP.out.1, hrow.but (by simp) (fun x e _ => HP.out.2.1 _ (by have := hfr x e; omega)), hfr⟩
          simp [Act.put] at hA
          subst hA
          refine Gro2.take0 1 (by kernel_rfl) ?_
          simp only [List.take, List.drop, List.length]
          repeat (go_big_quiet_step (fail))
          refine wpQuiet_nil ?_
          refine Gro2.nil ?_
          rintro w9 ⟨n9, rfl⟩ hG
          have HF := Lib.hid (HFA.out n9)
          have HG := Lib.hid hG
          have k0 := cell_of_row _ _ 0 _ _ _ hG.1
          have k1 := cell_of_row _ _ 1 _ _ _ hG.1
          have k2 := cell_of_row _ _ 2 _ _ _ hG.1
          have k3 := cell_of_row _ _ 3 _ _ _ hG.1
          clear HFA HBA HGB HBB hG s0 s1 s2 s3
          generalize f n9 = w9 at *
          go_wp2
          refine bodyPost_ret (by simp [results, Try.results36, go_sem, k0, k1, k2, k3]; try rfl) rfl ?_
          refine ⟨a2, c2, ?_, ?_, fun x e => by have := HG.out.2.2 x e; omega, HF.out.2⟩
          · rw [HE.out.1, show len % 8 = len - m from (by first | exact HE.out.2.2.symm.trans (by omega) | rfl | exact Nat.zero_mod _)]
            try rfl
          · rw [HE.out.2.1, show len % 8 = len - m from (by first | exact HE.out.2.2.symm.trans (by omega) | rfl | exact Nat.zero_mod _)]; exact HG.out.2.1
end Go.Proofs.Ytoplabhoedloeaa
