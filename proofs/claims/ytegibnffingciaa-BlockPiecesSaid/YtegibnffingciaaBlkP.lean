/- The law BlockPieces, walked. -/
import Derived.Test.YtegibnffingciaaBlkK
import Derived.Defers
import Derived.Recover
import Derived.Laws.Pointers
import Derived.Handy
import Derived.Laws.EntriesVeiled
namespace Go.Proofs.Ytegibnffingciaa
open Go.RowKit Go.Bv
set_option linter.unusedVariables false
theorem bTail_le (n : Nat) (l : List (BitVec 8)) : (bTail n l).length ≤ l.length := by rw [bTail_len]; exact Nat.mod_le _ _
/-- the bytes of the first k pieces -/
def pre (ps : List Pc) (k : Nat) : List (BitVec 8) := ((ps.take k).map Pc.l).flatten
theorem pre_zero (ps : List Pc) : pre ps 0 = [] := rfl
theorem pre_succ (ps : List Pc) (k : Nat) (h : k < ps.length) : pre ps (k + 1) = pre ps k ++ (ps[k]).l := by
  unfold pre
  rw [List.take_succ_eq_append_getElem h, List.map_append, List.flatten_append]
  simp
theorem pre_all (ps : List Pc) (k : Nat) (h : ps.length ≤ k) : pre ps k = (ps.map Pc.l).flatten := by
  unfold pre; rw [List.take_of_length_le h]
theorem pre_rest (ps : List Pc) (k : Nat) : pre ps k ++ ((ps.drop k).map Pc.l).flatten = (ps.map Pc.l).flatten := by
  unfold pre
  rw [← List.flatten_append, ← List.map_append, List.take_append_drop]
theorem pre_take (ps : List Pc) (k : Nat) (l : List (BitVec 8)) (hf : (ps.map Pc.l).flatten = l) : l.take (pre ps k).length = pre ps k := by
  rw [← hf, ← pre_rest ps k, List.take_left']
  rfl
theorem pre_le (ps : List Pc) (k : Nat) (l : List (BitVec 8)) (hf : (ps.map Pc.l).flatten = l) : (pre ps k).length ≤ l.length := by
  rw [← hf, ← pre_rest ps k, List.length_append]; omega
theorem own_at {w : World} {base : Nat} {e : TypeId} {v : Value} {n : Nat} {xs : List Value} (h : w.ownsRow base e 1 v (n + 1) xs) :
    ∃ g cap cur, v = .slice (some ⟨g, 0, none⟩) (n + 1) cap ∧ base ≤ g ∧ w.heap[g]? = some (.cells cur e (0, 0)) ∧ n + 1 ≤ cap ∧ cap ≤ maxLen ∧ xs.length = n + 1 ∧ ∀ i, i < n + 1 → cur[i]? = xs[i]? := by
  obtain ⟨hl, h⟩ := h
  rcases h with ⟨_, h0⟩ | ⟨g, cap, cur, rfl, hb, hg, hc, hm, hs, ht⟩
  · omega
  · refine ⟨g, cap, cur, rfl, hb, hg, hc, hm, by omega, fun i hi => ?_⟩
    rw [← ht, List.getElem?_take, if_pos (by omega), Array.getElem?_toList]
set_option maxRecDepth 100000 in
set_option maxHeartbeats 8000000 in
theorem BlockPieces_walk (W : World) (a0 : Int) (w0 : (Lit.int .i64 a0).wf = true) (a1 : Int) (w1 : (Lit.int .u64 a1).wf = true) (a2 : Option Addr) (n2 m2 : Nat) (z2 : List Int) (w2 : IRow .u8 W a2 n2 m2 z2) (r2 : m2 * 1 ≤ 140737488351232) (a3 : Option Addr) (n3 m3 : Nat) (z3 : List Int) (w3 : IRow .i64 W a3 n3 m3 z3) (r3 : m3 * 8 ≤ 140737488351232) :
    Calls Try.prog 3 #[.int .i64 a0, .int .u64 a1, .slice a2 n2 m2, .slice a3 n3 m3] W fun e w' => e = .returned (.bool true) ∧ Below W.heap.size W w' := by
  obtain ⟨x, rfl⟩ := ex64 a1 (by simp [Lit.wf, IntKind.min, IntKind.max, IntKind.signed, IntKind.bits] at w1; omega)
  obtain ⟨l, hl2⟩ := w2.bytes r2
  obtain ⟨zs, hl3⟩ := w3.ints r3
  have HB := Lib.hid hl2
  have HC := Lib.hid hl3
  have HQB := Lib.hid hl2.len_eq
  obtain ⟨n, hn⟩ : ∃ n, szN a0 = n := ⟨_, rfl⟩
  have hn1 : 1 ≤ n ∧ n ≤ 64 := hn ▸ szN_in a0
  have HSZ := Lib.hid hn
  have HN1 := Lib.hid hn1
  have hnm : n2 ≤ m2 := hl2.le
  clear w0 w1 w2 w3 r2 r3 hl2 hl3 hn hn1
  have HNW := Lib.hid (fun w => new_28 a0 (x, 0) w)
  have HA := Lib.hid (awake28 W)
  go_enter Try.func3, Try.ntmps3
  go_wp2_with fail
  refine (HA.out).mono ?_
  rintro e w9 ⟨rfl, hn⟩
  have HN := Lib.hid hn
  clear hn HA
  by_cases hs : (400 : Int) < (n2 : Int) ∨ (40 : Int) < (n3 : Int)
  · by_cases hs2 : (400 : Int) < (n2 : Int)
    · go_wp2
      go_ret
      exact ⟨rfl, HN.out⟩
    · have hs3 : (40 : Int) < (n3 : Int) := by omega
      go_wp2
      go_ret
      exact ⟨rfl, HN.out⟩
  have hs2 : ¬ (400 : Int) < (n2 : Int) := by omega
  have hs3 : ¬ (40 : Int) < (n3 : Int) := by omega
  have HLE : Hid (n2 ≤ 400 ∧ n3 ≤ 40) := Lib.hid (by omega)
  clear hs
  have hx := heap_alloc_new w9 (.cells #[.int .u64 (W64 x), .int .i64 0] 27)
  have hn2 := (New.refl w9).alloc (.cells #[.int .u64 (W64 x), .int .i64 0] 27)
  obtain ⟨qHF, hq⟩ : ∃ q, w9.heap.size = q := ⟨_, rfl⟩
  have hle := HN.out.le
  rw [hq] at hx hle
  have hw0 := And.intro (rfl : w9.alloc (.cells #[.int .u64 (W64 x), .int .i64 0] 27) = w9.alloc (.cells #[.int .u64 (W64 x), .int .i64 0] 27)) hq
  generalize hw2 : w9.alloc (.cells #[.int .u64 (W64 x), .int .i64 0] 27) = w10 at hx hn2 hw0
  have HE := Lib.hid (show w9.alloc (.cells #[.int .u64 (W64 x), .int .i64 0] 27) = w10 ∧ w9.heap.size = qHF from ⟨hw2, hq⟩)
  clear hw0 hw2
  replace HN := Lib.hid (HN.out.trans hn2)
  have HF := Lib.hid hx
  have HLHF := Lib.hid hle
  clear hx hn2 hq hle
  have f0 := cell_of_row _ _ 0 _ _ _ HF.out
  have f1 := cell_of_row _ _ 1 _ _ _ HF.out
  go_wp2_with (rw [HE.out.1, HE.out.2])
  refine (HNW.out _).mono ?_
  rintro e w9 ⟨p, rfl, hp, hs, hn⟩
  rw [HSZ.out] at hs
  have HFP : Hid (qHF < p) := Lib.hid (by have := lt_of_block HF.out; omega)
  have HWP : Hid (W.heap.size ≤ p) := Lib.hid (Nat.le_trans HN.out.le hp)
  replace HF := Lib.hid ((hn.block _ (lt_of_block HF.out)).trans HF.out)
  replace HN := Lib.hid (HN.out.trans hn)
  have HS := Lib.hid hs
  clear hs hn hp HNW hs2 hs3 f0 f1 HE
  go_wp2_with fail
  refine (pieces_ref a2 n2 m2 l a3 n3 m3 zs _ (HB.out.stay HN.out) (HC.out.stay HN.out) (by have := HLE.out; omega)).mono ?_
  rintro e w9 ⟨v, ps, rfl, hown, hall, hfl, hn⟩
  obtain ⟨gp, cp, cur, rfl, hgb, hg, hcp, hcm, hxl, hcur⟩ := own_at hown
  have HPG : Hid (p < gp) := Lib.hid (by have := HS.out.lt; omega)
  replace HS := Lib.hid (HS.out.stay hn)
  replace HF := Lib.hid ((hn.block _ (lt_of_block HF.out)).trans HF.out)
  replace HN := Lib.hid (HN.out.trans hn)
  have HG := Lib.hid hg
  have HALL := Lib.hid (fun q hq => (hall q hq).stay hn)
  have HFL := Lib.hid hfl
  have HPL := Lib.hid (show ps.length = n3 + 1 by simpa using hxl)
  have HCUR := Lib.hid hcur
  have hcpi : ((n3 + 1 : Nat) : Int) ≤ (cp : Int) := by omega
  have hcm2 : cp ≤ 9223372036854775807 := by unfold maxLen at hcm; omega
  clear hown hall hfl hn hg hgb hxl hcur hcm hcp
  obtain ⟨N, hNN⟩ : ∃ N, n3 + 1 = N := ⟨_, rfl⟩
  rw [hNN] at HPL HCUR hcpi ⊢
  have HNL : Hid (N ≤ 41) := Lib.hid (by have := HLE.out; omega)
  clear hNN
  go_wp2_with fail
  go_loopw [11, 37] (fun lg i wr => ∃ k : Nat, k ≤ N ∧ i = .int .i64 (k : Int) ∧ lg = .int .i64 ((pre ps k).length : Nat) ∧ Strm_28 wr p n (x, 0) (bState n stp28 (x, 0) (pre ps k)) (bTail n (pre ps k)) (BitVec.ofNat 64 (pre ps k).length) ∧ wr.heap[qHF]? = some (.cells #[.int .u64 (W64 x), .int .i64 0] 27 (0, 0)) ∧ wr.heap[gp]? = some (.cells cur 23 (0, 0)) ∧ (∀ q ∈ ps, Pc.ok wr q) ∧ New W wr) (fun _ i _ => N - (intOf i).toNat)
  case atStart =>
    refine ⟨0, Nat.zero_le _, rfl, rfl, ?_, HF.out, HG.out, HALL.out, HN.out⟩
    rw [pre_zero, bState_nil, bTail_nil]; exact HS.out
  case round =>
    clear HS HF HG HALL HN
    obtain ⟨k, hk, rfl, rfl, hs, hf, hg, hall, hn⟩ := hrel
    have HS := Lib.hid hs
    have HF := Lib.hid hf
    have HG := Lib.hid hg
    have HALL := Lib.hid hall
    have HN := Lib.hid hn
    clear hs hf hg hall hn
    by_cases hlt : (k : Int) < (N : Int)
    · have hkl : k < ps.length := by rw [HPL.out]; omega
      have hck : wr.cell? ⟨gp, k, none⟩ = some (.slice (ps[k]).a (ps[k]).n (ps[k]).c) := by
        have h1 := cell_of_row wr gp k _ _ _ HG.out
        rw [h1, HCUR.out k (by omega), List.getElem?_map, List.getElem?_eq_getElem hkl]; rfl
      have hq := HALL.out ps[k] (List.getElem_mem hkl)
      have hps := pre_succ ps k hkl
      have hpt := pre_take ps (k + 1) l HFL.out
      have hpl := pre_le ps (k + 1) l HFL.out
      rw [hps] at hpt hpl
      obtain ⟨⟨qa, qn, qc, ql⟩, hqe⟩ : ∃ q : Pc, ps[k] = q := ⟨_, rfl⟩
      rw [hqe] at hck hq hps hpt hpl
      have hq2 : BRow wr qa qn qc ql := hq
      have hqn : ql.length = qn := hq2.len_eq
      have HQ := Lib.hid hq2
      have HPS := Lib.hid hps
      obtain ⟨P0, hP0⟩ : ∃ P0, pre ps k = P0 := ⟨_, rfl⟩
      rw [hP0] at HS HPS hpt hpl ⊢
      have HP0 := Lib.hid hP0
      obtain ⟨L0, hL0⟩ : ∃ L0, P0.length = L0 := ⟨_, rfl⟩
      simp only at hpt hpl hqn
      rw [List.length_append, hL0, hqn] at hpt hpl
      rw [HQB.out] at hpl
      rw [hL0] at HS ⊢
      have HL0 := Lib.hid hL0
      have HPT := Lib.hid hpt
      have HPL2 : Hid (L0 + qn ≤ n2) := Lib.hid hpl
      have HQN := Lib.hid hqn
      have hk0 : (0 : Int) ≤ (k : Int) := by omega
      have hkc : (k : Int) ≤ (cp : Int) := by omega
      have hsum : (bTail n P0).length + qn ≤ 140737488355328 := Nat.le_trans (Nat.add_le_add_right (Nat.le_trans (bTail_le n P0) (Nat.le_of_eq hL0)) qn) (Nat.le_trans hpl (Nat.le_trans HLE.out.1 (by decide)))
      have HSUM := Lib.hid hsum
      clear hq hps hpt hqe hq2 hqn hP0 hL0 hsum hkl
      go_wp2_with fail
      refine (write_28 p n HN1.out (x, 0) _ _ _ _ _ _ _ _ HS.out HQ.out HSUM.out).mono ?_
      rintro e w9 ⟨rfl, hs, hb⟩
      rw [bState_join n (by have := HN1.out; omega), bTail_join n (by have := HN1.out; omega)] at hs
      have hnb := HS.out.noBytes
      replace HALL := Lib.hid (fun q hq => (HALL.out q hq).buts hb hnb)
      replace HF := Lib.hid (hb.keep (by have := HFP.out; omega) HF.out)
      replace HG := Lib.hid (hb.keep (by have := HPG.out; omega) HG.out)
      replace HS := Lib.hid hs
      replace HN := Lib.hid (hb.new _ HN.out HWP.out)
      clear hb hs hnb hck
      have HLG : Hid (BitVec.ofNat 64 L0 + BitVec.ofNat 64 qn = BitVec.ofNat 64 (L0 + qn)) := Lib.hid (by rw [BitVec.ofNat_add])
      rw [HLG.out] at HS
      obtain ⟨L1, hL1⟩ : ∃ L1, L0 + qn = L1 := ⟨_, rfl⟩
      rw [hL1] at HS HPT HPL2
      have HL1 := Lib.hid hL1
      obtain ⟨P1, hP1⟩ : ∃ P1, P0 ++ ql = P1 := ⟨_, rfl⟩
      rw [hP1] at HS HPT HPS
      have hlm : (L1 : Int) ≤ (m2 : Int) := by have := HPL2.out; omega
      have hl0 : (0 : Int) ≤ (L1 : Int) := by omega
      have hlm2 : (n2 : Int) ≤ (m2 : Int) := by omega
      have HFO := Lib.hid (fun (w' : World) (hn : New w9 w') => foldn_ref a0 n HSZ.out (x, 0) a2 L1 m2 (l.take L1) w' (row_front ((HB.out.stay HN.out).stay hn) HPL2.out))
      rw [HPT.out] at HFO
      have HP1L : Hid (P1.length = L1) := Lib.hid (by rw [← hP1, List.length_append, HL0.out, HQN.out, HL1.out])
      clear hL1 hP1 HPT HLG
      generalize hst1 : bState n stp28 (x, 0) P1 = st1 at *
      generalize hT1 : bTail n P1 = T1 at *
      have HST1 := Lib.hid hst1
      have HT1 := Lib.hid hT1
      clear hst1 hT1
      obtain ⟨hw1, hw1'⟩ := wrap_add L0 (qn : Int) L1 (by rw [← HL1.out]; exact (Int.natCast_add L0 qn).symm) (Nat.le_trans HPL2.out (Nat.le_trans HLE.out.1 (by decide)))
      go_wp2_with fail
      clear hw1 hw1'
      refine Gro3.wp_region_gro3S (fun w' => New w9 w') (fun w' => w'.heap[qHF]? = some (.cells #[.int .u64 (W64 x), .int .i64 0] 27 (0, 0)) ∧ New w9 w') [0,1,0,0,0,2,0,0,0,4,3,0] New (fun _ q w' => Lies w' q (.cells #[.int .u64 0, .int .i64 0] 27 (0, 0)) ∧ w9.heap.size ≤ q) (by kernel_rfl) (by kernel_rfl) (by kernel_rfl) (fun k q w w' hn h => ⟨(hn.block _ (lt_of_block h.1)).trans h.1, h.2⟩) (fun w' hw' => hw'.2) (⟨HF.out, (New.refl _).drew⟩) ?_
      intro I J _ _ f g hfa hba hgb hbb
      have HFA := Lib.hid hfa
      have HBA := Lib.hid hba
      have HGB := Lib.hid hgb
      have HBB := Lib.hid hbb
      have s0 := fun n => cell_of_row _ _ 0 _ _ _ (hgb n).1
      have s1 := fun n => cell_of_row _ _ 1 _ _ _ (hgb n).1
      clear hfa hba hgb hbb
      refine Gro3.take0 1 (by kernel_rfl) ?_
      simp only [List.take, List.drop, List.length]
      repeat (go_big_quiet_step (fail))
      refine wpQuiet_nil ?_
      refine Gro3.take1 1 (by kernel_rfl) ?_
      simp only [List.take, List.drop, List.length]
      repeat (go_big_quiet_step (fail))
      refine wpQuiet_nil ?_
      refine Gro3.take0 3 (by kernel_rfl) ?_
      simp only [List.take, List.drop, List.length]
      repeat (go_big_quiet_step (fail))
      refine wpQuiet_nil ?_
      refine Gro3.callt (fun v => ∃ r c, v = .tuple #[.agg #[.int .u64 (W64 (st1.1)), .int .i64 (st1.2)], .slice r (L1 % n : Nat) c]) (fun v w' => ∃ r c, v = .tuple #[.agg #[.int .u64 (W64 (st1.1)), .int .i64 (st1.2)], .slice r (L1 % n : Nat) c] ∧ BRow w' r (L1 % n) c T1) rfl rfl (⟨_, none, 0, rfl⟩) (fun v w w' hn h => by obtain ⟨r, c, e, hr⟩ := h; exact ⟨r, c, e, hr.stay hn⟩) (fun w1 hB hG => ?_) (fun v1 A1 hv1 hA => ?_)
      · obtain ⟨nq, rfl⟩ := hB
        clear s0 s1
        go_simp
        refine (HFO.out _ (HGB.out nq).2).mono ?_
        rintro e w2 ⟨r, c, rfl, hrow, hn⟩
        have HX := HBB.out _ ⟨(hn.block _ (lt_of_block (HGB.out nq).1)).trans (HGB.out nq).1, (HGB.out nq).2.trans hn⟩
        exact ⟨_, rfl, HX, hn, ⟨_, _, rfl⟩, ⟨_, _, rfl, hrow⟩⟩
      simp [Act.put] at hA
      subst hA
      obtain ⟨ra, ca, rfl⟩ := hv1
      refine Gro3.take0 3 (by kernel_rfl) ?_
      simp only [List.take, List.drop, List.length]
      repeat (go_big_quiet_step (fail))
      refine wpQuiet_nil ?_
      refine Gro3.alloc rfl rfl (fun w1 hB => ?_) (fun qG A2 hA => ?_)
      · obtain ⟨nq, rfl⟩ := hB
        have hal := (New.refl (g nq)).alloc (.cells #[.int .u64 0, .int .i64 0] 27)
        have HX := Lib.hid (HBB.out _ ⟨(hal.block _ (lt_of_block (HGB.out nq).1)).trans (HGB.out nq).1, (HGB.out nq).2.trans hal⟩)
        have HNL := Lib.hid hal
        have HLZ := Lib.hid (show Lies _ _ _ from heap_alloc_new (g nq) (.cells #[.int .u64 0, .int .i64 0] 27))
        have HLE9 := Lib.hid (HGB.out nq).2.le
        clear hal s0 s1
        go_simp
        first | exact ⟨_, rfl, HX.out, HNL.out, HLZ.out, HLE9.out⟩ | exact ⟨HX.out, HNL.out, HLZ.out, HLE9.out⟩
      simp [Act.put] at hA
      subst hA
      refine Gro3.turn (fun v => v = undef) (fun _ w9 => Lies w9 qG (.cells #[.int .u64 (W64 (st1.1)), .int .i64 (st1.2)] 27 (0, 0)) ∧ BRow w9 ra (L1 % n) ca T1) rfl rfl ⟨_, rfl⟩ (fun w1 hB hG => ?_) (fun v3 A3 hv3 hA => ?_)
      · obtain ⟨nq, rfl⟩ : ∃ nq, w1 = g nq := hB
        obtain ⟨⟨r5, c5, e5, hz⟩, hli, hge⟩ := hG
        cases e5
        have HX := Lib.hid (HGB.out nq)
        have HGE := Lib.hid hge
        have c0 := cell_of_row _ _ 0 _ _ _ hli
        have c1 := cell_of_row _ _ 1 _ _ _ hli
        have cf := fun i => frozen_of_row _ _ i _ _ hli
        have HP := Lib.hid (put_28 (.int .u64 (W64 (st1.1))) (.int .i64 (st1.2)) hli)
        have HROW := Lib.hid (hz.but (by simp) (fun y e h0 => HP.out.2.1 _ (hz.apart ⟨_, _, _, hli, by simp⟩ y e h0)))
        have HLI := Lib.hid (show Lies _ _ _ from HP.out.1)
        clear hz hli hge s0 s1
        go_simp
        exact ⟨HBA.out _ (HP.out.2.2 _ HX.out.2 HGE.out), HLI.out, HROW.out⟩
      simp [Act.put] at hA
      subst hA
      refine Gro3.take0 1 (by kernel_rfl) ?_
      simp only [List.take, List.drop, List.length]
      repeat (go_big_quiet_step (fail))
      refine wpQuiet_nil ?_
      refine Gro3.nil ?_
      rintro w10 ⟨n9, rfl⟩ hG
      have hn := HFA.out n9
      obtain ⟨hli, hrow⟩ := hG
      have HU1 := Lib.hid hrow
      have HG1 := Lib.hid (show (f n9).heap[qG]? = _ from hli)
      clear HFA HBA HGB HBB hli hrow s0 s1 HFO
      generalize f n9 = w9 at *
      replace HALL := Lib.hid (fun q hq => (HALL.out q hq).stay hn)
      replace HS := Lib.hid (HS.out.stay hn)
      replace HF := Lib.hid ((hn.block _ (lt_of_block HF.out)).trans HF.out)
      replace HG := Lib.hid ((hn.block _ (lt_of_block HG.out)).trans HG.out)
      replace HN := Lib.hid (HN.out.trans hn)
      clear hn
      have he := equ28s
      go_wp2_with fail
      refine Gro3.wp_region_gro3S (fun w' => w'.heap[qG]? = some (.cells #[.int .u64 (W64 (st1.1)), .int .i64 (st1.2)] 27 (0, 0)) ∧ New w9 w') (fun w' => w'.heap[qG]? = some (.cells #[.int .u64 (W64 (st1.1)), .int .i64 (st1.2)] 27 (0, 0)) ∧ New w9 w') [0, 2, 1, 1, 0, 0, 2, 0, 2, 0, 0, 0, 0, 2, 0, 0, 0, 0] New (fun _ _ _ => True) (by kernel_rfl) (by kernel_rfl) (by kernel_rfl) (fun _ _ _ _ _ _ => trivial) (fun w' hw' => hw') (⟨HG1.out, (New.refl _).drew⟩) ?_
      intro I J _ _ f g hfa hba hgb hbb
      have HFA := Lib.hid hfa
      have HBA := Lib.hid hba
      have HGB := Lib.hid hgb
      have HBB := Lib.hid hbb
      have s0 := fun n => cell_of_row _ _ 0 _ _ _ (hgb n).1
      have s1 := fun n => cell_of_row _ _ 1 _ _ _ (hgb n).1
      clear hfa hba hgb hbb
      refine Gro3.take0 1 (by kernel_rfl) ?_
      simp only [List.take, List.drop, List.length]
      repeat (go_big_quiet_step (fail))
      refine wpQuiet_nil ?_
      refine Gro3.callt (fun v => v = .agg #[.int .u64 (W64 (st1.1)), .int .i64 (st1.2)]) (fun _ _ => True) rfl rfl (⟨_, rfl⟩) (fun _ _ _ _ _ => trivial) (fun w1 hB hG => ?_) (fun v1 A1 hv1 hA => ?_)
      · obtain ⟨nq, rfl⟩ := hB
        clear s0 s1
        go_simp
        refine (state_28 p n _ _ _ _ _ HN1.out.1 (HS.out.stay (HGB.out nq).2)).mono ?_
        rintro e w2 ⟨rfl, hn⟩
        have HX := HBB.out _ ⟨(hn.block _ (lt_of_block (HGB.out nq).1)).trans (HGB.out nq).1, (HGB.out nq).2.trans hn⟩
        first | exact ⟨_, rfl, HX, hn, rfl⟩ | exact ⟨_, rfl, HX, hn, rfl, trivial⟩ | exact ⟨rfl, HX, hn⟩ | exact ⟨HX, hn, rfl⟩ | exact ⟨HX, hn⟩
      simp [Act.put] at hA
      subst hA
      obtain rfl := hv1
      refine Gro3.take1 2 (by kernel_rfl) ?_
      simp only [List.take, List.drop, List.length]
      repeat (go_big_quiet_step (fail))
      refine wpQuiet_nil ?_
      refine Gro3.take0 2 (by kernel_rfl) ?_
      simp only [List.take, List.drop, List.length]
      repeat (go_big_quiet_step (fail))
      refine wpQuiet_nil ?_
      refine Gro3.callt (fun v => ∃ r c, v = .slice r (T1.length : Nat) c) (fun v w' => ∃ r c, v = .slice r (T1.length : Nat) c ∧ BRow w' r (T1.length) c (T1)) rfl rfl (⟨_, none, 0, rfl⟩) (fun v w w' hn h => by obtain ⟨r, c, e, hr⟩ := h; exact ⟨r, c, e, hr.stay hn⟩) (fun w1 hB hG => ?_) (fun v2 A2 hv2 hA => ?_)
      · obtain ⟨nq, rfl⟩ := hB
        clear s0 s1
        go_simp
        refine (tail_28 p n _ _ _ _ _ HN1.out.1 (HS.out.stay (HGB.out nq).2)).mono ?_
        rintro e w2 ⟨r, c, rfl, hrow, hn⟩
        have HX := HBB.out _ ⟨(hn.block _ (lt_of_block (HGB.out nq).1)).trans (HGB.out nq).1, (HGB.out nq).2.trans hn⟩
        exact ⟨_, rfl, HX, hn, ⟨_, _, rfl⟩, ⟨_, _, rfl, hrow⟩⟩
      simp [Act.put] at hA
      subst hA
      obtain ⟨rr1, rc1, rfl⟩ := hv2
      refine Gro3.take0 1 (by kernel_rfl) ?_
      simp only [List.take, List.drop, List.length]
      repeat (go_big_quiet_step (fail))
      refine wpQuiet_nil ?_
      refine Gro3.callt (fun v => v = .bool true) (fun _ _ => True) rfl rfl (⟨_, rfl⟩) (fun _ _ _ _ _ => trivial) (fun w1 hB hG => ?_) (fun v3 A3 hv3 hA => ?_)
      · obtain ⟨nq, rfl⟩ := hB
        obtain ⟨r5, c5, e5, hz⟩ := hG
        cases e5
        have HZ := Lib.hid hz
        clear hz
        clear s0 s1
        go_simp
        refine (same_any _ _ _ _ _ _ T1 T1 _ HZ.out (HU1.out.stay (HGB.out nq).2)).mono ?_
        rintro e w2 ⟨he, rfl⟩
        have hn := New.refl (g nq)
        have HX := HBB.out _ ⟨(hn.block _ (lt_of_block (HGB.out nq).1)).trans (HGB.out nq).1, (HGB.out nq).2.trans hn⟩
        rw [beq_self_eq_true] at he
        subst he
        first | exact ⟨_, rfl, HX, hn, rfl⟩ | exact ⟨_, rfl, HX, hn, rfl, trivial⟩ | exact ⟨rfl, HX, hn⟩ | exact ⟨HX, hn, rfl⟩ | exact ⟨HX, hn⟩
      simp [Act.put] at hA
      subst hA
      obtain rfl := hv3
      refine Gro3.take0 4 (by kernel_rfl) ?_
      simp only [List.take, List.drop, List.length]
      repeat (go_big_quiet_step (fail))
      refine wpQuiet_nil ?_
      refine Gro3.callt (fun v => v = .int .u64 (W64 (BitVec.ofNat 64 L1))) (fun _ _ => True) rfl rfl (⟨_, rfl⟩) (fun _ _ _ _ _ => trivial) (fun w1 hB hG => ?_) (fun v4 A4 hv4 hA => ?_)
      · obtain ⟨nq, rfl⟩ := hB
        clear s0 s1
        go_simp
        refine (long_28 p n _ _ _ _ _ HN1.out.1 (HS.out.stay (HGB.out nq).2)).mono ?_
        rintro e w2 ⟨rfl, rfl⟩
        have hn := New.refl (g nq)
        have HX := HBB.out _ ⟨(hn.block _ (lt_of_block (HGB.out nq).1)).trans (HGB.out nq).1, (HGB.out nq).2.trans hn⟩
        first | exact ⟨_, rfl, HX, hn, rfl⟩ | exact ⟨_, rfl, HX, hn, rfl, trivial⟩ | exact ⟨rfl, HX, hn⟩ | exact ⟨HX, hn, rfl⟩ | exact ⟨HX, hn⟩
      simp [Act.put] at hA
      subst hA
      obtain rfl := hv4
      refine Gro3.take0 4 (by kernel_rfl) ?_
      simp only [List.take, List.drop, List.length]
      repeat (go_big_quiet_step (fail))
      refine wpQuiet_nil ?_
      refine Gro3.nil ?_
      rintro w9 ⟨n9, rfl⟩ hG
      have hn := (HGB.out n9).2
      clear HFA HBA HGB HBB s0 s1
      generalize g n9 = w9 at *
      replace HALL := Lib.hid (fun q hq => (HALL.out q hq).stay hn)
      replace HS := Lib.hid (HS.out.stay hn)
      replace HU1 := Lib.hid (HU1.out.stay hn)
      replace HF := Lib.hid ((hn.block _ (lt_of_block HF.out)).trans HF.out)
      replace HG := Lib.hid ((hn.block _ (lt_of_block HG.out)).trans HG.out)
      replace HG1 := Lib.hid ((hn.block _ (lt_of_block HG1.out)).trans HG1.out)
      replace HN := Lib.hid (HN.out.trans hn)
      clear hn hG he
      go_wp2
      refine ⟨⟨k + 1, by omega, by go_num, ?_, ?_, HF.out, HG.out, HALL.out, HN.out⟩, by simp [intOf]; omega⟩
      · rw [HPS.out, HP1L.out]
      · rw [HPS.out, HP1L.out, HST1.out, HT1.out]; exact HS.out
    · obtain rfl : k = N := by omega
      have hpa := pre_all ps k (by rw [HPL.out]; omega)
      rw [HFL.out] at hpa
      rw [hpa] at HS ⊢
      have HFO := Lib.hid (fun (w' : World) (hn : New wr w') => fold_28 a0 (x, 0) a2 n2 m2 l w' ((HB.out.stay HN.out).stay hn))
      rw [HSZ.out] at HFO
      generalize hst1 : bState n stp28 (x, 0) l = st1 at *
      generalize hT1 : bTail n l = T1 at *
      clear hst1 hT1 hpa
      obtain ⟨w9, hw9⟩ : ∃ w9, wr = w9 := ⟨_, rfl⟩
      subst hw9
      have f0 := cell_of_row _ _ 0 _ _ _ HF.out
      have f1 := cell_of_row _ _ 1 _ _ _ HF.out
      go_wp2_with fail
      refine (HFO.out _ (New.refl _)).mono ?_
      rintro e w9 ⟨ra, ca, rfl, hu, hn⟩
      replace HS := Lib.hid (HS.out.stay hn)
      replace HF := Lib.hid ((hn.block _ (lt_of_block HF.out)).trans HF.out)
      replace HG := Lib.hid ((hn.block _ (lt_of_block HG.out)).trans HG.out)
      replace HN := Lib.hid (HN.out.trans hn)
      have HU1 := Lib.hid hu
      clear hu hn HFO f0 f1
      have hx := heap_alloc_new w9 (.cells #[.int .u64 (W64 (st1.1)), .int .i64 (st1.2)] 27)
      have hn2 := (New.refl w9).alloc (.cells #[.int .u64 (W64 (st1.1)), .int .i64 (st1.2)] 27)
      obtain ⟨qHP1, hq⟩ : ∃ q, w9.heap.size = q := ⟨_, rfl⟩
      have hle := HN.out.le
      rw [hq] at hx hle
      have hw0 := And.intro (rfl : w9.alloc (.cells #[.int .u64 (W64 (st1.1)), .int .i64 (st1.2)] 27) = w9.alloc (.cells #[.int .u64 (W64 (st1.1)), .int .i64 (st1.2)] 27)) hq
      generalize hw2 : w9.alloc (.cells #[.int .u64 (W64 (st1.1)), .int .i64 (st1.2)] 27) = w10 at hx hn2 hw0
      have HE := Lib.hid (show w9.alloc (.cells #[.int .u64 (W64 (st1.1)), .int .i64 (st1.2)] 27) = w10 ∧ w9.heap.size = qHP1 from ⟨hw2, hq⟩)
      clear hw0 hw2
      replace HS := Lib.hid (HS.out.stay hn2)
      replace HU1 := Lib.hid (HU1.out.stay hn2)
      replace HF := Lib.hid ((hn2.block _ (lt_of_block HF.out)).trans HF.out)
      replace HG := Lib.hid ((hn2.block _ (lt_of_block HG.out)).trans HG.out)
      replace HN := Lib.hid (HN.out.trans hn2)
      have HP1 := Lib.hid hx
      have HLHP1 := Lib.hid hle
      clear hx hn2 hq hle
      go_wp2_with (rw [HE.out.1, HE.out.2])
      clear HE
      have he := equ28s
      refine Gro3.wp_region_gro3S (fun w' => w'.heap[qHP1]? = some (.cells #[.int .u64 (W64 (st1.1)), .int .i64 (st1.2)] 27 (0, 0)) ∧ New w10 w') (fun w' => w'.heap[qHP1]? = some (.cells #[.int .u64 (W64 (st1.1)), .int .i64 (st1.2)] 27 (0, 0)) ∧ New w10 w') [1, 0, 2, 1, 0, 0, 0, 2, 2, 0, 0] New (fun _ _ _ => True) (by kernel_rfl) (by kernel_rfl) (by kernel_rfl) (fun _ _ _ _ _ _ => trivial) (fun w' hw' => hw') (⟨HP1.out, (New.refl _).drew⟩) ?_
      intro I J _ _ f g hfa hba hgb hbb
      have HFA := Lib.hid hfa
      have HBA := Lib.hid hba
      have HGB := Lib.hid hgb
      have HBB := Lib.hid hbb
      have s0 := fun n => cell_of_row _ _ 0 _ _ _ (hgb n).1
      have s1 := fun n => cell_of_row _ _ 1 _ _ _ (hgb n).1
      clear hfa hba hgb hbb
      refine Gro3.take1 1 (by kernel_rfl) ?_
      simp only [List.take, List.drop, List.length]
      repeat (go_big_quiet_step (fail))
      refine wpQuiet_nil ?_
      refine Gro3.take0 1 (by kernel_rfl) ?_
      simp only [List.take, List.drop, List.length]
      repeat (go_big_quiet_step (fail))
      refine wpQuiet_nil ?_
      refine Gro3.callt (fun v => v = .agg #[.int .u64 (W64 (st1.1)), .int .i64 (st1.2)]) (fun _ _ => True) rfl rfl (⟨_, rfl⟩) (fun _ _ _ _ _ => trivial) (fun w1 hB hG => ?_) (fun v1 A1 hv1 hA => ?_)
      · obtain ⟨nq, rfl⟩ := hB
        clear s0 s1
        go_simp
        refine (state_28 p n _ _ _ _ _ HN1.out.1 (HS.out.stay (HGB.out nq).2)).mono ?_
        rintro e w2 ⟨rfl, hn⟩
        have HX := HBB.out _ ⟨(hn.block _ (lt_of_block (HGB.out nq).1)).trans (HGB.out nq).1, (HGB.out nq).2.trans hn⟩
        first | exact ⟨_, rfl, HX, hn, rfl⟩ | exact ⟨_, rfl, HX, hn, rfl, trivial⟩ | exact ⟨rfl, HX, hn⟩ | exact ⟨HX, hn, rfl⟩ | exact ⟨HX, hn⟩
      simp [Act.put] at hA
      subst hA
      obtain rfl := hv1
      refine Gro3.take1 1 (by kernel_rfl) ?_
      simp only [List.take, List.drop, List.length]
      repeat (go_big_quiet_step (fail))
      refine wpQuiet_nil ?_
      refine Gro3.take0 3 (by kernel_rfl) ?_
      simp only [List.take, List.drop, List.length]
      repeat (go_big_quiet_step (fail))
      refine wpQuiet_nil ?_
      refine Gro3.callt (fun v => ∃ r c, v = .slice r (T1.length : Nat) c) (fun v w' => ∃ r c, v = .slice r (T1.length : Nat) c ∧ BRow w' r (T1.length) c (T1)) rfl rfl (⟨_, none, 0, rfl⟩) (fun v w w' hn h => by obtain ⟨r, c, e, hr⟩ := h; exact ⟨r, c, e, hr.stay hn⟩) (fun w1 hB hG => ?_) (fun v2 A2 hv2 hA => ?_)
      · obtain ⟨nq, rfl⟩ := hB
        clear s0 s1
        go_simp
        refine (tail_28 p n _ _ _ _ _ HN1.out.1 (HS.out.stay (HGB.out nq).2)).mono ?_
        rintro e w2 ⟨r, c, rfl, hrow, hn⟩
        have HX := HBB.out _ ⟨(hn.block _ (lt_of_block (HGB.out nq).1)).trans (HGB.out nq).1, (HGB.out nq).2.trans hn⟩
        exact ⟨_, rfl, HX, hn, ⟨_, _, rfl⟩, ⟨_, _, rfl, hrow⟩⟩
      simp [Act.put] at hA
      subst hA
      obtain ⟨rr1, rc1, rfl⟩ := hv2
      refine Gro3.callt (fun v => v = .bool true) (fun _ _ => True) rfl rfl (⟨_, rfl⟩) (fun _ _ _ _ _ => trivial) (fun w1 hB hG => ?_) (fun v3 A3 hv3 hA => ?_)
      · obtain ⟨nq, rfl⟩ := hB
        obtain ⟨r5, c5, e5, hz⟩ := hG
        cases e5
        have HZ := Lib.hid hz
        clear hz
        clear s0 s1
        go_simp
        refine (same_any _ _ _ _ _ _ T1 T1 _ (HU1.out.stay (HGB.out nq).2) HZ.out).mono ?_
        rintro e w2 ⟨he, rfl⟩
        have hn := New.refl (g nq)
        have HX := HBB.out _ ⟨(hn.block _ (lt_of_block (HGB.out nq).1)).trans (HGB.out nq).1, (HGB.out nq).2.trans hn⟩
        rw [beq_self_eq_true] at he
        subst he
        first | exact ⟨_, rfl, HX, hn, rfl⟩ | exact ⟨_, rfl, HX, hn, rfl, trivial⟩ | exact ⟨rfl, HX, hn⟩ | exact ⟨HX, hn, rfl⟩ | exact ⟨HX, hn⟩
      simp [Act.put] at hA
      subst hA
      obtain rfl := hv3
      refine Gro3.take0 2 (by kernel_rfl) ?_
      simp only [List.take, List.drop, List.length]
      repeat (go_big_quiet_step (fail))
      refine wpQuiet_nil ?_
      refine Gro3.nil ?_
      rintro w9 ⟨n9, rfl⟩ hG
      have hn := (HGB.out n9).2
      clear HFA HBA HGB HBB s0 s1
      generalize g n9 = w9 at *
      have HNZ := Lib.hid (HN.out.trans hn)
      clear hn hG
      go_wp2
      go_ret
      exact ⟨rfl, HNZ.out⟩
end Go.Proofs.Ytegibnffingciaa
