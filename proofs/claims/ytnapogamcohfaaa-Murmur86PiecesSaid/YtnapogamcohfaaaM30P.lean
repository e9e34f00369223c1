/- Layer 30: the law Pieces. -/
import Derived.Test.YtnapogamcohfaaaM30K
import Derived.Test.YtnapogamcohfaaaPcsP
import Derived.Defers
import Derived.Recover
import Derived.Laws.Pointers
import Derived.Handy
import Derived.Laws.EntriesVeiled
namespace Go.Proofs.Ytnapogamcohfaaa
open Go.RowKit Go.Bv
set_option linter.unusedVariables false
set_option maxRecDepth 100000 in
set_option maxHeartbeats 8000000 in
theorem Murmur86Pieces_walk (W : World) (a0 : Int) (w0 : (Lit.int .u32 a0).wf = true) (a1 : Option Addr) (n1 m1 : Nat) (z1 : List Int) (w1 : IRow .u8 W a1 n1 m1 z1) (r1 : m1 * 1 ≤ 140737488351232) (a2 : Option Addr) (n2 m2 : Nat) (z2 : List Int) (w2 : IRow .i64 W a2 n2 m2 z2) (r2 : m2 * 8 ≤ 140737488351232) :
    Calls Try.prog 4 #[.int .u32 a0, .slice a1 n1 m1, .slice a2 n2 m2] W fun e w' => e = .returned (.bool true) ∧ Below W.heap.size W w' := by
  obtain ⟨sd, rfl⟩ := ex32 a0 (by simp [Lit.wf, IntKind.min, IntKind.max, IntKind.signed, IntKind.bits] at w0; omega)
  clear w0
  obtain ⟨l, hl2⟩ := w1.bytes r1
  obtain ⟨zs, hl3⟩ := w2.ints r2
  have HB := Lib.hid hl2
  have HC := Lib.hid hl3
  have HQB := Lib.hid hl2.len_eq
  have hnm : n1 ≤ m1 := hl2.le
  clear w1 w2 r1 r2 hl2 hl3
  have HNW := Lib.hid (fun w => lnew_30 sd w)
  have HA := Lib.hid (awake_30 W)
  have HR0 := Lib.hid (fun w => hash_ref30 sd none 0 0 [] w (brow_none w))
  have HRL := Lib.hid (fun w (hn : New W w) => hone30 sd _ _ _ _ w (HB.out.stay hn))
  have HSM := Lib.hid (lsum_30)
  go_enter Try.func4, Try.ntmps4
  go_wp2_with fail
  refine (HA.out).mono ?_
  rintro e w9 ⟨rfl, hn⟩
  have HN := Lib.hid hn
  clear hn HA
  by_cases hs : (600 : Int) < (n1 : Int) ∨ (30 : Int) < (n2 : Int)
  · by_cases hs2 : (600 : Int) < (n1 : Int)
    · go_wp2
      go_ret
      exact ⟨rfl, HN.out⟩
    · have hs3 : (30 : Int) < (n2 : Int) := by omega
      go_wp2
      go_ret
      exact ⟨rfl, HN.out⟩
  have hs2 : ¬ (600 : Int) < (n1 : Int) := by omega
  have hs3 : ¬ (30 : Int) < (n2 : Int) := by omega
  have HLE : Hid (n1 ≤ 600 ∧ n2 ≤ 30) := Lib.hid (by omega)
  clear hs
  go_wp2_with fail
  refine (HNW.out _).mono ?_
  rintro e w9 ⟨p, y, rfl, hp, hpg, hx, hs, hn⟩
  have HWP : Hid (W.heap.size ≤ p) := Lib.hid (Nat.le_trans HN.out.le hp)
  have HPX : Hid (p < y) := Lib.hid hpg
  replace HN := Lib.hid (HN.out.trans hn)
  have HS := Lib.hid hs
  have HX := Lib.hid hx
  clear hs hx hn hp hpg HNW hs2 hs3
  have HS1 := Lib.hid (fun (w' : World) (hx : w'.heap[y]? = some (.cells #[.pointer (some ⟨p, 0, none⟩)] 62 (0, 0))) (hs : HStr_30 w' p sd []) => HSM.out p y sd [] w' hx hs)
  have HR1 := Lib.hid HR0.out
  obtain ⟨hh, hhe⟩ : ∃ r, hash30 sd [] = r := ⟨_, rfl⟩
  rw [hhe] at HS1 HR1
  clear hhe
  have heq := fun w => eqUs w hh.2 hh.1
  go_wp2_with fail
  refine (HS1.out _ HX.out HS.out).mono ?_
  rintro e w9 ⟨rfl, hn⟩
  replace HS := Lib.hid (HS.out.stay hn)
  replace HX := Lib.hid ((hn.block _ (lt_of_block HX.out)).trans HX.out)
  replace HN := Lib.hid (HN.out.trans hn)
  clear hn
  go_wp2_with fail
  refine (HR1.out _).mono ?_
  rintro e w9 ⟨rfl, hn⟩
  replace HS := Lib.hid (HS.out.stay hn)
  replace HX := Lib.hid ((hn.block _ (lt_of_block HX.out)).trans HX.out)
  replace HN := Lib.hid (HN.out.trans hn)
  clear hn HS1 HR1
  go_wp2_with fail
  clear heq
  refine (pieces_ref a1 n1 m1 l a2 n2 m2 zs _ (HB.out.stay HN.out) (HC.out.stay HN.out) (by have := HLE.out; omega)).mono ?_
  rintro e w9 ⟨v, ps, rfl, hown, hall, hfl, hn⟩
  obtain ⟨gp, cp, cur, rfl, hgb, hg, hcp, hcm, hxl, hcur⟩ := own_at hown
  have HPG : Hid (p < gp) := Lib.hid (by have := HS.out.lt; omega)
  replace HS := Lib.hid (HS.out.stay hn)
  replace HX := Lib.hid ((hn.block _ (lt_of_block HX.out)).trans HX.out)
  replace HN := Lib.hid (HN.out.trans hn)
  have HG := Lib.hid hg
  have HALL := Lib.hid (fun q hq => (hall q hq).stay hn)
  have HFL := Lib.hid hfl
  have HPL := Lib.hid (show ps.length = n2 + 1 by simpa using hxl)
  have HCUR := Lib.hid hcur
  have hcpi : ((n2 + 1 : Nat) : Int) ≤ (cp : Int) := by omega
  have hcm2 : cp ≤ 9223372036854775807 := by unfold maxLen at hcm; omega
  clear hown hall hfl hn hg hgb hxl hcur hcm hcp
  obtain ⟨N, hNN⟩ : ∃ N, n2 + 1 = N := ⟨_, rfl⟩
  rw [hNN] at HPL HCUR hcpi ⊢
  clear hNN
  go_wp2_with fail
  go_loopw [8, 36] (fun lg i wr => ∃ k : Nat, k ≤ N ∧ i = .int .i64 (k : Int) ∧ lg = .int .i64 ((pre ps k).length : Nat) ∧ HStr_30 wr p sd (pre ps k) ∧ wr.heap[y]? = some (.cells #[.pointer (some ⟨p, 0, none⟩)] 62 (0, 0)) ∧ wr.heap[gp]? = some (.cells cur 23 (0, 0)) ∧ (∀ q ∈ ps, Pc.ok wr q) ∧ New W wr) (fun _ i _ => N - (intOf i).toNat)
  case atStart =>
    refine ⟨0, Nat.zero_le _, rfl, rfl, ?_, HX.out, HG.out, HALL.out, HN.out⟩
    rw [pre_zero]; exact HS.out
  case round =>
    clear HS HX HG HALL HN
    obtain ⟨k, hk, rfl, rfl, hs, hf, hg, hall, hn⟩ := hrel
    have HS := Lib.hid hs
    have HX := Lib.hid hf
    have HG := Lib.hid hg
    have HALL := Lib.hid hall
    have HN := Lib.hid hn
    clear hs hf hg hall hn
    by_cases hlt : (k : Int) < (N : Int)
    · have hkl : k < ps.length := by rw [HPL.out]; omega
      have hck : wr.cell? ⟨gp, k, none⟩ = some (.slice (ps[k]).a (ps[k]).n (ps[k]).c) := by
        have h1 := cell_of_row wr gp k _ _ _ HG.out
        rw [h1, HCUR.out k (by omega), List.getElem?_map, List.getElem?_eq_getElem hkl]; rfl
      have hq := HALL.out ps[k] (List.getElem_mem hkl)
      have hps := pre_succ ps k hkl
      have hpt := pre_take ps (k + 1) l HFL.out
      have hpl := pre_le ps (k + 1) l HFL.out
      rw [hps] at hpt hpl
      obtain ⟨⟨qa, qn, qc, ql⟩, hqe⟩ : ∃ q : Pc, ps[k] = q := ⟨_, rfl⟩
      rw [hqe] at hck hq hps hpt hpl
      have hq2 : BRow wr qa qn qc ql := hq
      have hqn : ql.length = qn := hq2.len_eq
      have HQ := Lib.hid hq2
      have HPS := Lib.hid hps
      obtain ⟨P0, hP0⟩ : ∃ P0, pre ps k = P0 := ⟨_, rfl⟩
      rw [hP0] at HS HPS hpt hpl ⊢
      obtain ⟨L0, hL0⟩ : ∃ L0, P0.length = L0 := ⟨_, rfl⟩
      simp only at hpt hpl hqn
      rw [List.length_append, hL0, hqn] at hpt hpl
      rw [HQB.out] at hpl
      rw [hL0]
      have HL0 := Lib.hid hL0
      have HPT := Lib.hid hpt
      have HPL2 : Hid (L0 + qn ≤ n1) := Lib.hid hpl
      have HQN := Lib.hid hqn
      have hk0 : (0 : Int) ≤ (k : Int) := by omega
      have hkc : (k : Int) ≤ (cp : Int) := by omega
      have HSUM : Hid (P0.length + qn ≤ 140737488355328) := Lib.hid (by rw [hL0]; exact Nat.le_trans hpl (Nat.le_trans HLE.out.1 (by decide)))
      clear hq hps hpt hqe hq2 hqn hP0 hL0 hkl hpl
      go_wp2_with fail
      refine (lwrite_30 p y sd _ _ _ _ _ _ HX.out HS.out HQ.out HSUM.out).mono ?_
      rintro e w9 ⟨rfl, hs, hb⟩
      have hnb := HS.out.noBytes
      replace HALL := Lib.hid (fun q hq => (HALL.out q hq).buts hb hnb)
      replace HX := Lib.hid (hb.keep (by have := HPX.out; omega) HX.out)
      replace HG := Lib.hid (hb.keep (by have := HPG.out; omega) HG.out)
      replace HS := Lib.hid hs
      replace HN := Lib.hid (hb.new _ HN.out HWP.out)
      clear hb hs hnb hck
      obtain ⟨L1, hL1⟩ : ∃ L1, L0 + qn = L1 := ⟨_, rfl⟩
      rw [hL1] at HPT HPL2
      have HL1 := Lib.hid hL1
      obtain ⟨P1, hP1⟩ : ∃ P1, P0 ++ ql = P1 := ⟨_, rfl⟩
      rw [hP1] at HS HPT HPS
      have hlm : (L1 : Int) ≤ (m1 : Int) := by have := HPL2.out; omega
      have hl0 : (0 : Int) ≤ (L1 : Int) := by omega
      have hlm2 : (n1 : Int) ≤ (m1 : Int) := by omega
      have HP1L : Hid (P1.length = L1) := Lib.hid (by rw [← hP1, List.length_append, HL0.out, HQN.out, HL1.out])
      clear hL1 hP1
      have HRF := Lib.hid (fun (w' : World) (hn : New w9 w') => hash_ref30 sd a1 L1 m1 (l.take L1) w' (row_front ((HB.out.stay HN.out).stay hn) HPL2.out))
      rw [HPT.out] at HRF
      have HSU := Lib.hid (fun (w' : World) (hn : New w9 w') => HSM.out p y sd P1 w' ((hn.block _ (lt_of_block HX.out)).trans HX.out) (HS.out.stay hn))
      obtain ⟨hh, hhe⟩ : ∃ r, hash30 sd P1 = r := ⟨_, rfl⟩
      rw [hhe] at HRF HSU
      clear hhe HPT
      have heq := fun w => eqUs w hh.2 hh.1
      obtain ⟨hw1, hw1'⟩ := wrap_add L0 (qn : Int) L1 (by rw [← HL1.out]; exact (Int.natCast_add L0 qn).symm) (Nat.le_trans HPL2.out (Nat.le_trans HLE.out.1 (by decide)))
      go_wp2_with fail
      clear hw1 hw1'
      refine Gro3.wp_region_gro3S (fun w' => New w9 w') (fun w' => New w9 w') [0, 2, 0, 0, 0, 0, 2, 0, 0, 0, 2, 0, 2, 0, 0] New (fun _ _ _ => True) (by kernel_rfl) (by kernel_rfl) (by kernel_rfl) (fun _ _ _ _ _ _ => trivial) (fun w' hw' => hw') ((New.refl _).drew) ?_
      intro I J _ _ f g hfa hba hgb hbb
      have HFA := Lib.hid hfa
      have HBA := Lib.hid hba
      have HGB := Lib.hid hgb
      have HBB := Lib.hid hbb
      clear hfa hba hgb hbb
      refine Gro3.take0 1 (by kernel_rfl) ?_
      simp only [List.take, List.drop, List.length]
      repeat (go_big_quiet_step (fail))
      refine wpQuiet_nil ?_
      refine Gro3.callt (fun v => v = .agg #[.int .u64 (W64 (hh).2), .int .u64 (W64 (hh).1)]) (fun _ _ => True) rfl rfl (⟨_, rfl⟩) (fun _ _ _ _ _ => trivial) (fun w1 hB hG => ?_) (fun v1 A1 hv1 hA => ?_)
      · obtain ⟨nq, rfl⟩ := hB
        go_simp
        refine (HSU.out _ (HGB.out nq)).mono ?_
        rintro e w2 ⟨rfl, hn⟩
        have HX := HBB.out _ ((HGB.out nq).trans hn)
        first | exact ⟨_, rfl, HX, hn, rfl⟩ | exact ⟨_, rfl, HX, hn, rfl, trivial⟩ | exact ⟨rfl, HX, hn⟩ | exact ⟨HX, hn, rfl⟩ | exact ⟨HX, hn⟩
      simp [Act.put] at hA
      subst hA
      obtain rfl := hv1
      refine Gro3.take0 4 (by kernel_rfl) ?_
      simp only [List.take, List.drop, List.length]
      repeat (go_big_quiet_step (fail))
      refine wpQuiet_nil ?_
      refine Gro3.callt (fun v => v = .agg #[.int .u64 (W64 (hh).2), .int .u64 (W64 (hh).1)]) (fun _ _ => True) rfl rfl (⟨_, rfl⟩) (fun _ _ _ _ _ => trivial) (fun w1 hB hG => ?_) (fun v2 A2 hv2 hA => ?_)
      · obtain ⟨nq, rfl⟩ := hB
        go_simp
        refine (HRF.out _ (HGB.out nq)).mono ?_
        rintro e w2 ⟨rfl, hn⟩
        have HX := HBB.out _ ((HGB.out nq).trans hn)
        first | exact ⟨_, rfl, HX, hn, rfl⟩ | exact ⟨_, rfl, HX, hn, rfl, trivial⟩ | exact ⟨rfl, HX, hn⟩ | exact ⟨HX, hn, rfl⟩ | exact ⟨HX, hn⟩
      simp [Act.put] at hA
      subst hA
      obtain rfl := hv2
      refine Gro3.take0 3 (by kernel_rfl) ?_
      simp only [List.take, List.drop, List.length]
      repeat (go_big_quiet_step (fail))
      refine wpQuiet_nil ?_
      refine Gro3.callt (fun v => v = .agg #[.int .u64 (W64 (hh).2), .int .u64 (W64 (hh).1)]) (fun _ _ => True) rfl rfl (⟨_, rfl⟩) (fun _ _ _ _ _ => trivial) (fun w1 hB hG => ?_) (fun v3 A3 hv3 hA => ?_)
      · obtain ⟨nq, rfl⟩ := hB
        go_simp
        refine (HSU.out _ (HGB.out nq)).mono ?_
        rintro e w2 ⟨rfl, hn⟩
        have HX := HBB.out _ ((HGB.out nq).trans hn)
        first | exact ⟨_, rfl, HX, hn, rfl⟩ | exact ⟨_, rfl, HX, hn, rfl, trivial⟩ | exact ⟨rfl, HX, hn⟩ | exact ⟨HX, hn, rfl⟩ | exact ⟨HX, hn⟩
      simp [Act.put] at hA
      subst hA
      obtain rfl := hv3
      refine Gro3.take0 1 (by kernel_rfl) ?_
      simp only [List.take, List.drop, List.length]
      repeat (go_big_quiet_step (fail))
      refine wpQuiet_nil ?_
      refine Gro3.callt (fun v => v = .agg #[.int .u64 (W64 (hh).2), .int .u64 (W64 (hh).1)]) (fun _ _ => True) rfl rfl (⟨_, rfl⟩) (fun _ _ _ _ _ => trivial) (fun w1 hB hG => ?_) (fun v4 A4 hv4 hA => ?_)
      · obtain ⟨nq, rfl⟩ := hB
        go_simp
        refine (HSU.out _ (HGB.out nq)).mono ?_
        rintro e w2 ⟨rfl, hn⟩
        have HX := HBB.out _ ((HGB.out nq).trans hn)
        first | exact ⟨_, rfl, HX, hn, rfl⟩ | exact ⟨_, rfl, HX, hn, rfl, trivial⟩ | exact ⟨rfl, HX, hn⟩ | exact ⟨HX, hn, rfl⟩ | exact ⟨HX, hn⟩
      simp [Act.put] at hA
      subst hA
      obtain rfl := hv4
      refine Gro3.take0 2 (by kernel_rfl) ?_
      simp only [List.take, List.drop, List.length]
      repeat (go_big_quiet_step (fail))
      refine wpQuiet_nil ?_
      refine Gro3.nil ?_
      rintro w9 ⟨n9, rfl⟩ hG
      have hn := (HGB.out n9)
      clear HFA HBA HGB HBB
      replace HALL := Lib.hid (fun q hq => (HALL.out q hq).stay hn)
      replace HS := Lib.hid (HS.out.stay hn)
      replace HX := Lib.hid ((hn.block _ (lt_of_block HX.out)).trans HX.out)
      replace HG := Lib.hid ((hn.block _ (lt_of_block HG.out)).trans HG.out)
      replace HN := Lib.hid (HN.out.trans hn)
      clear hn hG HRF HSU heq
      generalize g n9 = w9 at *
      go_wp2
      refine ⟨⟨k + 1, by omega, by go_num, ?_, ?_, HX.out, HG.out, HALL.out, HN.out⟩, by simp [intOf]; omega⟩
      · rw [HPS.out, HP1L.out]
      · rw [HPS.out]; exact HS.out
    · obtain rfl : k = N := by omega
      have hpa := pre_all ps k (by rw [HPL.out]; omega)
      rw [HFL.out] at hpa
      rw [hpa] at HS ⊢
      clear hpa HCUR HALL HG
      have HSUM : Hid (([] : List (BitVec 8)).length + n1 ≤ 140737488355328) := Lib.hid (by have := HLE.out; simp; omega)
      have HS1 := Lib.hid (fun (w' : World) (hx : w'.heap[y]? = some (.cells #[.pointer (some ⟨p, 0, none⟩)] 62 (0, 0))) (hs : HStr_30 w' p sd []) => HSM.out p y sd [] w' hx hs)
      have HR1 := Lib.hid HR0.out
      obtain ⟨hh, hhe⟩ : ∃ r, hash30 sd [] = r := ⟨_, rfl⟩
      rw [hhe] at HS1 HR1
      clear hhe
      have heq := fun w => eqUs w hh.2 hh.1
      have HS2 := Lib.hid (fun (w' : World) (hx : w'.heap[y]? = some (.cells #[.pointer (some ⟨p, 0, none⟩)] 62 (0, 0))) (hs : HStr_30 w' p sd l) => HSM.out p y sd l w' hx hs)
      have HR2 := Lib.hid HRL.out
      obtain ⟨h2, hhe⟩ : ∃ r, hash30 sd l = r := ⟨_, rfl⟩
      rw [hhe] at HS2 HR2
      clear hhe
      have heq2 := fun w => eqUs w h2.2 h2.1
      go_wp2_with fail
      refine (lreset_30 p y sd _ _ HX.out HS.out).mono ?_
      rintro e w9 ⟨rfl, hs, hb⟩
      have hnb := HS.out.noBytes
      replace HX := Lib.hid (hb.keep (by have := HPX.out; omega) HX.out)
      replace HS := Lib.hid hs
      replace HN := Lib.hid (hb.new _ HN.out (HWP.out))
      clear hb hs hnb
      go_wp2_with fail
      refine (HS1.out _ HX.out HS.out).mono ?_
      rintro e w9 ⟨rfl, hn⟩
      replace HS := Lib.hid (HS.out.stay hn)
      replace HX := Lib.hid ((hn.block _ (lt_of_block HX.out)).trans HX.out)
      replace HN := Lib.hid (HN.out.trans hn)
      clear hn
      go_wp2_with fail
      refine (HR1.out _).mono ?_
      rintro e w9 ⟨rfl, hn⟩
      replace HS := Lib.hid (HS.out.stay hn)
      replace HX := Lib.hid ((hn.block _ (lt_of_block HX.out)).trans HX.out)
      replace HN := Lib.hid (HN.out.trans hn)
      clear hn
      go_wp2_with fail
      refine (lwrite_30 p y sd _ _ _ _ _ _ HX.out HS.out (HB.out.stay HN.out) HSUM.out).mono ?_
      rintro e w9 ⟨rfl, hs, hb⟩
      simp only [List.nil_append] at hs
      have hnb := HS.out.noBytes
      replace HX := Lib.hid (hb.keep (by have := HPX.out; omega) HX.out)
      replace HS := Lib.hid hs
      replace HN := Lib.hid (hb.new _ HN.out (HWP.out))
      clear hb hs hnb
      go_wp2_with fail
      refine (HS2.out _ HX.out HS.out).mono ?_
      rintro e w9 ⟨rfl, hn⟩
      replace HS := Lib.hid (HS.out.stay hn)
      replace HX := Lib.hid ((hn.block _ (lt_of_block HX.out)).trans HX.out)
      replace HN := Lib.hid (HN.out.trans hn)
      clear hn
      go_wp2_with fail
      refine (HR2.out _ HN.out).mono ?_
      rintro e w9 ⟨rfl, hn⟩
      replace HS := Lib.hid (HS.out.stay hn)
      replace HX := Lib.hid ((hn.block _ (lt_of_block HX.out)).trans HX.out)
      replace HN := Lib.hid (HN.out.trans hn)
      clear hn
      go_wp2
      go_ret
      exact ⟨rfl, HN.out⟩
end Go.Proofs.Ytnapogamcohfaaa
