import Derived.Test.YtebcfbcfipmahaaGreatZ3PolC
import Derived.Test.YtebcfbcfipmahaaGreatZ3Gro3
import Derived.Test.YtebcfbcfipmahaaGreatZ3PkC
section
/- poly.Mul. -/
namespace Go.Proofs.YtebcfbcfipmahaaGreat
open Go.RowKit Go.Bv
set_option linter.unusedVariables false
def Lies (w : World) (p : Nat) (o : Obj) : Prop := w.heap[p]? = some o
set_option maxRecDepth 100000 in
set_option maxHeartbeats 8000000 in
theorem pmul_q (a b : Option Addr) (na ca nb cb : Nat) (la lb : List (BitVec 64)) (w : World) (ha : QRow w a na ca la) (hb : QRow w b nb cb lb) (hlim : na + nb ≤ 1000000) :
    Calls Tryz.prog 152 #[.slice a na ca, .slice b nb cb] w fun e w' => ∃ a' c', e = .returned (.slice a' ((trimL (mulL la lb)).length : Nat) c') ∧ QRow w' a' (trimL (mulL la lb)).length c' (trimL (mulL la lb)) ∧ New w w' := by
  obtain ⟨i0, hi, hz0, hz1, hz2⟩ := info_parts info_u64q
  have hma := ha.most
  have hmb := hb.most
  have HHA := Lib.hid ha
  have HHB := Lib.hid hb
  have HLA := Lib.hid ha.len_eq
  have HLB := Lib.hid hb.len_eq
  clear ha hb
  obtain ⟨N, hN⟩ : ∃ N, na + nb = N := ⟨_, rfl⟩
  have hmk := run_make_row (P := Tryz.prog) 28 31 i0 (.int .u64 0) Tryz.underlying28 hi hz0 hz1 rfl .i64 .i64 N (by rw [hz2]; omega) (by omega) w
  have HM := Lib.hid (made_q N (fun _ => 0#64))
  have HMK : Hid (∀ t : Int, t = (N : Int) → (Instr.makeSlice 28 (.int .i64 t) (.int .i64 t)).run Tryz.prog w = .ok (.slice (some ⟨w.heap.size, 0, none⟩) N N) (w.alloc (.cells (madeCells #[.int .u64 0] N) 31))) := Lib.hid (by rintro t rfl; exact hmk)
  clear hmk
  go_enter Tryz.func152, Tryz.ntmps152
  go_wp2_with fail
  rw [HMK.out _ (by omega)]
  clear HMK
  go_wp2_with fail
  go_loopw [18] (fun iv wr => ∃ (i : Nat) (ca2 : Array Value), i ≤ na ∧ iv = .int .i64 (i : Int) ∧ wr.heap[w.heap.size]? = some (.cells ca2 31 (0, 0)) ∧ Hid ((ca2).size = N ∧ ∀ k, k < N → (ca2)[k]? = some (.int .u64 (W64 (mp (cs (nf la) (nf lb) i k))))) ∧ New w wr) (fun iv _ => na - (intOf iv).toNat)
  case atStart => exact ⟨0, _, Nat.zero_le _, rfl, heap_alloc_new _ _, Lib.hid ⟨HM.out.1, fun k hk => by
      rw [HM.out.2 k hk, if_neg (by omega)]
      show some (Value.int .u64 (W64 0#64)) = some (.int .u64 (W64 (mp 0)))
      rw [mp_zero]⟩, (New.refl w).alloc _⟩
  case round =>
    clear HM
    obtain ⟨i, ca2, hi2, rfl, hb, HCS, hnw⟩ := hrel
    have HB := Lib.hid hb
    have HN := Lib.hid hnw
    obtain ⟨wq, hwq⟩ : ∃ z, z = wr := ⟨_, rfl⟩
    rw [← hwq] at HB HN ⊢
    clear hb hnw hwq
    by_cases hlt : (i : Int) < (na : Int)
    · obtain ⟨b1, off1, rfl, hc1⟩ := (HHA.out.stay HN.out).addr (by omega)
      have c1 := hc1 i (by omega)
      clear hc1
      have hi0 : (0 : Int) ≤ (i : Int) := by omega
      have HXE := Lib.hid (show nf la i = (la.getD i 0).toNat from rfl)
      obtain ⟨x, hx⟩ : ∃ z, la.getD i 0 = z := ⟨_, rfl⟩
      rw [hx] at c1 HXE
      clear hx
      go_wp2_with fail
      clear c1
      go_loopw [25] (fun jv wr => ∃ (j : Nat) (ca2 : Array Value), j ≤ nb ∧ jv = .int .i64 (j : Int) ∧ wr.heap[w.heap.size]? = some (.cells ca2 31 (0, 0)) ∧ Hid ((ca2).size = N ∧ ∀ k, k < N → (ca2)[k]? = some (.int .u64 (W64 (if i ≤ k ∧ k < i + j then mp (cs (nf la) (nf lb) (i + 1) k) else mp (cs (nf la) (nf lb) i k))))) ∧ New w wr) (fun jv _ => nb - (intOf jv).toNat)
      case atStart =>
        exact ⟨0, _, Nat.zero_le _, rfl, HB.out, Lib.hid ⟨HCS.out.1, fun k hk => by rw [HCS.out.2 k hk, if_neg (by omega)]⟩, HN.out⟩
      case round =>
        clear HB HN HCS
        obtain ⟨j, ca2, hj2, rfl, hb, HCS, hnw⟩ := hrel
        have HB := Lib.hid hb
        have HN := Lib.hid hnw
        obtain ⟨wq, hwq⟩ : ∃ z, z = wr := ⟨_, rfl⟩
        rw [← hwq] at HB HN ⊢
        clear hb hnw hwq
        by_cases hlt2 : (j : Int) < (nb : Int)
        · obtain ⟨b2, off2, rfl, hc2⟩ := (HHB.out.stay HN.out).addr (by omega)
          have c2 := hc2 j (by omega)
          clear hc2
          have hj0 : (0 : Int) ≤ (j : Int) := by omega
          have hw1 : wrap64 ((i : Int) + (j : Int)) = (i : Int) + (j : Int) := by unfold wrap64; omega
          have hw2 : IntKind.i64.wrap ((i : Int) + (j : Int)) = (i : Int) + (j : Int) := by simp [IntKind.wrap, IntKind.bits, IntKind.signed]; omega
          have hij1 : ((i : Int) + (j : Int)).toNat = i + j := by omega
          have hij2 : (0 : Int) ≤ (i : Int) + (j : Int) := by omega
          have hij3 : (i : Int) + (j : Int) < (N : Int) := by omega
          have HCL : Hid (ca2[i + j]? = some (.int .u64 (W64 (mp (cs (nf la) (nf lb) i (i + j)))))) := Lib.hid (by rw [HCS.out.2 (i + j) (by omega), if_neg (by omega)])
          have HST : Hid (mp ((mp (cs (nf la) (nf lb) i (i + j))).toNat + (mp (x.toNat * (lb.getD j 0).toNat)).toNat) = mp (cs (nf la) (nf lb) (i + 1) (i + j))) := Lib.hid (by
            rw [mp_add]
            show _ = mp (cs (nf la) (nf lb) i (i + j) + (if i ≤ i + j then nf la i * nf lb (i + j - i) else 0))
            rw [if_pos (by omega), HXE.out, Nat.add_sub_cancel_left]; rfl)
          obtain ⟨y, hy⟩ : ∃ z, lb.getD j 0 = z := ⟨_, rfl⟩
          rw [hy] at c2 HST
          clear hy
          obtain ⟨v, hv⟩ : ∃ z, mp (cs (nf la) (nf lb) i (i + j)) = z := ⟨_, rfl⟩
          rw [hv] at HCL HST
          clear hv
          have HMU := Lib.hid (fun w => mmul_p x y w)
          obtain ⟨m1, hm1⟩ : ∃ z, mp (x.toNat * y.toNat) = z := ⟨_, rfl⟩
          rw [hm1] at HMU HST
          clear hm1
          have HAD := Lib.hid (fun w => madd_p v m1 w)
          obtain ⟨s1, hs1⟩ : ∃ z, mp (v.toNat + m1.toNat) = z := ⟨_, rfl⟩
          rw [hs1] at HAD HST
          clear hs1
          go_wp2_with fail
          clear c2
          refine Gro3.wp_region_gro3S (fun w' => (∃ c9 : Array Value, w'.heap[w.heap.size]? = some (.cells c9 31 (0, 0))) ∧ New w w') (fun w' => w'.heap[w.heap.size]? = some (.cells ca2 31 (0, 0)) ∧ New w w') [0,0,0,0,0,0,0,0,0,1,0,0,2,2,0,3] New (fun _ _ _ => True) (by kernel_rfl) (by kernel_rfl) (by kernel_rfl) (fun _ _ _ _ _ _ => trivial) (fun w' hw' => ⟨⟨_, hw'.1⟩, hw'.2⟩) (⟨HB.out, HN.out.drew⟩) ?_
          intro I J _ _ f g hfa hba hgb hbb
          have HFA := Lib.hid hfa
          have HBA := Lib.hid hba
          have HGB := Lib.hid hgb
          have HBB := Lib.hid hbb
          have fa := fun n => (cell_of_row (g n) _ (i + j) _ _ _ (hgb n).1).trans HCL.out
          clear hfa hba hgb hbb
          refine Gro3.take0 9 (by kernel_rfl) ?_
          simp only [List.take, List.drop, List.length]
          repeat (go_big_quiet_step (fail))
          refine wpQuiet_nil ?_
          refine Gro3.take1 1 (by kernel_rfl) ?_
          simp only [List.take, List.drop, List.length]
          repeat (go_big_quiet_step (fail))
          refine wpQuiet_nil ?_
          refine Gro3.take0 2 (by kernel_rfl) ?_
          simp only [List.take, List.drop, List.length]
          repeat (go_big_quiet_step (fail))
          refine wpQuiet_nil ?_
          refine Gro3.callt (fun v => v = .int .u64 (W64 m1)) (fun _ _ => True) rfl rfl (⟨_, rfl⟩) (fun _ _ _ _ _ => trivial) (fun w1 hB hG => ?_) (fun v1 A1 hv1 hA => ?_)
          · obtain ⟨nq, rfl⟩ := hB
            clear fa
            go_simp
            refine (HMU.out _).mono ?_
            rintro e w2 ⟨rfl, hn⟩
            have HX := HBB.out _ ⟨(hn.block _ (lt_of_block (HGB.out nq).1)).trans (HGB.out nq).1, (HGB.out nq).2.trans hn⟩
            first | exact ⟨_, rfl, HX, hn, rfl⟩ | exact ⟨_, rfl, HX, hn, rfl, trivial⟩ | exact ⟨rfl, HX, hn⟩ | exact ⟨HX, hn, rfl⟩ | exact ⟨HX, hn⟩
          simp [Act.put] at hA
          subst hA
          obtain rfl := hv1
          refine Gro3.callt (fun v => v = .int .u64 (W64 s1)) (fun _ _ => True) rfl rfl (⟨_, rfl⟩) (fun _ _ _ _ _ => trivial) (fun w1 hB hG => ?_) (fun v2 A2 hv2 hA => ?_)
          · obtain ⟨nq, rfl⟩ := hB
            clear fa
            go_simp
            refine (HAD.out _).mono ?_
            rintro e w2 ⟨rfl, hn⟩
            have HX := HBB.out _ ⟨(hn.block _ (lt_of_block (HGB.out nq).1)).trans (HGB.out nq).1, (HGB.out nq).2.trans hn⟩
            first | exact ⟨_, rfl, HX, hn, rfl⟩ | exact ⟨_, rfl, HX, hn, rfl, trivial⟩ | exact ⟨rfl, HX, hn⟩ | exact ⟨HX, hn, rfl⟩ | exact ⟨HX, hn⟩
          simp [Act.put] at hA
          subst hA
          obtain rfl := hv2
          refine Gro3.take0 1 (by kernel_rfl) ?_
          simp only [List.take, List.drop, List.length]
          repeat (go_big_quiet_step (fail))
          refine wpQuiet_nil ?_
          refine Gro3.turn (fun v => v = undef) (fun _ w9 => Lies w9 w.heap.size (.cells (ca2.setIfInBounds (i + j) (.int .u64 (W64 s1))) 31 (0, 0))) rfl rfl ⟨_, rfl⟩ (fun w1 hB hG => ?_) (fun v3 A3 hv3 hA => ?_)
          · obtain ⟨nq, rfl⟩ : ∃ nq, w1 = g nq := hB
            have HX := Lib.hid (HGB.out nq)
            have c0 := (cell_of_row (g nq) _ (i + j) _ _ _ HX.out.1).trans HCL.out
            have cf := fun i => frozen_of_row _ _ i _ _ HX.out.1
            have h0 := heap_setCell_same (g nq) w.heap.size (i + j) _ _ (.int .u64 (W64 s1)) HX.out.1
            have HLI := Lib.hid (show Lies _ _ _ from h0)
            clear h0 fa
            go_simp
            exact ⟨HBA.out _ ⟨⟨_, HLI.out⟩, HX.out.2.setCell (Nat.le_refl _) _⟩, HLI.out⟩
          simp [Act.put] at hA
          subst hA
          refine Gro3.nil ?_
          rintro w11 ⟨n9, rfl⟩ hG
          have hF := HFA.out n9
          have HB2 := Lib.hid (show (f n9).heap[w.heap.size]? = _ from hG)
          replace HN := Lib.hid hF.2
          clear HFA HBA HGB HBB hG hF fa HMU HAD HB hw1 hw2 hij1 hij2 hij3
          generalize f n9 = w9 at *
          go_wp2
          refine ⟨⟨j + 1, _, by omega, by go_num, HB2.out, Lib.hid ⟨by rw [Array.size_setIfInBounds]; exact HCS.out.1, ?_⟩, HN.out⟩, by simp [intOf]; omega⟩
          intro k hk
          have hs := HCS.out.1
          rw [Array.getElem?_setIfInBounds]
          by_cases e : i + j = k
          · subst e
            rw [if_pos rfl, if_pos (by omega), if_pos (by omega), HST.out]
          · rw [if_neg e, HCS.out.2 k hk]
            refine congrArg (fun d => some (Value.int .u64 (W64 d))) ?_
            by_cases e2 : i ≤ k ∧ k < i + j
            · rw [if_pos e2, if_pos (by omega)]
            · rw [if_neg e2, if_neg (by omega)]
        · obtain rfl : j = nb := by omega
          go_wp2
          refine ⟨⟨i + 1, _, by omega, by go_num, HB.out, Lib.hid ⟨HCS.out.1, ?_⟩, HN.out⟩, by simp [intOf]; omega⟩
          intro k hk
          rw [HCS.out.2 k hk]
          refine congrArg (fun d => some (Value.int .u64 (W64 d))) ?_
          by_cases e2 : i ≤ k ∧ k < i + j
          · rw [if_pos e2]
          · rw [if_neg e2]
            show _ = mp (cs (nf la) (nf lb) i k + (if i ≤ k then nf la i * nf lb (k - i) else 0))
            by_cases e3 : i ≤ k
            · rw [if_pos e3, nf_far lb (k - i) (by rw [HLB.out]; omega), Nat.mul_zero]; rfl
            · rw [if_neg e3]; rfl
    · obtain rfl : i = na := by omega
      have HQR : Hid (QRow wq (some ⟨w.heap.size, 0, none⟩) N N (mulL la lb)) := Lib.hid (by
        refine ⟨by unfold mulL; rw [mulP_len, HLA.out, HLB.out]; exact hN, Nat.le_refl _, by omega, by omega, (fun e => by cases e), ?_, ?_, ?_⟩
        · intro b off e k hk
          cases e
          rw [Nat.zero_add, cell_of_row _ _ _ _ _ _ HB.out, HCS.out.2 k hk]
          unfold mulL
          rw [mulP_get _ _ _ k (by rw [HLA.out, HLB.out]; omega), ← cs_len, HLA.out]
        · intro x e h; cases e; rfl
        · intro x e h; cases e; exact lt_of_block HB.out)
      have HT := Lib.hid (trim_q _ _ _ _ _ HQR.out)
      clear HB HCS
      go_wp2_with fail
      refine (HT.out).mono ?_
      rintro e w9 ⟨a2, c2, rfl, hq, hn9⟩
      have HQ := Lib.hid hq
      replace HN := Lib.hid (HN.out.trans hn9)
      clear hq hn9 HT
      go_wp2
      go_ret
      exact ⟨a2, c2, rfl, HQ.out, HN.out⟩
end Go.Proofs.YtebcfbcfipmahaaGreat
end
section
/- poly.Add. -/
namespace Go.Proofs.YtebcfbcfipmahaaGreat
open Go.RowKit Go.Bv
set_option linter.unusedVariables false
set_option maxRecDepth 100000 in
set_option maxHeartbeats 2000000 in
theorem tk_A (p q : Nat) (a b : Option Addr) (na ca nb cb : Nat) (la lb : List (BitVec 64)) (i : Nat) (w : World) (hp : w.heap[p]? = some (.cells #[.slice a na ca] 28 (0, 0))) (hq : w.heap[q]? = some (.cells #[.slice b nb cb] 28 (0, 0))) (ha : QRow w a na ca la) (hb : QRow w b nb cb lb) :
    Calls Tryz.prog 168 #[.int .i64 (i : Int), .pointer (some ⟨p, 0, none⟩), .pointer (some ⟨q, 0, none⟩)] w fun e w' => e = .returned (.int .u64 (W64 (mp ((cm la i).toNat + (cm lb i).toNat)))) ∧ New w w' := by
  have HCA := Lib.hid (fun w' (hn : New w w') => coef_q a na ca la i w' (ha.stay hn))
  have HCB := Lib.hid (fun w' (hn : New w w') => coef_q b nb cb lb i w' (hb.stay hn))
  have HP := Lib.hid hp
  have HQ := Lib.hid hq
  clear hp hq ha hb
  obtain ⟨x, hx⟩ : ∃ z, cm la i = z := ⟨_, rfl⟩
  obtain ⟨y, hy⟩ : ∃ z, cm lb i = z := ⟨_, rfl⟩
  rw [hx] at HCA
  rw [hy] at HCB
  rw [hx, hy]
  clear hx hy
  have HS := Lib.hid (fun w => madd_p x y w)
  obtain ⟨s, hs⟩ : ∃ z, mp (x.toNat + y.toNat) = z := ⟨_, rfl⟩
  rw [hs] at HS
  rw [hs]
  clear hs
  go_enter Tryz.func168, Tryz.ntmps168
  go_wp2_with fail
  refine Gro3.wp_region_gro3S (fun w' => w'.heap[p]? = some (.cells #[.slice a na ca] 28 (0, 0)) ∧ w'.heap[q]? = some (.cells #[.slice b nb cb] 28 (0, 0)) ∧ New w w') (fun w' => w'.heap[p]? = some (.cells #[.slice a na ca] 28 (0, 0)) ∧ w'.heap[q]? = some (.cells #[.slice b nb cb] 28 (0, 0)) ∧ New w w') [0,0,2,0,0,2,2,0] New (fun _ _ _ => True) (by kernel_rfl) (by kernel_rfl) (by kernel_rfl) (fun _ _ _ _ _ _ => trivial) (fun w' hw' => hw') (⟨HP.out, HQ.out, (New.refl w).drew⟩) ?_
  intro I J _ _ f g hfa hba hgb hbb
  have HFA := Lib.hid hfa
  have HBA := Lib.hid hba
  have HGB := Lib.hid hgb
  have HBB := Lib.hid hbb
  have fa := fun n => cell_of_row _ _ 0 _ _ _ (hfa n).1
  have fb := fun n => cell_of_row _ _ 0 _ _ _ (hfa n).2.1
  clear hfa hba hgb hbb
  refine Gro3.take0 2 (by kernel_rfl) ?_
  simp only [List.take, List.drop, List.length]
  repeat (go_big_quiet_step (fail))
  refine wpQuiet_nil ?_
  refine Gro3.callt (fun v => v = .int .u64 (W64 x)) (fun _ _ => True) rfl rfl (⟨_, rfl⟩) (fun _ _ _ _ _ => trivial) (fun w1 hB hG => ?_) (fun v1 A1 hv1 hA => ?_)
  · obtain ⟨nq, rfl⟩ := hB
    clear fa fb
    go_simp
    refine (HCA.out _ (HGB.out nq).2.2).mono ?_
    rintro e w2 ⟨rfl, rfl⟩
    first | exact ⟨_, rfl, ⟨nq, rfl⟩, New.refl _, rfl⟩ | exact ⟨_, rfl, ⟨nq, rfl⟩, New.refl _, rfl, trivial⟩ | exact ⟨⟨nq, rfl⟩, New.refl _⟩
  simp [Act.put] at hA
  subst hA
  obtain rfl := hv1
  refine Gro3.take0 2 (by kernel_rfl) ?_
  simp only [List.take, List.drop, List.length]
  repeat (go_big_quiet_step (fail))
  refine wpQuiet_nil ?_
  refine Gro3.callt (fun v => v = .int .u64 (W64 y)) (fun _ _ => True) rfl rfl (⟨_, rfl⟩) (fun _ _ _ _ _ => trivial) (fun w1 hB hG => ?_) (fun v2 A2 hv2 hA => ?_)
  · obtain ⟨nq, rfl⟩ := hB
    clear fa fb
    go_simp
    refine (HCB.out _ (HGB.out nq).2.2).mono ?_
    rintro e w2 ⟨rfl, rfl⟩
    first | exact ⟨_, rfl, ⟨nq, rfl⟩, New.refl _, rfl⟩ | exact ⟨_, rfl, ⟨nq, rfl⟩, New.refl _, rfl, trivial⟩ | exact ⟨⟨nq, rfl⟩, New.refl _⟩
  simp [Act.put] at hA
  subst hA
  obtain rfl := hv2
  refine Gro3.callt (fun v => v = .int .u64 (W64 s)) (fun _ _ => True) rfl rfl (⟨_, rfl⟩) (fun _ _ _ _ _ => trivial) (fun w1 hB hG => ?_) (fun v3 A3 hv3 hA => ?_)
  · obtain ⟨nq, rfl⟩ := hB
    clear fa fb
    go_simp
    refine (HS.out _).mono ?_
    rintro e w2 ⟨rfl, hn⟩
    have HX := HBB.out _ ⟨(hn.block _ (lt_of_block (HGB.out nq).1)).trans (HGB.out nq).1, (hn.block _ (lt_of_block (HGB.out nq).2.1)).trans (HGB.out nq).2.1, (HGB.out nq).2.2.trans hn⟩
    first | exact ⟨_, rfl, HX, hn, rfl⟩ | exact ⟨_, rfl, HX, hn, rfl, trivial⟩ | exact ⟨rfl, HX, hn⟩ | exact ⟨HX, hn, rfl⟩ | exact ⟨HX, hn⟩
  simp [Act.put] at hA
  subst hA
  obtain rfl := hv3
  refine Gro3.take0 1 (by kernel_rfl) ?_
  simp only [List.take, List.drop, List.length]
  repeat (go_big_quiet_step (fail))
  refine wpQuiet_nil ?_
  refine Gro3.nil ?_
  rintro w11 ⟨n9, rfl⟩ hG
  have HNZ := Lib.hid (HGB.out n9).2.2
  clear HFA HBA HGB HBB hG fa fb HCA HCB HS HP HQ
  generalize g n9 = w9 at *
  go_wp2
  go_ret
  exact ⟨rfl, HNZ.out⟩
set_option maxRecDepth 100000 in
set_option maxHeartbeats 4000000 in
theorem collect_A (n : Nat) (f : Nat → BitVec 64) (p q : Nat) (w : World) (hn : n ≤ 17592186044416) (hh : ∀ (w' : World) (i : Nat), New w w' → i < n → Calls Tryz.prog 168 #[.int .i64 (i : Int), .pointer (some ⟨p, 0, none⟩), .pointer (some ⟨q, 0, none⟩)] w' fun e w'' => e = .returned (.int .u64 (W64 (f i))) ∧ New w' w'') :
    Calls Tryz.prog 164 #[.int .i64 (n : Int), .func (Fn.func 168) #[] #[.pointer (some ⟨p, 0, none⟩), .pointer (some ⟨q, 0, none⟩)]] w fun e w' => ∃ a c, e = .returned (.slice a (topF f n : Nat) c) ∧ QRow w' a (topF f n) c (trimF f n) ∧ New w w' := by
  obtain ⟨i0, hi, hz0, hz1, hz2⟩ := info_parts info_u64q
  have H := Lib.hid hh
  have HTG : Hid (∀ i, i < topF f n → f i = (trimF f n).getD i 0) := Lib.hid (fun i hi => by
    unfold trimF
    rw [List.getD_eq_getElem?_getD, List.getElem?_map, List.getElem?_range hi]; rfl)
  clear hh
  go_enter Tryz.func164, Tryz.ntmps164
  go_wp2_with fail
  go_step3
  go_wp2_with fail
  go_step3
  go_wp2_with fail
  go_loopw [0] (fun mv wr => ∃ m : Nat, m ≤ n ∧ mv = .int .i64 (m : Int) ∧ topF f n = topF f m ∧ New w wr) (fun mv _ => (intOf mv).toNat)
  case atStart => exact ⟨n, Nat.le_refl _, rfl, rfl, New.refl w⟩
  case round =>
    obtain ⟨m, hm, rfl, htop, hnw⟩ := hrel
    have HT := Lib.hid htop
    have HN := Lib.hid hnw
    have HMN := Lib.hid hm
    clear htop hnw
    by_cases hpos : (0 : Int) < (m : Int)
    · have HF := Lib.hid (H.out wr (m - 1) HN.out (by omega))
      have hm1 : ((m - 1 : Nat) : Int) = (m : Int) - 1 := by omega
      rw [hm1] at HF
      have hmw : wrap64 ((m : Int) - 1) = (m : Int) - 1 := by unfold wrap64; omega
      by_cases hf0 : f (m - 1) = 0#64
      · rw [hf0, lo_zero] at HF
        have HTT : Hid (topF f n = topF f (m - 1)) := Lib.hid (by
          rw [HT.out, show m = (m - 1) + 1 by omega, show m - 1 + 1 - 1 = m - 1 by omega]
          show (if f (m - 1) = 0#64 then topF f (m - 1) else m - 1 + 1) = _
          rw [if_pos hf0])
        clear hf0
        go_wp2_with fail
        refine (HF.out).mono ?_
        rintro e w9 ⟨rfl, hn9⟩
        replace HN := Lib.hid (HN.out.trans hn9)
        clear hn9 HF
        go_wp2
        exact ⟨⟨m - 1, by omega, by rw [hm1], HTT.out, HN.out⟩, by simp [intOf]; omega⟩
      · have HTT : Hid (topF f n = m) := Lib.hid (by
          rw [HT.out, show m = (m - 1) + 1 by omega]
          show (if f (m - 1) = 0#64 then topF f (m - 1) else m - 1 + 1) = _
          rw [if_neg hf0])
        have hne : (f (m - 1) == 0#64) = false := by rw [beq_eq_false_iff_ne]; exact hf0
        clear hf0
        obtain ⟨y, hy⟩ : ∃ z, f (m - 1) = z := ⟨_, rfl⟩
        rw [hy] at HF hne
        clear hy HT
        have hne2 : (y != 0#64) = true := by rw [bne, hne]; rfl
        go_wp2_with fail
        refine (HF.out).mono ?_
        rintro e w9 ⟨rfl, hn9⟩
        replace HN := Lib.hid (HN.out.trans hn9)
        clear hn9 HF
        go_wp2_with fail
        clear hne hne2 hmw hm1
        obtain ⟨W1, hW1⟩ : ∃ z, z = w9 := ⟨_, rfl⟩
        rw [← hW1] at HN ⊢
        clear hW1
        have hmk := run_make_row (P := Tryz.prog) 28 31 i0 (.int .u64 0) Tryz.underlying28 hi hz0 hz1 rfl .i64 .i64 m (by rw [hz2]; omega) (by omega) W1
        have HM := Lib.hid (made_q m f)
        have hmk1 : Hid (∀ t : Int, t = ((m : Nat) : Int) → (Instr.makeSlice 28 (.int .i64 t) (.int .i64 t)).run Tryz.prog W1 = .ok (.slice (some ⟨W1.heap.size, 0, none⟩) m m) (W1.alloc (.cells (madeCells #[.int .u64 0] m) 31))) := Lib.hid (by rintro t rfl; exact hmk)
        clear hmk
        rw [hmk1.out _ rfl]
        go_wp2
        go_loopw [20] (fun iv wq => ∃ (k : Nat) (cs : Array Value), k ≤ m ∧ iv = .int .i64 (k : Int) ∧ wq.heap[W1.heap.size]? = some (.cells cs 31 (0, 0)) ∧ Hid (cs.size = m ∧ ∀ j, j < m → cs[j]? = some (.int .u64 (W64 (if j < k then f j else 0#64)))) ∧ New W1 wq) (fun iv _ => m - (intOf iv).toNat)
        case atStart => exact ⟨0, _, Nat.zero_le _, rfl, heap_alloc_new _ _, HM, (New.refl W1).alloc _⟩
        case round =>
          obtain ⟨k, cs, hk, rfl, hb1, HCS, hn2⟩ := hrel
          have HB1 := Lib.hid hb1
          have HN2 := Lib.hid hn2
          obtain ⟨wq, hwq⟩ : ∃ z, z = wr := ⟨_, rfl⟩
          rw [← hwq] at HB1 HN2 ⊢
          clear hb1 hn2 hwq
          by_cases hlt : (k : Int) < ((m : Nat) : Int)
          · have HTK := Lib.hid (H.out wq k (HN.out.trans HN2.out) (by omega))
            obtain ⟨y, hy⟩ : ∃ z, f k = z := ⟨_, rfl⟩
            rw [hy] at HTK
            have HY := Lib.hid hy
            clear hy
            have hk0 : (0 : Int) ≤ (k : Int) := by omega
            go_wp2_with fail
            refine (HTK.out).mono ?_
            rintro e w9 ⟨rfl, hn3⟩
            replace HB1 := Lib.hid ((hn3.block _ (lt_of_block HB1.out)).trans HB1.out)
            replace HN2 := Lib.hid (HN2.out.trans hn3)
            clear hn3 HTK
            have hcell : w9.cell? ⟨W1.heap.size, k, none⟩ = some (.int .u64 (W64 (if k < k then f k else 0#64))) := by
              rw [cell_of_row _ _ _ _ _ _ HB1.out]; exact HCS.out.2 k (by omega)
            have hfree := frozen_of_row w9 W1.heap.size k cs _ HB1.out
            have hd := heap_setCell_same w9 W1.heap.size k cs _ (.int .u64 (W64 y)) HB1.out
            have HD := Lib.hid hd
            clear hd
            go_wp2
            refine ⟨⟨k + 1, _, by omega, by go_num, HD.out, Lib.hid ⟨by rw [Array.size_setIfInBounds]; exact HCS.out.1, ?_⟩, HN2.out.setCell (Nat.le_refl _) _⟩, by simp [intOf]; omega⟩
            intro j hj
            have hs := HCS.out.1
            rw [Array.getElem?_setIfInBounds]
            by_cases e : k = j
            · subst e
              rw [if_pos rfl, if_pos (by omega), if_pos (by omega), HY.out]
            · rw [if_neg e, HCS.out.2 j hj]
              refine congrArg (fun d => some (Value.int .u64 (W64 d))) ?_
              by_cases e2 : j < k
              · rw [if_pos e2, if_pos (by omega)]
              · rw [if_neg e2, if_neg (by omega)]
          · have hkm : k = m := by omega
            go_wp2
            go_ret
            have HMM := HTT.out
            rw [HMM]
            refine ⟨_, _, rfl, ?_, HN.out.trans HN2.out⟩
            refine ⟨by rw [trimF_len]; exact HMM, Nat.le_refl _, by omega, by omega, (fun e => by cases e), ?_, ?_, ?_⟩
            · intro b off e i hi
              cases e
              rw [Nat.zero_add, cell_of_row _ _ _ _ _ _ HB1.out, HCS.out.2 i hi, if_pos (by omega), HTG.out i (by rw [HMM]; exact hi)]
            · intro x e h; cases e; rfl
            · intro x e h; cases e; exact lt_of_block HB1.out
    · obtain rfl : m = 0 := by omega
      have HTT : Hid (topF f n = 0) := Lib.hid (by rw [HT.out]; rfl)
      clear HT
      go_wp2_with fail
      obtain ⟨W1, hW1⟩ : ∃ z, z = wr := ⟨_, rfl⟩
      rw [← hW1] at HN ⊢
      clear hW1
      have hmk := run_make_row (P := Tryz.prog) 28 31 i0 (.int .u64 0) Tryz.underlying28 hi hz0 hz1 rfl .i64 .i64 0 (by rw [hz2]; omega) (by omega) W1
      have HM := Lib.hid (made_q 0 f)
      have hmk1 : Hid (∀ t : Int, t = ((0 : Nat) : Int) → (Instr.makeSlice 28 (.int .i64 t) (.int .i64 t)).run Tryz.prog W1 = .ok (.slice (some ⟨W1.heap.size, 0, none⟩) 0 0) (W1.alloc (.cells (madeCells #[.int .u64 0] 0) 31))) := Lib.hid (by rintro t rfl; exact hmk)
      clear hmk
      rw [hmk1.out 0 rfl]
      go_wp2
      go_loopw [20] (fun iv wq => ∃ (k : Nat) (cs : Array Value), k ≤ 0 ∧ iv = .int .i64 (k : Int) ∧ wq.heap[W1.heap.size]? = some (.cells cs 31 (0, 0)) ∧ Hid (cs.size = 0 ∧ ∀ j, j < 0 → cs[j]? = some (.int .u64 (W64 (if j < k then f j else 0#64)))) ∧ New W1 wq) (fun iv _ => 0 - (intOf iv).toNat)
      case atStart => exact ⟨0, _, Nat.zero_le _, rfl, heap_alloc_new _ _, HM, (New.refl W1).alloc _⟩
      case round =>
        obtain ⟨k, cs, hk, rfl, hb1, HCS, hn2⟩ := hrel
        have HB1 := Lib.hid hb1
        have HN2 := Lib.hid hn2
        obtain ⟨wq, hwq⟩ : ∃ z, z = wr := ⟨_, rfl⟩
        rw [← hwq] at HB1 HN2 ⊢
        clear hb1 hn2 hwq
        by_cases hlt : (k : Int) < ((0 : Nat) : Int)
        · exfalso; omega
        · have hkm : k = 0 := by omega
          go_wp2
          go_ret
          have HMM := HTT.out
          rw [HMM]
          refine ⟨_, _, rfl, ?_, HN.out.trans HN2.out⟩
          refine ⟨by rw [trimF_len]; exact HMM, Nat.le_refl _, by omega, by omega, (fun e => by cases e), ?_, ?_, ?_⟩
          · intro b off e i hi
            cases e
            rw [Nat.zero_add, cell_of_row _ _ _ _ _ _ HB1.out, HCS.out.2 i hi, if_pos (by omega), HTG.out i (by rw [HMM]; exact hi)]
          · intro x e h; cases e; rfl
          · intro x e h; cases e; exact lt_of_block HB1.out
set_option maxHeartbeats 2000000 in
theorem padd_q (a b : Option Addr) (na ca nb cb : Nat) (la lb : List (BitVec 64)) (w : World) (ha : QRow w a na ca la) (hb : QRow w b nb cb lb) :
    Calls Tryz.prog 151 #[.slice a na ca, .slice b nb cb] w fun e w' => ∃ a' c', e = .returned (.slice a' ((trimL (addL la lb)).length : Nat) c') ∧ QRow w' a' (trimL (addL la lb)).length c' (trimL (addL la lb)) ∧ New w w' := by
  have hma := ha.most
  have hmb := hb.most
  have hmf : ∀ (fn : Fn) (first cap : Array Value) (w : World), (Instr.makeFunc fn first cap).run Tryz.prog w = .ok (.func fn first cap) w := fun _ _ _ _ => rfl
  have HZ := two_blocks w (.cells #[.slice a na ca] 28) (.cells #[.slice b nb cb] 28)
  have HB0 := Lib.hid HZ.1
  have HB1 := Lib.hid HZ.2.1
  have HN := Lib.hid HZ.2.2
  obtain ⟨N, hN⟩ : ∃ N, max na nb = N := ⟨_, rfl⟩
  have HC := Lib.hid (collect_A N (fun i => mp ((cm la i).toNat + (cm lb i).toNat)) w.heap.size (w.heap.size + 1) ((w.alloc (.cells #[.slice a na ca] 28)).alloc (.cells #[.slice b nb cb] 28)) (by omega) (fun w' i hn hi => tk_A w.heap.size (w.heap.size + 1) a b na ca nb cb la lb i w' ((hn.block _ (lt_of_block HB0.out)).trans HB0.out) ((hn.block _ (lt_of_block HB1.out)).trans HB1.out) (ha.stay (HN.out.trans hn)) (hb.stay (HN.out.trans hn))))
  have HE : Hid (trimF (fun i => mp ((cm la i).toNat + (cm lb i).toNat)) N = trimL (addL la lb) ∧ topF (fun i => mp ((cm la i).toNat + (cm lb i).toNat)) N = (trimL (addL la lb)).length) := Lib.hid (by
    have h1 := addF_eq la lb N (by rw [ha.len_eq, hb.len_eq]; exact hN.symm)
    refine ⟨h1, ?_⟩
    rw [← h1, trimF_len])
  rw [HE.out.1, HE.out.2] at HC
  have k0 := cell_of_row _ _ 0 _ _ _ HB0.out
  have k1 := cell_of_row _ _ 0 _ _ _ HB1.out
  have hmx : max (na : Int) (nb : Int) = (N : Int) := by omega
  clear ha hb HZ HE hN
  go_enter Tryz.func151, Tryz.ntmps151
  go_wp2_with fail
  refine (HC.out).mono ?_
  rintro e w9 ⟨a2, c2, rfl, hq, hn⟩
  have HQ := Lib.hid hq
  have HN2 := Lib.hid (HN.out.trans hn)
  clear hq hn HC
  go_wp2
  go_ret
  exact ⟨a2, c2, rfl, HQ.out, HN2.out⟩
end Go.Proofs.YtebcfbcfipmahaaGreat
end
