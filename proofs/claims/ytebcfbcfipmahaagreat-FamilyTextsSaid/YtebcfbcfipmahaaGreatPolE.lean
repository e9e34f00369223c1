/- poly.Mul. -/
import Derived.Test.YtebcfbcfipmahaaGreatPolC
import Derived.Test.YtebcfbcfipmahaaGreatGro3
namespace Go.Proofs.YtebcfbcfipmahaaGreat
open Go.RowKit Go.Bv
set_option linter.unusedVariables false
def Lies (w : World) (p : Nat) (o : Obj) : Prop := w.heap[p]? = some o
set_option maxRecDepth 100000 in
set_option maxHeartbeats 8000000 in
theorem pmul_q (a b : Option Addr) (na ca nb cb : Nat) (la lb : List (BitVec 64)) (w : World) (ha : QRow w a na ca la) (hb : QRow w b nb cb lb) (hlim : na + nb ≤ 1000000) :
    Calls Tryz.prog 152 #[.slice a na ca, .slice b nb cb] w fun e w' => ∃ a' c', e = .returned (.slice a' ((trimL (mulL la lb)).length : Nat) c') ∧ QRow w' a' (trimL (mulL la lb)).length c' (trimL (mulL la lb)) ∧ New w w' := by
  obtain ⟨i0, hi, hz0, hz1, hz2⟩ := info_parts info_u64q
  have hma := ha.most
  have hmb := hb.most
  have HHA := Lib.hid ha
  have HHB := Lib.hid hb
  have HLA := Lib.hid ha.len_eq
  have HLB := Lib.hid hb.len_eq
  clear ha hb
  obtain ⟨N, hN⟩ : ∃ N, na + nb = N := ⟨_, rfl⟩
  have hmk := run_make_row (P := Tryz.prog) 28 31 i0 (.int .u64 0) Tryz.underlying28 hi hz0 hz1 rfl .i64 .i64 N (by rw [hz2]; omega) (by omega) w
  have HM := Lib.hid (made_q N (fun _ => 0#64))
  have HMK : Hid (∀ t : Int, t = (N : Int) → (Instr.makeSlice 28 (.int .i64 t) (.int .i64 t)).run Tryz.prog w = .ok (.slice (some ⟨w.heap.size, 0, none⟩) N N) (w.alloc (.cells (madeCells #[.int .u64 0] N) 31))) := Lib.hid (by rintro t rfl; exact hmk)
  clear hmk
  go_enter Tryz.func152, Tryz.ntmps152
  go_wp2_with fail
  rw [HMK.out _ (by omega)]
  clear HMK
  go_wp2_with fail
  go_loopw [18] (fun iv wr => ∃ (i : Nat) (ca2 : Array Value), i ≤ na ∧ iv = .int .i64 (i : Int) ∧ wr.heap[w.heap.size]? = some (.cells ca2 31 (0, 0)) ∧ Hid ((ca2).size = N ∧ ∀ k, k < N → (ca2)[k]? = some (.int .u64 (W64 (mp (cs (nf la) (nf lb) i k))))) ∧ New w wr) (fun iv _ => na - (intOf iv).toNat)
  case atStart => exact ⟨0, _, Nat.zero_le _, rfl, heap_alloc_new _ _, Lib.hid ⟨HM.out.1, fun k hk => by
      rw [HM.out.2 k hk, if_neg (by omega)]
      show some (Value.int .u64 (W64 0#64)) = some (.int .u64 (W64 (mp 0)))
      rw [mp_zero]⟩, (New.refl w).alloc _⟩
  case round =>
    clear HM
    obtain ⟨i, ca2, hi2, rfl, hb, HCS, hnw⟩ := hrel
    have HB := Lib.hid hb
    have HN := Lib.hid hnw
    obtain ⟨wq, hwq⟩ : ∃ z, z = wr := ⟨_, rfl⟩
    rw [← hwq] at HB HN ⊢
    clear hb hnw hwq
    by_cases hlt : (i : Int) < (na : Int)
    · obtain ⟨b1, off1, rfl, hc1⟩ := (HHA.out.stay HN.out).addr (by omega)
      have c1 := hc1 i (by omega)
      clear hc1
      have hi0 : (0 : Int) ≤ (i : Int) := by omega
      have HXE := Lib.hid (show nf la i = (la.getD i 0).toNat from rfl)
      obtain ⟨x, hx⟩ : ∃ z, la.getD i 0 = z := ⟨_, rfl⟩
      rw [hx] at c1 HXE
      clear hx
      go_wp2_with fail
      clear c1
      go_loopw [25] (fun jv wr => ∃ (j : Nat) (ca2 : Array Value), j ≤ nb ∧ jv = .int .i64 (j : Int) ∧ wr.heap[w.heap.size]? = some (.cells ca2 31 (0, 0)) ∧ Hid ((ca2).size = N ∧ ∀ k, k < N → (ca2)[k]? = some (.int .u64 (W64 (if i ≤ k ∧ k < i + j then mp (cs (nf la) (nf lb) (i + 1) k) else mp (cs (nf la) (nf lb) i k))))) ∧ New w wr) (fun jv _ => nb - (intOf jv).toNat)
      case atStart =>
        exact ⟨0, _, Nat.zero_le _, rfl, HB.out, Lib.hid ⟨HCS.out.1, fun k hk => by rw [HCS.out.2 k hk, if_neg (by omega)]⟩, HN.out⟩
      case round =>
        clear HB HN HCS
        obtain ⟨j, ca2, hj2, rfl, hb, HCS, hnw⟩ := hrel
        have HB := Lib.hid hb
        have HN := Lib.hid hnw
        obtain ⟨wq, hwq⟩ : ∃ z, z = wr := ⟨_, rfl⟩
        rw [← hwq] at HB HN ⊢
        clear hb hnw hwq
        by_cases hlt2 : (j : Int) < (nb : Int)
        · obtain ⟨b2, off2, rfl, hc2⟩ := (HHB.out.stay HN.out).addr (by omega)
          have c2 := hc2 j (by omega)
          clear hc2
          have hj0 : (0 : Int) ≤ (j : Int) := by omega
          have hw1 : wrap64 ((i : Int) + (j : Int)) = (i : Int) + (j : Int) := by unfold wrap64; omega
          have hw2 : IntKind.i64.wrap ((i : Int) + (j : Int)) = (i : Int) + (j : Int) := by simp [IntKind.wrap, IntKind.bits, IntKind.signed]; omega
          have hij1 : ((i : Int) + (j : Int)).toNat = i + j := by omega
          have hij2 : (0 : Int) ≤ (i : Int) + (j : Int) := by omega
          have hij3 : (i : Int) + (j : Int) < (N : Int) := by omega
          have HCL : Hid (ca2[i + j]? = some (.int .u64 (W64 (mp (cs (nf la) (nf lb) i (i + j)))))) := Lib.hid (by rw [HCS.out.2 (i + j) (by omega), if_neg (by omega)])
          have HST : Hid (mp ((mp (cs (nf la) (nf lb) i (i + j))).toNat + (mp (x.toNat * (lb.getD j 0).toNat)).toNat) = mp (cs (nf la) (nf lb) (i + 1) (i + j))) := Lib.hid (by
            rw [mp_add]
            show _ = mp (cs (nf la) (nf lb) i (i + j) + (if i ≤ i + j then nf la i * nf lb (i + j - i) else 0))
            rw [if_pos (by omega), HXE.out, Nat.add_sub_cancel_left]; rfl)
          obtain ⟨y, hy⟩ : ∃ z, lb.getD j 0 = z := ⟨_, rfl⟩
          rw [hy] at c2 HST
          clear hy
          obtain ⟨v, hv⟩ : ∃ z, mp (cs (nf la) (nf lb) i (i + j)) = z := ⟨_, rfl⟩
          rw [hv] at HCL HST
          clear hv
          have HMU := Lib.hid (fun w => mmul_p x y w)
          obtain ⟨m1, hm1⟩ : ∃ z, mp (x.toNat * y.toNat) = z := ⟨_, rfl⟩
          rw [hm1] at HMU HST
          clear hm1
          have HAD := Lib.hid (fun w => madd_p v m1 w)
          obtain ⟨s1, hs1⟩ : ∃ z, mp (v.toNat + m1.toNat) = z := ⟨_, rfl⟩
          rw [hs1] at HAD HST
          clear hs1
          go_wp2_with fail
          clear c2
          refine Gro3.wp_region_gro3S (fun w' => (∃ c9 : Array Value, w'.heap[w.heap.size]? = some (.cells c9 31 (0, 0))) ∧ New w w') (fun w' => w'.heap[w.heap.size]? = some (.cells ca2 31 (0, 0)) ∧ New w w') [0,0,0,0,0,0,0,0,0,1,0,0,2,2,0,3] New (fun _ _ _ => True) (by kernel_rfl) (by kernel_rfl) (by kernel_rfl) (fun _ _ _ _ _ _ => trivial) (fun w' hw' => ⟨⟨_, hw'.1⟩, hw'.2⟩) (⟨HB.out, HN.out.drew⟩) ?_
          intro I J _ _ f g hfa hba hgb hbb
          have HFA := Lib.hid hfa
          have HBA := Lib.hid hba
          have HGB := Lib.hid hgb
          have HBB := Lib.hid hbb
          have fa := fun n => (cell_of_row (g n) _ (i + j) _ _ _ (hgb n).1).trans HCL.out
          clear hfa hba hgb hbb
          refine Gro3.take0 9 (by kernel_rfl) ?_
          simp only [List.take, List.drop, List.length]
          repeat (go_big_quiet_step (fail))
          refine wpQuiet_nil ?_
          refine Gro3.take1 1 (by kernel_rfl) ?_
          simp only [List.take, List.drop, List.length]
          repeat (go_big_quiet_step (fail))
          refine wpQuiet_nil ?_
          refine Gro3.take0 2 (by kernel_rfl) ?_
          simp only [List.take, List.drop, List.length]
          repeat (go_big_quiet_step (fail))
          refine wpQuiet_nil ?_
          refine Gro3.callt (fun v => v = .int .u64 (W64 m1)) (fun _ _ => True) rfl rfl (⟨_, rfl⟩) (fun _ _ _ _ _ => trivial) (fun w1 hB hG => ?_) (fun v1 A1 hv1 hA => ?_)
          · obtain ⟨nq, rfl⟩ := hB
            clear fa
            go_simp
            refine (HMU.out _).mono ?_
            rintro e w2 ⟨rfl, hn⟩
            have HX := HBB.out _ ⟨(hn.block _ (lt_of_block (HGB.out nq).1)).trans (HGB.out nq).1, (HGB.out nq).2.trans hn⟩
            first | exact ⟨_, rfl, HX, hn, rfl⟩ | exact ⟨_, rfl, HX, hn, rfl, trivial⟩ | exact ⟨rfl, HX, hn⟩ | exact ⟨HX, hn, rfl⟩ | exact ⟨HX, hn⟩
          simp [Act.put] at hA
          subst hA
          obtain rfl := hv1
          refine Gro3.callt (fun v => v = .int .u64 (W64 s1)) (fun _ _ => True) rfl rfl (⟨_, rfl⟩) (fun _ _ _ _ _ => trivial) (fun w1 hB hG => ?_) (fun v2 A2 hv2 hA => ?_)
          · obtain ⟨nq, rfl⟩ := hB
            clear fa
            go_simp
            refine (HAD.out _).mono ?_
            rintro e w2 ⟨rfl, hn⟩
            have HX := HBB.out _ ⟨(hn.block _ (lt_of_block (HGB.out nq).1)).trans (HGB.out nq).1, (HGB.out nq).2.trans hn⟩
            first | exact ⟨_, rfl, HX, hn, rfl⟩ | exact ⟨_, rfl, HX, hn, rfl, trivial⟩ | exact ⟨rfl, HX, hn⟩ | exact ⟨HX, hn, rfl⟩ | exact ⟨HX, hn⟩
          simp [Act.put] at hA
          subst hA
          obtain rfl := hv2
          refine Gro3.take0 1 (by kernel_rfl) ?_
          simp only [List.take, List.drop, List.length]
          repeat (go_big_quiet_step (fail))
          refine wpQuiet_nil ?_
          refine Gro3.turn (fun v => v = undef) (fun _ w9 => Lies w9 w.heap.size (.cells (ca2.setIfInBounds (i + j) (.int .u64 (W64 s1))) 31 (0, 0))) rfl rfl ⟨_, rfl⟩ (fun w1 hB hG => ?_) (fun v3 A3 hv3 hA => ?_)
          · obtain ⟨nq, rfl⟩ : ∃ nq, w1 = g nq := hB
            have HX := Lib.hid (HGB.out nq)
            have c0 := (cell_of_row (g nq) _ (i + j) _ _ _ HX.out.1).trans HCL.out
            have cf := fun i => frozen_of_row _ _ i _ _ HX.out.1
            have h0 := heap_setCell_same (g nq) w.heap.size (i + j) _ _ (.int .u64 (W64 s1)) HX.out.1
            have HLI := Lib.hid (show Lies _ _ _ from h0)
            clear h0 fa
            go_simp
            exact ⟨HBA.out _ ⟨⟨_, HLI.out⟩, HX.out.2.setCell (Nat.le_refl _) _⟩, HLI.out⟩
          simp [Act.put] at hA
          subst hA
          refine Gro3.nil ?_
          rintro w11 ⟨n9, rfl⟩ hG
          have hF := HFA.out n9
          have HB2 := Lib.hid (show (f n9).heap[w.heap.size]? = _ from hG)
          replace HN := Lib.hid hF.2
          clear HFA HBA HGB HBB hG hF fa HMU HAD HB hw1 hw2 hij1 hij2 hij3
          generalize f n9 = w9 at *
          go_wp2
          refine ⟨⟨j + 1, _, by omega, by go_num, HB2.out, Lib.hid ⟨by rw [Array.size_setIfInBounds]; exact HCS.out.1, ?_⟩, HN.out⟩, by simp [intOf]; omega⟩
          intro k hk
          have hs := HCS.out.1
          rw [Array.getElem?_setIfInBounds]
          by_cases e : i + j = k
          · subst e
            rw [if_pos rfl, if_pos (by omega), if_pos (by omega), HST.out]
          · rw [if_neg e, HCS.out.2 k hk]
            refine congrArg (fun d => some (Value.int .u64 (W64 d))) ?_
            by_cases e2 : i ≤ k ∧ k < i + j
            · rw [if_pos e2, if_pos (by omega)]
            · rw [if_neg e2, if_neg (by omega)]
        · obtain rfl : j = nb := by omega
          go_wp2
          refine ⟨⟨i + 1, _, by omega, by go_num, HB.out, Lib.hid ⟨HCS.out.1, ?_⟩, HN.out⟩, by simp [intOf]; omega⟩
          intro k hk
          rw [HCS.out.2 k hk]
          refine congrArg (fun d => some (Value.int .u64 (W64 d))) ?_
          by_cases e2 : i ≤ k ∧ k < i + j
          · rw [if_pos e2]
          · rw [if_neg e2]
            show _ = mp (cs (nf la) (nf lb) i k + (if i ≤ k then nf la i * nf lb (k - i) else 0))
            by_cases e3 : i ≤ k
            · rw [if_pos e3, nf_far lb (k - i) (by rw [HLB.out]; omega), Nat.mul_zero]; rfl
            · rw [if_neg e3]; rfl
    · obtain rfl : i = na := by omega
      have HQR : Hid (QRow wq (some ⟨w.heap.size, 0, none⟩) N N (mulL la lb)) := Lib.hid (by
        refine ⟨by unfold mulL; rw [mulP_len, HLA.out, HLB.out]; exact hN, Nat.le_refl _, by omega, by omega, (fun e => by cases e), ?_, ?_, ?_⟩
        · intro b off e k hk
          cases e
          rw [Nat.zero_add, cell_of_row _ _ _ _ _ _ HB.out, HCS.out.2 k hk]
          unfold mulL
          rw [mulP_get _ _ _ k (by rw [HLA.out, HLB.out]; omega), ← cs_len, HLA.out]
        · intro x e h; cases e; rfl
        · intro x e h; cases e; exact lt_of_block HB.out)
      have HT := Lib.hid (trim_q _ _ _ _ _ HQR.out)
      clear HB HCS
      go_wp2_with fail
      refine (HT.out).mono ?_
      rintro e w9 ⟨a2, c2, rfl, hq, hn9⟩
      have HQ := Lib.hid hq
      replace HN := Lib.hid (HN.out.trans hn9)
      clear hq hn9 HT
      go_wp2
      go_ret
      exact ⟨a2, c2, rfl, HQ.out, HN.out⟩
end Go.Proofs.YtebcfbcfipmahaaGreat
