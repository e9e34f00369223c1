/- The law BlockCopies, walked. -/
import Derived.Test.YtegibnffingciaaBlkK
import Derived.Defers
import Derived.Recover
import Derived.Laws.Pointers
import Derived.Handy
import Derived.Laws.EntriesVeiled
namespace Go.Proofs.Ytegibnffingciaa
open Go.RowKit Go.Bv
set_option linter.unusedVariables false
set_option maxRecDepth 100000 in
set_option maxHeartbeats 8000000 in
theorem BlockCopies_walk (W : World) (a0 : Int) (w0 : (Lit.int .i64 a0).wf = true) (a1 : Int) (w1 : (Lit.int .u64 a1).wf = true) (a2 : Option Addr) (n2 m2 : Nat) (z2 : List Int) (w2 : IRow .u8 W a2 n2 m2 z2) (r2 : m2 * 1 ≤ 140737488351232) (a3 : Option Addr) (n3 m3 : Nat) (z3 : List Int) (w3 : IRow .u8 W a3 n3 m3 z3) (r3 : m3 * 1 ≤ 140737488351232) (a4 : Option Addr) (n4 m4 : Nat) (z4 : List Int) (w4 : IRow .u8 W a4 n4 m4 z4) (r4 : m4 * 1 ≤ 140737488351232) :
    Calls Try.prog 4 #[.int .i64 a0, .int .u64 a1, .slice a2 n2 m2, .slice a3 n3 m3, .slice a4 n4 m4] W fun e w' => e = .returned (.bool true) ∧ Below W.heap.size W w' := by
  obtain ⟨x, rfl⟩ := ex64 a1 (by simp [Lit.wf, IntKind.min, IntKind.max, IntKind.signed, IntKind.bits] at w1; omega)
  obtain ⟨l2, hl2⟩ := w2.bytes r2
  obtain ⟨l3, hl3⟩ := w3.bytes r3
  obtain ⟨l4, hl4⟩ := w4.bytes r4
  have HB := Lib.hid hl2
  have HC := Lib.hid hl3
  have HD := Lib.hid hl4
  have HQB := Lib.hid hl2.len_eq
  have HQC := Lib.hid hl3.len_eq
  have HQD := Lib.hid hl4.len_eq
  obtain ⟨n, hn⟩ : ∃ n, szN a0 = n := ⟨_, rfl⟩
  have hn1 : 1 ≤ n ∧ n ≤ 64 := hn ▸ szN_in a0
  have HSZ := Lib.hid hn
  have HN1 := Lib.hid hn1
  clear w0 w1 w2 w3 w4 r2 r3 r4 hl2 hl3 hl4 hn hn1
  obtain ⟨w9, hw9⟩ : ∃ w9, W = w9 := ⟨_, rfl⟩
  have HN := Lib.hid (show New W w9 from hw9 ▸ New.refl W)
  rw [hw9]
  rw [← hw9]
  clear hw9 HN w9
  have HA := Lib.hid (awake28 W)
  go_enter Try.func4, Try.ntmps4
  go_wp2_with fail
  refine (HA.out).mono ?_
  rintro e w9 ⟨rfl, hn⟩
  have HN := Lib.hid hn
  clear hn HA
  by_cases hs : (300 : Int) < (n2 : Int) ∨ (300 : Int) < (n3 : Int) ∨ (300 : Int) < (n4 : Int)
  · by_cases hs2 : (300 : Int) < (n2 : Int)
    · go_wp2
      go_ret
      exact ⟨rfl, HN.out⟩
    · by_cases hs3 : (300 : Int) < (n3 : Int)
      · go_wp2
        go_ret
        exact ⟨rfl, HN.out⟩
      · have hs4 : (300 : Int) < (n4 : Int) := by omega
        go_wp2
        go_ret
        exact ⟨rfl, HN.out⟩
  have hs2 : ¬ (300 : Int) < (n2 : Int) := by omega
  have hs3 : ¬ (300 : Int) < (n3 : Int) := by omega
  have hs4 : ¬ (300 : Int) < (n4 : Int) := by omega
  have HLE : Hid (n2 ≤ 300 ∧ n3 ≤ 300 ∧ n4 ≤ 300) := Lib.hid (by omega)
  clear hs
  have hx := heap_alloc_new w9 (.cells #[.int .u64 (W64 x), .int .i64 0] 27)
  have hn2 := (New.refl w9).alloc (.cells #[.int .u64 (W64 x), .int .i64 0] 27)
  obtain ⟨qHF, hq⟩ : ∃ q, w9.heap.size = q := ⟨_, rfl⟩
  have hle := HN.out.le
  rw [hq] at hx hle
  have hw0 := And.intro (rfl : w9.alloc (.cells #[.int .u64 (W64 x), .int .i64 0] 27) = w9.alloc (.cells #[.int .u64 (W64 x), .int .i64 0] 27)) hq
  generalize hw2 : w9.alloc (.cells #[.int .u64 (W64 x), .int .i64 0] 27) = w10 at hx hn2 hw0
  have HE := Lib.hid (show w9.alloc (.cells #[.int .u64 (W64 x), .int .i64 0] 27) = w10 ∧ w9.heap.size = qHF from ⟨hw2, hq⟩)
  clear hw0 hw2
  replace HN := Lib.hid (HN.out.trans hn2)
  have HF := Lib.hid hx
  have HLHF := Lib.hid hle
  clear hx hn2 hq hle
  have f0 := cell_of_row _ _ 0 _ _ _ HF.out
  have f1 := cell_of_row _ _ 1 _ _ _ HF.out
  go_wp2_with (rw [HE.out.1, HE.out.2])
  refine (new_28 a0 (x, 0) _).mono ?_
  rintro e w9 ⟨p, rfl, hp, hs, hn⟩
  rw [HSZ.out] at hs
  have HFP : Hid (qHF < p) := Lib.hid (by have := lt_of_block HF.out; omega)
  have HWP : Hid (W.heap.size ≤ p) := Lib.hid (Nat.le_trans HN.out.le hp)
  replace HF := Lib.hid ((hn.block _ (lt_of_block HF.out)).trans HF.out)
  replace HN := Lib.hid (HN.out.trans hn)
  have HS := Lib.hid hs
  clear hs hn hp f0 f1 HE
  have hsum : ([] : List (BitVec 8)).length + n2 ≤ 140737488355328 := by have := HLE.out; simp; omega
  go_wp2_with fail
  refine (write_28 p n HN1.out (x, 0) _ _ _ _ _ _ _ _ HS.out (HB.out.stay HN.out) hsum).mono ?_
  rintro e w9 ⟨rfl, hs, hb⟩
  simp only [List.nil_append] at hs
  clear hsum hs2 hs3 hs4
  have hnb := HS.out.noBytes
  replace HF := Lib.hid (hb.keep (by have := HFP.out; omega) HF.out)
  replace HS := Lib.hid hs
  replace HN := Lib.hid (hb.new _ HN.out (HWP.out))
  clear hb hs hnb
  go_wp2_with fail
  refine (sclone_28 p n HN1.out _ _ _ _ _ HS.out).mono ?_
  rintro e w9 ⟨q, rfl, hq, ht, hn⟩
  have HPQ : Hid (p < q) := Lib.hid (by have := HS.out.lt; omega)
  replace HS := Lib.hid (HS.out.stay hn)
  replace HF := Lib.hid ((hn.block _ (lt_of_block HF.out)).trans HF.out)
  replace HN := Lib.hid (HN.out.trans hn)
  have HT := Lib.hid ht
  have HWQ : Hid (W.heap.size ≤ q) := Lib.hid (by have := HPQ.out; have := HWP.out; omega)
  clear ht hn hq
  have hsum : (bTail n l2).length + n3 ≤ 140737488355328 := by have := HLE.out; have h1 := HQB.out; rw [bTail_len]; have := Nat.mod_le l2.length n; omega
  go_wp2_with fail
  refine (write_28 p n HN1.out (x, 0) _ _ _ _ _ _ _ _ HS.out (HC.out.stay HN.out) hsum).mono ?_
  rintro e w9 ⟨rfl, hs, hb⟩
  rw [bState_join n (by have := HN1.out; omega), bTail_join n (by have := HN1.out; omega)] at hs
  clear hsum
  have hnb := HS.out.noBytes
  replace HT := Lib.hid (HT.out.but hb (by have := HPQ.out; omega) hnb)
  replace HF := Lib.hid (hb.keep (by have := HFP.out; omega) HF.out)
  replace HS := Lib.hid hs
  replace HN := Lib.hid (hb.new _ HN.out (HWP.out))
  clear hb hs hnb
  have hsum : (bTail n l2).length + n4 ≤ 140737488355328 := by have := HLE.out; have h1 := HQB.out; rw [bTail_len]; have := Nat.mod_le l2.length n; omega
  go_wp2_with fail
  refine (write_28 q n HN1.out (x, 0) _ _ _ _ _ _ _ _ HT.out (HD.out.stay HN.out) hsum).mono ?_
  rintro e w9 ⟨rfl, hs, hb⟩
  rw [bState_join n (by have := HN1.out; omega), bTail_join n (by have := HN1.out; omega)] at hs
  clear hsum
  have hnb := HT.out.noBytes
  replace HS := Lib.hid (HS.out.but hb (by have := HPQ.out; omega) hnb)
  replace HF := Lib.hid (hb.keep (by have := HFP.out; have := HPQ.out; omega) HF.out)
  replace HT := Lib.hid hs
  replace HN := Lib.hid (hb.new _ HN.out (HWQ.out))
  clear hb hs hnb
  generalize hlg1 : (0#64 + BitVec.ofNat 64 n2 + BitVec.ofNat 64 n3) = lg1 at *
  generalize hlg2 : (0#64 + BitVec.ofNat 64 n2 + BitVec.ofNat 64 n4) = lg2 at *
  clear hlg1 hlg2
  go_wp2_with fail
  refine (both_ref a2 a3 n2 m2 n3 m3 l2 l3 W _ (HB.out.stay HN.out) (HC.out.stay HN.out) (by have := HLE.out; omega) HN.out).mono ?_
  rintro e w9 ⟨o1, oc1, rfl, ho1, hn, _⟩
  replace HS := Lib.hid (HS.out.stay hn)
  replace HT := Lib.hid (HT.out.stay hn)
  replace HF := Lib.hid ((hn.block _ (lt_of_block HF.out)).trans HF.out)
  replace HN := Lib.hid (HN.out.trans hn)
  have HO1 := Lib.hid ho1
  clear ho1 hn
  go_wp2_with fail
  refine (both_ref a2 a4 n2 m2 n4 m4 l2 l4 W _ (HB.out.stay HN.out) (HD.out.stay HN.out) (by have := HLE.out; omega) HN.out).mono ?_
  rintro e w9 ⟨o2, oc2, rfl, ho2, hn, _⟩
  replace HS := Lib.hid (HS.out.stay hn)
  replace HT := Lib.hid (HT.out.stay hn)
  replace HO1 := Lib.hid (HO1.out.stay hn)
  replace HF := Lib.hid ((hn.block _ (lt_of_block HF.out)).trans HF.out)
  replace HN := Lib.hid (HN.out.trans hn)
  have HO2 := Lib.hid ho2
  clear ho2 hn
  have f0 := cell_of_row _ _ 0 _ _ _ HF.out
  have f1 := cell_of_row _ _ 1 _ _ _ HF.out
  have HRL := Lib.hid (show (l2 ++ l3).length = n2 + n3 ∧ (l2 ++ l4).length = n2 + n4 from ⟨by rw [List.length_append, HQB.out, HQC.out], by rw [List.length_append, HQB.out, HQD.out]⟩)
  go_wp2_with fail
  refine (foldn_ref a0 n HSZ.out (x, 0) _ _ _ _ _ HO1.out).mono ?_
  rintro e w9 ⟨ua1, uc1, rfl, hu, hn⟩
  replace HS := Lib.hid (HS.out.stay hn)
  replace HT := Lib.hid (HT.out.stay hn)
  replace HO1 := Lib.hid (HO1.out.stay hn)
  replace HO2 := Lib.hid (HO2.out.stay hn)
  replace HF := Lib.hid ((hn.block _ (lt_of_block HF.out)).trans HF.out)
  replace HN := Lib.hid (HN.out.trans hn)
  have HU1 := Lib.hid hu
  clear hu hn f0 f1
  generalize hst1 : bState n stp28 (x, 0) (l2 ++ l3) = st1 at *
  clear hst1
  have hx := heap_alloc_new w9 (.cells #[.int .u64 (W64 (st1.1)), .int .i64 (st1.2)] 27)
  have hn2 := (New.refl w9).alloc (.cells #[.int .u64 (W64 (st1.1)), .int .i64 (st1.2)] 27)
  obtain ⟨qHP1, hq⟩ : ∃ q, w9.heap.size = q := ⟨_, rfl⟩
  have hle := HN.out.le
  rw [hq] at hx hle
  have hw0 := And.intro (rfl : w9.alloc (.cells #[.int .u64 (W64 (st1.1)), .int .i64 (st1.2)] 27) = w9.alloc (.cells #[.int .u64 (W64 (st1.1)), .int .i64 (st1.2)] 27)) hq
  have HLTHP10 := Lib.hid (show p < qHP1 from hq ▸ HS.out.lt)
  have HLTHP11 := Lib.hid (show q < qHP1 from hq ▸ HT.out.lt)
  generalize hw2 : w9.alloc (.cells #[.int .u64 (W64 (st1.1)), .int .i64 (st1.2)] 27) = w10 at hx hn2 hw0
  have HE := Lib.hid (show w9.alloc (.cells #[.int .u64 (W64 (st1.1)), .int .i64 (st1.2)] 27) = w10 ∧ w9.heap.size = qHP1 from ⟨hw2, hq⟩)
  clear hw0 hw2
  replace HS := Lib.hid (HS.out.stay hn2)
  replace HT := Lib.hid (HT.out.stay hn2)
  replace HO1 := Lib.hid (HO1.out.stay hn2)
  replace HO2 := Lib.hid (HO2.out.stay hn2)
  replace HU1 := Lib.hid (HU1.out.stay hn2)
  replace HF := Lib.hid ((hn2.block _ (lt_of_block HF.out)).trans HF.out)
  replace HN := Lib.hid (HN.out.trans hn2)
  have HP1 := Lib.hid hx
  have HLHP1 := Lib.hid hle
  clear hx hn2 hq hle
  have f0 := cell_of_row _ _ 0 _ _ _ HF.out
  have f1 := cell_of_row _ _ 1 _ _ _ HF.out
  go_wp2_with (rw [HE.out.1, HE.out.2])
  refine (foldn_ref a0 n HSZ.out (x, 0) _ _ _ _ _ HO2.out).mono ?_
  rintro e w9 ⟨ua2, uc2, rfl, hu, hn⟩
  replace HS := Lib.hid (HS.out.stay hn)
  replace HT := Lib.hid (HT.out.stay hn)
  replace HO1 := Lib.hid (HO1.out.stay hn)
  replace HO2 := Lib.hid (HO2.out.stay hn)
  replace HU1 := Lib.hid (HU1.out.stay hn)
  replace HF := Lib.hid ((hn.block _ (lt_of_block HF.out)).trans HF.out)
  replace HP1 := Lib.hid ((hn.block _ (lt_of_block HP1.out)).trans HP1.out)
  replace HN := Lib.hid (HN.out.trans hn)
  have HU2 := Lib.hid hu
  clear hu hn f0 f1 HE
  generalize hst2 : bState n stp28 (x, 0) (l2 ++ l4) = st2 at *
  clear hst2
  have hx := heap_alloc_new w9 (.cells #[.int .u64 (W64 (st2.1)), .int .i64 (st2.2)] 27)
  have hn2 := (New.refl w9).alloc (.cells #[.int .u64 (W64 (st2.1)), .int .i64 (st2.2)] 27)
  obtain ⟨qHP2, hq⟩ : ∃ q, w9.heap.size = q := ⟨_, rfl⟩
  have hle := HN.out.le
  rw [hq] at hx hle
  have hw0 := And.intro (rfl : w9.alloc (.cells #[.int .u64 (W64 (st2.1)), .int .i64 (st2.2)] 27) = w9.alloc (.cells #[.int .u64 (W64 (st2.1)), .int .i64 (st2.2)] 27)) hq
  have HLTHP20 := Lib.hid (show p < qHP2 from hq ▸ HS.out.lt)
  have HLTHP21 := Lib.hid (show q < qHP2 from hq ▸ HT.out.lt)
  have HLTHP22 := Lib.hid (show qHP1 < qHP2 from hq ▸ lt_of_block HP1.out)
  generalize hw2 : w9.alloc (.cells #[.int .u64 (W64 (st2.1)), .int .i64 (st2.2)] 27) = w10 at hx hn2 hw0
  have HE := Lib.hid (show w9.alloc (.cells #[.int .u64 (W64 (st2.1)), .int .i64 (st2.2)] 27) = w10 ∧ w9.heap.size = qHP2 from ⟨hw2, hq⟩)
  clear hw0 hw2
  replace HS := Lib.hid (HS.out.stay hn2)
  replace HT := Lib.hid (HT.out.stay hn2)
  replace HO1 := Lib.hid (HO1.out.stay hn2)
  replace HO2 := Lib.hid (HO2.out.stay hn2)
  replace HU1 := Lib.hid (HU1.out.stay hn2)
  replace HU2 := Lib.hid (HU2.out.stay hn2)
  replace HF := Lib.hid ((hn2.block _ (lt_of_block HF.out)).trans HF.out)
  replace HP1 := Lib.hid ((hn2.block _ (lt_of_block HP1.out)).trans HP1.out)
  replace HN := Lib.hid (HN.out.trans hn2)
  have HP2 := Lib.hid hx
  have HLHP2 := Lib.hid hle
  clear hx hn2 hq hle
  go_wp2_with (rw [HE.out.1, HE.out.2])
  clear HE
  have hT1 : (bTail n (l2 ++ l3)).length = (n2 + n3) % n := by rw [bTail_len, HRL.out.1]
  have hT2 : (bTail n (l2 ++ l4)).length = (n2 + n4) % n := by rw [bTail_len, HRL.out.2]
  generalize bTail n (l2 ++ l3) = T1 at *
  generalize bTail n (l2 ++ l4) = T2 at *
  clear hT1 hT2
  have he := equ28s
  refine Gro3.wp_region_gro3S (fun w' => w'.heap[qHP1]? = some (.cells #[.int .u64 (W64 (st1.1)), .int .i64 (st1.2)] 27 (0, 0)) ∧ w'.heap[qHP2]? = some (.cells #[.int .u64 (W64 (st2.1)), .int .i64 (st2.2)] 27 (0, 0)) ∧ New w10 w') (fun w' => w'.heap[qHP1]? = some (.cells #[.int .u64 (W64 (st1.1)), .int .i64 (st1.2)] 27 (0, 0)) ∧ w'.heap[qHP2]? = some (.cells #[.int .u64 (W64 (st2.1)), .int .i64 (st2.2)] 27 (0, 0)) ∧ New w10 w') [0, 2, 1, 1, 0, 0, 2, 0, 2, 0, 0, 0, 0, 2, 1, 1, 0, 0, 0, 2, 0, 2, 0, 0] New (fun _ _ _ => True) (by kernel_rfl) (by kernel_rfl) (by kernel_rfl) (fun _ _ _ _ _ _ => trivial) (fun w' hw' => hw') (⟨HP1.out, HP2.out, (New.refl _).drew⟩) ?_
  intro I J _ _ f g hfa hba hgb hbb
  have HFA := Lib.hid hfa
  have HBA := Lib.hid hba
  have HGB := Lib.hid hgb
  have HBB := Lib.hid hbb
  have s0 := fun n => cell_of_row _ _ 0 _ _ _ (hgb n).1
  have s1 := fun n => cell_of_row _ _ 1 _ _ _ (hgb n).1
  have s2 := fun n => cell_of_row _ _ 0 _ _ _ (hgb n).2.1
  have s3 := fun n => cell_of_row _ _ 1 _ _ _ (hgb n).2.1
  clear hfa hba hgb hbb
  refine Gro3.take0 1 (by kernel_rfl) ?_
  simp only [List.take, List.drop, List.length]
  repeat (go_big_quiet_step (fail))
  refine wpQuiet_nil ?_
  refine Gro3.callt (fun v => v = .agg #[.int .u64 (W64 (st1.1)), .int .i64 (st1.2)]) (fun _ _ => True) rfl rfl (⟨_, rfl⟩) (fun _ _ _ _ _ => trivial) (fun w1 hB hG => ?_) (fun v1 A1 hv1 hA => ?_)
  · obtain ⟨nq, rfl⟩ := hB
    clear s0 s1 s2 s3
    go_simp
    refine (state_28 p n _ _ _ _ _ HN1.out.1 (HS.out.stay (HGB.out nq).2.2)).mono ?_
    rintro e w2 ⟨rfl, hn⟩
    have HX := HBB.out _ ⟨(hn.block _ (lt_of_block (HGB.out nq).1)).trans (HGB.out nq).1, (hn.block _ (lt_of_block (HGB.out nq).2.1)).trans (HGB.out nq).2.1, (HGB.out nq).2.2.trans hn⟩
    first | exact ⟨_, rfl, HX, hn, rfl⟩ | exact ⟨_, rfl, HX, hn, rfl, trivial⟩ | exact ⟨rfl, HX, hn⟩ | exact ⟨HX, hn, rfl⟩ | exact ⟨HX, hn⟩
  simp [Act.put] at hA
  subst hA
  obtain rfl := hv1
  refine Gro3.take1 2 (by kernel_rfl) ?_
  simp only [List.take, List.drop, List.length]
  repeat (go_big_quiet_step (fail))
  refine wpQuiet_nil ?_
  refine Gro3.take0 2 (by kernel_rfl) ?_
  simp only [List.take, List.drop, List.length]
  repeat (go_big_quiet_step (fail))
  refine wpQuiet_nil ?_
  refine Gro3.callt (fun v => ∃ r c, v = .slice r (T1.length : Nat) c) (fun v w' => ∃ r c, v = .slice r (T1.length : Nat) c ∧ BRow w' r (T1.length) c (T1)) rfl rfl (⟨_, none, 0, rfl⟩) (fun v w w' hn h => by obtain ⟨r, c, e, hr⟩ := h; exact ⟨r, c, e, hr.stay hn⟩) (fun w1 hB hG => ?_) (fun v2 A2 hv2 hA => ?_)
  · obtain ⟨nq, rfl⟩ := hB
    clear s0 s1 s2 s3
    go_simp
    refine (tail_28 p n _ _ _ _ _ HN1.out.1 (HS.out.stay (HGB.out nq).2.2)).mono ?_
    rintro e w2 ⟨r, c, rfl, hrow, hn⟩
    have HX := HBB.out _ ⟨(hn.block _ (lt_of_block (HGB.out nq).1)).trans (HGB.out nq).1, (hn.block _ (lt_of_block (HGB.out nq).2.1)).trans (HGB.out nq).2.1, (HGB.out nq).2.2.trans hn⟩
    exact ⟨_, rfl, HX, hn, ⟨_, _, rfl⟩, ⟨_, _, rfl, hrow⟩⟩
  simp [Act.put] at hA
  subst hA
  obtain ⟨rr1, rc1, rfl⟩ := hv2
  refine Gro3.take0 1 (by kernel_rfl) ?_
  simp only [List.take, List.drop, List.length]
  repeat (go_big_quiet_step (fail))
  refine wpQuiet_nil ?_
  refine Gro3.callt (fun v => v = .bool true) (fun _ _ => True) rfl rfl (⟨_, rfl⟩) (fun _ _ _ _ _ => trivial) (fun w1 hB hG => ?_) (fun v3 A3 hv3 hA => ?_)
  · obtain ⟨nq, rfl⟩ := hB
    obtain ⟨r5, c5, e5, hz⟩ := hG
    cases e5
    have HZ := Lib.hid hz
    clear hz
    clear s0 s1 s2 s3
    go_simp
    refine (same_any _ _ _ _ _ _ T1 T1 _ HZ.out (HU1.out.stay (HGB.out nq).2.2)).mono ?_
    rintro e w2 ⟨he, rfl⟩
    have hn := New.refl (g nq)
    have HX := HBB.out _ ⟨(hn.block _ (lt_of_block (HGB.out nq).1)).trans (HGB.out nq).1, (hn.block _ (lt_of_block (HGB.out nq).2.1)).trans (HGB.out nq).2.1, (HGB.out nq).2.2.trans hn⟩
    rw [beq_self_eq_true] at he
    subst he
    first | exact ⟨_, rfl, HX, hn, rfl⟩ | exact ⟨_, rfl, HX, hn, rfl, trivial⟩ | exact ⟨rfl, HX, hn⟩ | exact ⟨HX, hn, rfl⟩ | exact ⟨HX, hn⟩
  simp [Act.put] at hA
  subst hA
  obtain rfl := hv3
  refine Gro3.take0 4 (by kernel_rfl) ?_
  simp only [List.take, List.drop, List.length]
  repeat (go_big_quiet_step (fail))
  refine wpQuiet_nil ?_
  refine Gro3.callt (fun v => v = .agg #[.int .u64 (W64 (st2.1)), .int .i64 (st2.2)]) (fun _ _ => True) rfl rfl (⟨_, rfl⟩) (fun _ _ _ _ _ => trivial) (fun w1 hB hG => ?_) (fun v4 A4 hv4 hA => ?_)
  · obtain ⟨nq, rfl⟩ := hB
    clear s0 s1 s2 s3
    go_simp
    refine (state_28 q n _ _ _ _ _ HN1.out.1 (HT.out.stay (HGB.out nq).2.2)).mono ?_
    rintro e w2 ⟨rfl, hn⟩
    have HX := HBB.out _ ⟨(hn.block _ (lt_of_block (HGB.out nq).1)).trans (HGB.out nq).1, (hn.block _ (lt_of_block (HGB.out nq).2.1)).trans (HGB.out nq).2.1, (HGB.out nq).2.2.trans hn⟩
    first | exact ⟨_, rfl, HX, hn, rfl⟩ | exact ⟨_, rfl, HX, hn, rfl, trivial⟩ | exact ⟨rfl, HX, hn⟩ | exact ⟨HX, hn, rfl⟩ | exact ⟨HX, hn⟩
  simp [Act.put] at hA
  subst hA
  obtain rfl := hv4
  refine Gro3.take1 2 (by kernel_rfl) ?_
  simp only [List.take, List.drop, List.length]
  repeat (go_big_quiet_step (fail))
  refine wpQuiet_nil ?_
  refine Gro3.take0 3 (by kernel_rfl) ?_
  simp only [List.take, List.drop, List.length]
  repeat (go_big_quiet_step (fail))
  refine wpQuiet_nil ?_
  refine Gro3.callt (fun v => ∃ r c, v = .slice r (T2.length : Nat) c) (fun v w' => ∃ r c, v = .slice r (T2.length : Nat) c ∧ BRow w' r (T2.length) c (T2)) rfl rfl (⟨_, none, 0, rfl⟩) (fun v w w' hn h => by obtain ⟨r, c, e, hr⟩ := h; exact ⟨r, c, e, hr.stay hn⟩) (fun w1 hB hG => ?_) (fun v5 A5 hv5 hA => ?_)
  · obtain ⟨nq, rfl⟩ := hB
    clear s0 s1 s2 s3
    go_simp
    refine (tail_28 q n _ _ _ _ _ HN1.out.1 (HT.out.stay (HGB.out nq).2.2)).mono ?_
    rintro e w2 ⟨r, c, rfl, hrow, hn⟩
    have HX := HBB.out _ ⟨(hn.block _ (lt_of_block (HGB.out nq).1)).trans (HGB.out nq).1, (hn.block _ (lt_of_block (HGB.out nq).2.1)).trans (HGB.out nq).2.1, (HGB.out nq).2.2.trans hn⟩
    exact ⟨_, rfl, HX, hn, ⟨_, _, rfl⟩, ⟨_, _, rfl, hrow⟩⟩
  simp [Act.put] at hA
  subst hA
  obtain ⟨rr2, rc2, rfl⟩ := hv5
  refine Gro3.take0 1 (by kernel_rfl) ?_
  simp only [List.take, List.drop, List.length]
  repeat (go_big_quiet_step (fail))
  refine wpQuiet_nil ?_
  refine Gro3.callt (fun v => v = .bool true) (fun _ _ => True) rfl rfl (⟨_, rfl⟩) (fun _ _ _ _ _ => trivial) (fun w1 hB hG => ?_) (fun v6 A6 hv6 hA => ?_)
  · obtain ⟨nq, rfl⟩ := hB
    obtain ⟨r5, c5, e5, hz⟩ := hG
    cases e5
    have HZ := Lib.hid hz
    clear hz
    clear s0 s1 s2 s3
    go_simp
    refine (same_any _ _ _ _ _ _ T2 T2 _ HZ.out (HU2.out.stay (HGB.out nq).2.2)).mono ?_
    rintro e w2 ⟨he, rfl⟩
    have hn := New.refl (g nq)
    have HX := HBB.out _ ⟨(hn.block _ (lt_of_block (HGB.out nq).1)).trans (HGB.out nq).1, (hn.block _ (lt_of_block (HGB.out nq).2.1)).trans (HGB.out nq).2.1, (HGB.out nq).2.2.trans hn⟩
    rw [beq_self_eq_true] at he
    subst he
    first | exact ⟨_, rfl, HX, hn, rfl⟩ | exact ⟨_, rfl, HX, hn, rfl, trivial⟩ | exact ⟨rfl, HX, hn⟩ | exact ⟨HX, hn, rfl⟩ | exact ⟨HX, hn⟩
  simp [Act.put] at hA
  subst hA
  obtain rfl := hv6
  refine Gro3.take0 2 (by kernel_rfl) ?_
  simp only [List.take, List.drop, List.length]
  repeat (go_big_quiet_step (fail))
  refine wpQuiet_nil ?_
  refine Gro3.nil ?_
  rintro w9 ⟨n9, rfl⟩ hG
  have hn := (HGB.out n9).2.2
  clear HFA HBA HGB HBB s0 s1 s2 s3
  generalize g n9 = w9 at *
  replace HS := Lib.hid (HS.out.stay hn)
  replace HT := Lib.hid (HT.out.stay hn)
  replace HO1 := Lib.hid (HO1.out.stay hn)
  replace HO2 := Lib.hid (HO2.out.stay hn)
  replace HU1 := Lib.hid (HU1.out.stay hn)
  replace HU2 := Lib.hid (HU2.out.stay hn)
  replace HF := Lib.hid ((hn.block _ (lt_of_block HF.out)).trans HF.out)
  replace HP1 := Lib.hid ((hn.block _ (lt_of_block HP1.out)).trans HP1.out)
  replace HP2 := Lib.hid ((hn.block _ (lt_of_block HP2.out)).trans HP2.out)
  replace HN := Lib.hid (HN.out.trans hn)
  clear hn hG
  go_wp2_with fail
  refine (reset_28 p n HN1.out _ _ _ _ _ HS.out).mono ?_
  rintro e w9 ⟨rfl, hs, hb⟩
  have hnb := HS.out.noBytes
  replace HT := Lib.hid (HT.out.but hb (by have := HPQ.out; omega) hnb)
  replace HO1 := Lib.hid (HO1.out.buts hb hnb)
  replace HO2 := Lib.hid (HO2.out.buts hb hnb)
  replace HU1 := Lib.hid (HU1.out.buts hb hnb)
  replace HU2 := Lib.hid (HU2.out.buts hb hnb)
  replace HF := Lib.hid (hb.keep (by have := HFP.out; omega) HF.out)
  replace HP1 := Lib.hid (hb.keep (by have := HLTHP10.out; omega) HP1.out)
  replace HP2 := Lib.hid (hb.keep (by have := HLTHP20.out; omega) HP2.out)
  replace HS := Lib.hid hs
  replace HN := Lib.hid (hb.new _ HN.out (HWP.out))
  clear hb hs hnb
  go_wp2_with fail
  refine Gro3.wp_region_gro3S (fun w' => w'.heap[qHF]? = some (.cells #[.int .u64 (W64 x), .int .i64 0] 27 (0, 0)) ∧ New w9 w') (fun w' => w'.heap[qHF]? = some (.cells #[.int .u64 (W64 x), .int .i64 0] 27 (0, 0)) ∧ New w9 w') [0, 2, 1, 1, 0, 0, 2, 2, 0, 0, 0, 0, 2, 0, 0] New (fun _ _ _ => True) (by kernel_rfl) (by kernel_rfl) (by kernel_rfl) (fun _ _ _ _ _ _ => trivial) (fun w' hw' => hw') (⟨HF.out, (New.refl _).drew⟩) ?_
  intro I J _ _ f g hfa hba hgb hbb
  have HFA := Lib.hid hfa
  have HBA := Lib.hid hba
  have HGB := Lib.hid hgb
  have HBB := Lib.hid hbb
  have s0 := fun n => cell_of_row _ _ 0 _ _ _ (hgb n).1
  have s1 := fun n => cell_of_row _ _ 1 _ _ _ (hgb n).1
  clear hfa hba hgb hbb
  refine Gro3.take0 1 (by kernel_rfl) ?_
  simp only [List.take, List.drop, List.length]
  repeat (go_big_quiet_step (fail))
  refine wpQuiet_nil ?_
  refine Gro3.callt (fun v => v = .agg #[.int .u64 (W64 ((x, (0 : Int)).1)), .int .i64 ((x, (0 : Int)).2)]) (fun _ _ => True) rfl rfl (⟨_, rfl⟩) (fun _ _ _ _ _ => trivial) (fun w1 hB hG => ?_) (fun v1 A1 hv1 hA => ?_)
  · obtain ⟨nq, rfl⟩ := hB
    clear s0 s1
    go_simp
    refine (state_28 p n _ _ _ _ _ HN1.out.1 (HS.out.stay (HGB.out nq).2)).mono ?_
    rintro e w2 ⟨rfl, hn⟩
    have HX := HBB.out _ ⟨(hn.block _ (lt_of_block (HGB.out nq).1)).trans (HGB.out nq).1, (HGB.out nq).2.trans hn⟩
    first | exact ⟨_, rfl, HX, hn, rfl⟩ | exact ⟨_, rfl, HX, hn, rfl, trivial⟩ | exact ⟨rfl, HX, hn⟩ | exact ⟨HX, hn, rfl⟩ | exact ⟨HX, hn⟩
  simp [Act.put] at hA
  subst hA
  obtain rfl := hv1
  refine Gro3.take1 2 (by kernel_rfl) ?_
  simp only [List.take, List.drop, List.length]
  repeat (go_big_quiet_step (fail))
  refine wpQuiet_nil ?_
  refine Gro3.take0 2 (by kernel_rfl) ?_
  simp only [List.take, List.drop, List.length]
  repeat (go_big_quiet_step (fail))
  refine wpQuiet_nil ?_
  refine Gro3.callt (fun v => ∃ r c, v = .slice r (([] : List (BitVec 8)).length : Nat) c) (fun v w' => ∃ r c, v = .slice r (([] : List (BitVec 8)).length : Nat) c ∧ BRow w' r (([] : List (BitVec 8)).length) c (([] : List (BitVec 8)))) rfl rfl (⟨_, none, 0, rfl⟩) (fun v w w' hn h => by obtain ⟨r, c, e, hr⟩ := h; exact ⟨r, c, e, hr.stay hn⟩) (fun w1 hB hG => ?_) (fun v2 A2 hv2 hA => ?_)
  · obtain ⟨nq, rfl⟩ := hB
    clear s0 s1
    go_simp
    refine (tail_28 p n _ _ _ _ _ HN1.out.1 (HS.out.stay (HGB.out nq).2)).mono ?_
    rintro e w2 ⟨r, c, rfl, hrow, hn⟩
    have HX := HBB.out _ ⟨(hn.block _ (lt_of_block (HGB.out nq).1)).trans (HGB.out nq).1, (HGB.out nq).2.trans hn⟩
    exact ⟨_, rfl, HX, hn, ⟨_, _, rfl⟩, ⟨_, _, rfl, hrow⟩⟩
  simp [Act.put] at hA
  subst hA
  obtain ⟨rr3, rc3, rfl⟩ := hv2
  refine Gro3.callt (fun v => v = .int .i64 0) (fun _ _ => True) rfl rfl (⟨_, rfl⟩) (fun _ _ _ _ _ => trivial) (fun w1 hB hG => ?_) (fun v3 A3 hv3 hA => ?_)
  · obtain ⟨nq, rfl⟩ := hB
    clear s0 s1
    go_simp
    first | exact ⟨⟨nq, rfl⟩, New.refl _, rfl, trivial⟩ | exact ⟨⟨nq, rfl⟩, New.refl _⟩ | exact ⟨nq, rfl⟩
  simp [Act.put] at hA
  subst hA
  obtain rfl := hv3
  refine Gro3.take0 4 (by kernel_rfl) ?_
  simp only [List.take, List.drop, List.length]
  repeat (go_big_quiet_step (fail))
  refine wpQuiet_nil ?_
  refine Gro3.callt (fun v => v = .int .u64 0) (fun _ _ => True) rfl rfl (⟨_, rfl⟩) (fun _ _ _ _ _ => trivial) (fun w1 hB hG => ?_) (fun v4 A4 hv4 hA => ?_)
  · obtain ⟨nq, rfl⟩ := hB
    clear s0 s1
    go_simp
    refine (long_28 p n _ _ _ _ _ HN1.out.1 (HS.out.stay (HGB.out nq).2)).mono ?_
    rintro e w2 ⟨rfl, rfl⟩
    have hn := New.refl (g nq)
    have HX := HBB.out _ ⟨(hn.block _ (lt_of_block (HGB.out nq).1)).trans (HGB.out nq).1, (HGB.out nq).2.trans hn⟩
    first | exact ⟨_, rfl, HX, hn, rfl⟩ | exact ⟨_, rfl, HX, hn, rfl, trivial⟩ | exact ⟨rfl, HX, hn⟩ | exact ⟨HX, hn, rfl⟩ | exact ⟨HX, hn⟩
  simp [Act.put] at hA
  subst hA
  obtain rfl := hv4
  refine Gro3.take0 2 (by kernel_rfl) ?_
  simp only [List.take, List.drop, List.length]
  repeat (go_big_quiet_step (fail))
  refine wpQuiet_nil ?_
  refine Gro3.nil ?_
  rintro w9 ⟨n9, rfl⟩ hG
  have hn := (HGB.out n9).2
  clear HFA HBA HGB HBB s0 s1
  generalize g n9 = w9 at *
  replace HS := Lib.hid (HS.out.stay hn)
  replace HT := Lib.hid (HT.out.stay hn)
  replace HO1 := Lib.hid (HO1.out.stay hn)
  replace HO2 := Lib.hid (HO2.out.stay hn)
  replace HU1 := Lib.hid (HU1.out.stay hn)
  replace HU2 := Lib.hid (HU2.out.stay hn)
  replace HF := Lib.hid ((hn.block _ (lt_of_block HF.out)).trans HF.out)
  replace HP1 := Lib.hid ((hn.block _ (lt_of_block HP1.out)).trans HP1.out)
  replace HP2 := Lib.hid ((hn.block _ (lt_of_block HP2.out)).trans HP2.out)
  replace HN := Lib.hid (HN.out.trans hn)
  clear hn hG
  have hsum : ([] : List (BitVec 8)).length + n4 ≤ 140737488355328 := by have := HLE.out; simp; omega
  go_wp2_with fail
  refine (write_28 p n HN1.out (x, 0) _ _ _ _ _ _ _ _ HS.out (HD.out.stay HN.out) hsum).mono ?_
  rintro e w9 ⟨rfl, hs, hb⟩
  simp only [List.nil_append] at hs
  clear hsum
  have hnb := HS.out.noBytes
  replace HT := Lib.hid (HT.out.but hb (by have := HPQ.out; omega) hnb)
  replace HO1 := Lib.hid (HO1.out.buts hb hnb)
  replace HO2 := Lib.hid (HO2.out.buts hb hnb)
  replace HU1 := Lib.hid (HU1.out.buts hb hnb)
  replace HU2 := Lib.hid (HU2.out.buts hb hnb)
  replace HF := Lib.hid (hb.keep (by have := HFP.out; omega) HF.out)
  replace HP1 := Lib.hid (hb.keep (by have := HLTHP10.out; omega) HP1.out)
  replace HP2 := Lib.hid (hb.keep (by have := HLTHP20.out; omega) HP2.out)
  replace HS := Lib.hid hs
  replace HN := Lib.hid (hb.new _ HN.out (HWP.out))
  clear hb hs hnb
  have f0 := cell_of_row _ _ 0 _ _ _ HF.out
  have f1 := cell_of_row _ _ 1 _ _ _ HF.out
  go_wp2_with fail
  refine (foldn_ref a0 n HSZ.out (x, 0) _ _ _ _ _ (HD.out.stay HN.out)).mono ?_
  rintro e w9 ⟨ua4, uc4, rfl, hu, hn⟩
  replace HS := Lib.hid (HS.out.stay hn)
  replace HT := Lib.hid (HT.out.stay hn)
  replace HO1 := Lib.hid (HO1.out.stay hn)
  replace HO2 := Lib.hid (HO2.out.stay hn)
  replace HU1 := Lib.hid (HU1.out.stay hn)
  replace HU2 := Lib.hid (HU2.out.stay hn)
  replace HF := Lib.hid ((hn.block _ (lt_of_block HF.out)).trans HF.out)
  replace HP1 := Lib.hid ((hn.block _ (lt_of_block HP1.out)).trans HP1.out)
  replace HP2 := Lib.hid ((hn.block _ (lt_of_block HP2.out)).trans HP2.out)
  replace HN := Lib.hid (HN.out.trans hn)
  have HU4 := Lib.hid hu
  clear hu hn f0 f1
  generalize hst4 : bState n stp28 (x, 0) l4 = st4 at *
  clear hst4
  generalize bTail n l4 = T4 at *
  have f0 := cell_of_row _ _ 0 _ _ _ HP1.out
  have f1 := cell_of_row _ _ 1 _ _ _ HP1.out
  have ff := fun i => frozen_of_row _ _ i _ _ HP1.out
  have HPB := put_28 (.int .u64 (W64 (st4.1))) (.int .i64 (st4.2)) HP1.out
  have hb : But qHP1 w9 ((w9.setCell ⟨qHP1, 0, none⟩ (.int .u64 (W64 (st4.1)))).setCell ⟨qHP1, 1, none⟩ (.int .i64 (st4.2))) := ((But.refl qHP1 w9).setCell (p := ⟨qHP1, 0, none⟩) rfl _).setCell (p := ⟨qHP1, 1, none⟩) rfl _
  have hnb : NoBytes w9 qHP1 := ⟨_, _, _, HP1.out, by simp⟩
  have hx := HPB.1
  have hw0 := And.intro (rfl : (w9.setCell ⟨qHP1, 0, none⟩ (.int .u64 (W64 (st4.1)))).setCell ⟨qHP1, 1, none⟩ (.int .i64 (st4.2)) = (w9.setCell ⟨qHP1, 0, none⟩ (.int .u64 (W64 (st4.1)))).setCell ⟨qHP1, 1, none⟩ (.int .i64 (st4.2))) trivial
  generalize hw2 : (w9.setCell ⟨qHP1, 0, none⟩ (.int .u64 (W64 (st4.1)))).setCell ⟨qHP1, 1, none⟩ (.int .i64 (st4.2)) = w10 at hx hb hw0
  have HE := Lib.hid hw2
  clear hw0 hw2 HPB
  replace HS := Lib.hid (HS.out.but hb (by have := HLTHP10.out; omega) hnb)
  replace HT := Lib.hid (HT.out.but hb (by have := HLTHP11.out; omega) hnb)
  replace HU4 := Lib.hid (HU4.out.buts hb hnb)
  have HP2Q := Lib.hid (show qHP2 ≠ qHP1 from by have := HLTHP22.out; omega)
  replace HP2 := Lib.hid (hb.keep HP2Q.out HP2.out)
  replace HP1 := Lib.hid hx
  replace HN := Lib.hid (hb.new _ HN.out HLHP1.out)
  clear hb hnb hx
  go_wp2_with (rw [HE.out])
  clear HE f0 f1 ff
  refine Gro3.wp_region_gro3S (fun w' => w'.heap[qHP1]? = some (.cells #[.int .u64 (W64 (st4.1)), .int .i64 (st4.2)] 27 (0, 0)) ∧ w'.heap[qHP2]? = some (.cells #[.int .u64 (W64 (st2.1)), .int .i64 (st2.2)] 27 (0, 0)) ∧ New w10 w') (fun w' => w'.heap[qHP1]? = some (.cells #[.int .u64 (W64 (st4.1)), .int .i64 (st4.2)] 27 (0, 0)) ∧ w'.heap[qHP2]? = some (.cells #[.int .u64 (W64 (st2.1)), .int .i64 (st2.2)] 27 (0, 0)) ∧ New w10 w') [0, 2, 1, 1, 0, 0, 2, 0, 2, 0, 0, 0, 2, 1, 1, 0, 0] New (fun _ _ _ => True) (by kernel_rfl) (by kernel_rfl) (by kernel_rfl) (fun _ _ _ _ _ _ => trivial) (fun w' hw' => hw') (⟨HP1.out, HP2.out, (New.refl _).drew⟩) ?_
  intro I J _ _ f g hfa hba hgb hbb
  have HFA := Lib.hid hfa
  have HBA := Lib.hid hba
  have HGB := Lib.hid hgb
  have HBB := Lib.hid hbb
  have s0 := fun n => cell_of_row _ _ 0 _ _ _ (hgb n).1
  have s1 := fun n => cell_of_row _ _ 1 _ _ _ (hgb n).1
  have s2 := fun n => cell_of_row _ _ 0 _ _ _ (hgb n).2.1
  have s3 := fun n => cell_of_row _ _ 1 _ _ _ (hgb n).2.1
  clear hfa hba hgb hbb
  refine Gro3.take0 1 (by kernel_rfl) ?_
  simp only [List.take, List.drop, List.length]
  repeat (go_big_quiet_step (fail))
  refine wpQuiet_nil ?_
  refine Gro3.callt (fun v => v = .agg #[.int .u64 (W64 (st4.1)), .int .i64 (st4.2)]) (fun _ _ => True) rfl rfl (⟨_, rfl⟩) (fun _ _ _ _ _ => trivial) (fun w1 hB hG => ?_) (fun v1 A1 hv1 hA => ?_)
  · obtain ⟨nq, rfl⟩ := hB
    clear s0 s1 s2 s3
    go_simp
    refine (state_28 p n _ _ _ _ _ HN1.out.1 (HS.out.stay (HGB.out nq).2.2)).mono ?_
    rintro e w2 ⟨rfl, hn⟩
    have HX := HBB.out _ ⟨(hn.block _ (lt_of_block (HGB.out nq).1)).trans (HGB.out nq).1, (hn.block _ (lt_of_block (HGB.out nq).2.1)).trans (HGB.out nq).2.1, (HGB.out nq).2.2.trans hn⟩
    first | exact ⟨_, rfl, HX, hn, rfl⟩ | exact ⟨_, rfl, HX, hn, rfl, trivial⟩ | exact ⟨rfl, HX, hn⟩ | exact ⟨HX, hn, rfl⟩ | exact ⟨HX, hn⟩
  simp [Act.put] at hA
  subst hA
  obtain rfl := hv1
  refine Gro3.take1 2 (by kernel_rfl) ?_
  simp only [List.take, List.drop, List.length]
  repeat (go_big_quiet_step (fail))
  refine wpQuiet_nil ?_
  refine Gro3.take0 2 (by kernel_rfl) ?_
  simp only [List.take, List.drop, List.length]
  repeat (go_big_quiet_step (fail))
  refine wpQuiet_nil ?_
  refine Gro3.callt (fun v => ∃ r c, v = .slice r (T4.length : Nat) c) (fun v w' => ∃ r c, v = .slice r (T4.length : Nat) c ∧ BRow w' r (T4.length) c (T4)) rfl rfl (⟨_, none, 0, rfl⟩) (fun v w w' hn h => by obtain ⟨r, c, e, hr⟩ := h; exact ⟨r, c, e, hr.stay hn⟩) (fun w1 hB hG => ?_) (fun v2 A2 hv2 hA => ?_)
  · obtain ⟨nq, rfl⟩ := hB
    clear s0 s1 s2 s3
    go_simp
    refine (tail_28 p n _ _ _ _ _ HN1.out.1 (HS.out.stay (HGB.out nq).2.2)).mono ?_
    rintro e w2 ⟨r, c, rfl, hrow, hn⟩
    have HX := HBB.out _ ⟨(hn.block _ (lt_of_block (HGB.out nq).1)).trans (HGB.out nq).1, (hn.block _ (lt_of_block (HGB.out nq).2.1)).trans (HGB.out nq).2.1, (HGB.out nq).2.2.trans hn⟩
    exact ⟨_, rfl, HX, hn, ⟨_, _, rfl⟩, ⟨_, _, rfl, hrow⟩⟩
  simp [Act.put] at hA
  subst hA
  obtain ⟨rr6, rc6, rfl⟩ := hv2
  refine Gro3.take0 1 (by kernel_rfl) ?_
  simp only [List.take, List.drop, List.length]
  repeat (go_big_quiet_step (fail))
  refine wpQuiet_nil ?_
  refine Gro3.callt (fun v => v = .bool true) (fun _ _ => True) rfl rfl (⟨_, rfl⟩) (fun _ _ _ _ _ => trivial) (fun w1 hB hG => ?_) (fun v3 A3 hv3 hA => ?_)
  · obtain ⟨nq, rfl⟩ := hB
    obtain ⟨r5, c5, e5, hz⟩ := hG
    cases e5
    have HZ := Lib.hid hz
    clear hz
    clear s0 s1 s2 s3
    go_simp
    refine (same_any _ _ _ _ _ _ T4 T4 _ HZ.out (HU4.out.stay (HGB.out nq).2.2)).mono ?_
    rintro e w2 ⟨he, rfl⟩
    have hn := New.refl (g nq)
    have HX := HBB.out _ ⟨(hn.block _ (lt_of_block (HGB.out nq).1)).trans (HGB.out nq).1, (hn.block _ (lt_of_block (HGB.out nq).2.1)).trans (HGB.out nq).2.1, (HGB.out nq).2.2.trans hn⟩
    rw [beq_self_eq_true] at he
    subst he
    first | exact ⟨_, rfl, HX, hn, rfl⟩ | exact ⟨_, rfl, HX, hn, rfl, trivial⟩ | exact ⟨rfl, HX, hn⟩ | exact ⟨HX, hn, rfl⟩ | exact ⟨HX, hn⟩
  simp [Act.put] at hA
  subst hA
  obtain rfl := hv3
  refine Gro3.take0 3 (by kernel_rfl) ?_
  simp only [List.take, List.drop, List.length]
  repeat (go_big_quiet_step (fail))
  refine wpQuiet_nil ?_
  refine Gro3.callt (fun v => v = .agg #[.int .u64 (W64 (st2.1)), .int .i64 (st2.2)]) (fun _ _ => True) rfl rfl (⟨_, rfl⟩) (fun _ _ _ _ _ => trivial) (fun w1 hB hG => ?_) (fun v4 A4 hv4 hA => ?_)
  · obtain ⟨nq, rfl⟩ := hB
    clear s0 s1 s2 s3
    go_simp
    refine (state_28 q n _ _ _ _ _ HN1.out.1 (HT.out.stay (HGB.out nq).2.2)).mono ?_
    rintro e w2 ⟨rfl, hn⟩
    have HX := HBB.out _ ⟨(hn.block _ (lt_of_block (HGB.out nq).1)).trans (HGB.out nq).1, (hn.block _ (lt_of_block (HGB.out nq).2.1)).trans (HGB.out nq).2.1, (HGB.out nq).2.2.trans hn⟩
    first | exact ⟨_, rfl, HX, hn, rfl⟩ | exact ⟨_, rfl, HX, hn, rfl, trivial⟩ | exact ⟨rfl, HX, hn⟩ | exact ⟨HX, hn, rfl⟩ | exact ⟨HX, hn⟩
  simp [Act.put] at hA
  subst hA
  obtain rfl := hv4
  refine Gro3.take1 2 (by kernel_rfl) ?_
  simp only [List.take, List.drop, List.length]
  repeat (go_big_quiet_step (fail))
  refine wpQuiet_nil ?_
  refine Gro3.take0 2 (by kernel_rfl) ?_
  simp only [List.take, List.drop, List.length]
  repeat (go_big_quiet_step (fail))
  refine wpQuiet_nil ?_
  refine Gro3.nil ?_
  rintro w9 ⟨n9, rfl⟩ hG
  have hn := (HGB.out n9).2.2
  clear HFA HBA HGB HBB s0 s1 s2 s3
  generalize g n9 = w9 at *
  have HNZ := Lib.hid (HN.out.trans hn)
  clear hn hG
  go_wp2
  go_ret
  exact ⟨rfl, HNZ.out⟩
end Go.Proofs.Ytegibnffingciaa
