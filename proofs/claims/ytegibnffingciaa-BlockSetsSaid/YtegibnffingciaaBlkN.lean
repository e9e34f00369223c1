/- The law BlockSets, walked. -/
import Derived.Test.YtegibnffingciaaBlkK
import Derived.Defers
import Derived.Recover
import Derived.Laws.Pointers
import Derived.Handy
import Derived.Laws.EntriesVeiled
namespace Go.Proofs.Ytegibnffingciaa
open Go.RowKit Go.Bv
set_option linter.unusedVariables false
theorem intn_facts : True := trivial
theorem imade_n (w : World) : Calls Try.prog 85 #[.pointer none] w fun e w' => e = .returned (.bool false) ∧ w' = w := by
  go_enter Try.func85, Try.ntmps85
  go_wp2
  go_ret
  exact ⟨rfl, rfl⟩
theorem ilong_n (w : World) : Calls Try.prog 38 #[.pointer none] w fun e w' => e = .returned (.int .u64 0) ∧ w' = w := by
  go_enter Try.func38, Try.ntmps38
  go_wp2_with (refine (imade_n _).mono ?_; rintro e w' ⟨rfl, rfl⟩)
  go_ret
  exact ⟨rfl, rfl⟩
theorem itail_n (w : World) : Calls Try.prog 37 #[.pointer none] w fun e w' => e = .returned (.slice none 0 0) ∧ w' = w := by
  go_enter Try.func37, Try.ntmps37
  go_wp2_with (refine (imade_n _).mono ?_; rintro e w' ⟨rfl, rfl⟩)
  go_ret
  exact ⟨rfl, rfl⟩
theorem istate_n (w : World) : Calls Try.prog 36 #[.pointer none] w fun e w' => e = .returned (.int .i64 0) ∧ w' = w := by
  go_enter Try.func36, Try.ntmps36
  go_wp2_with (refine (imade_n _).mono ?_; rintro e w' ⟨rfl, rfl⟩)
  go_ret
  exact ⟨rfl, rfl⟩
theorem ireset_n (w : World) : Calls Try.prog 35 #[.pointer none] w fun e w' => e = .returned (.tuple #[]) ∧ w' = w := by
  go_enter Try.func35, Try.ntmps35
  go_wp2_with (refine (imade_n _).mono ?_; rintro e w' ⟨rfl, rfl⟩)
  go_end0
  exact ⟨rfl, rfl⟩
theorem iwrite_n (v : Value) (w : World) : Calls Try.prog 34 #[.pointer none, v] w fun e w' => e = .returned (.tuple #[]) ∧ w' = w := by
  go_enter Try.func34, Try.ntmps34
  go_wp2_with (refine (imade_n _).mono ?_; rintro e w' ⟨rfl, rfl⟩)
  first | go_end0 | refine bodyPost_ret (results_none rfl _ _ _) rfl ?_
  exact ⟨rfl, rfl⟩
theorem iclone_n (w : World) : Calls Try.prog 39 #[.pointer none] w fun e w' => e = .returned (.pointer none) ∧ w' = w := by
  go_enter Try.func39, Try.ntmps39
  go_wp2_with (refine (imade_n _).mono ?_; rintro e w' ⟨rfl, rfl⟩)
  go_ret
  exact ⟨rfl, rfl⟩
theorem iset_n (s l v : Value) (w : World) : Calls Try.prog 40 #[.pointer none, s, l, v] w fun e w' => e = .returned (.bool false) ∧ w' = w := by
  go_enter Try.func40, Try.ntmps40
  go_wp2_with (refine (imade_n _).mono ?_; rintro e w' ⟨rfl, rfl⟩)
  go_ret
  exact ⟨rfl, rfl⟩
set_option maxRecDepth 100000 in
set_option maxHeartbeats 8000000 in
theorem BlockSets_walk (W : World) (a0 : Int) (w0 : (Lit.int .i64 a0).wf = true) (a1 : Int) (w1 : (Lit.int .u64 a1).wf = true) (a2 : Int) (w2 : (Lit.int .u64 a2).wf = true) (a3 : Option Addr) (n3 m3 : Nat) (z3 : List Int) (w3 : IRow .u8 W a3 n3 m3 z3) (r3 : m3 * 1 ≤ 140737488351232) (a4 : Option Addr) (n4 m4 : Nat) (z4 : List Int) (w4 : IRow .u8 W a4 n4 m4 z4) (r4 : m4 * 1 ≤ 140737488351232) :
    Calls Try.prog 5 #[.int .i64 a0, .int .u64 a1, .int .u64 a2, .slice a3 n3 m3, .slice a4 n4 m4] W fun e w' => e = .returned (.bool true) ∧ Below W.heap.size W w' := by
  obtain ⟨x, rfl⟩ := ex64 a1 (by simp [Lit.wf, IntKind.min, IntKind.max, IntKind.signed, IntKind.bits] at w1; omega)
  obtain ⟨lo, rfl⟩ := ex64 a2 (by simp [Lit.wf, IntKind.min, IntKind.max, IntKind.signed, IntKind.bits] at w2; omega)
  obtain ⟨l3, hl3⟩ := w3.bytes r3
  obtain ⟨l4, hl4⟩ := w4.bytes r4
  have HC := Lib.hid hl3
  have HD := Lib.hid hl4
  have HQC := Lib.hid hl3.len_eq
  have HQD := Lib.hid hl4.len_eq
  obtain ⟨n, hn⟩ : ∃ n, szN a0 = n := ⟨_, rfl⟩
  have hn1 : 1 ≤ n ∧ n ≤ 64 := hn ▸ szN_in a0
  have HSZ := Lib.hid hn
  have HSR := Lib.hid (fun w => size_ref a0 w)
  rw [hn] at HSR
  have HN1 := Lib.hid hn1
  have hnz : ¬ W64 (BitVec.ofNat 64 n) = 0 := by unfold W64; rw [BitVec.toNat_ofNat]; omega
  clear w0 w1 w2 w3 w4 r3 r4 hl3 hl4 hn hn1
  have HNW := Lib.hid (fun w => new_28 a0 (0#64, 0) w)
  rw [show W64 (0#64, (0 : Int)).1 = 0 by decide] at HNW
  have HA := Lib.hid (awake28 W)
  obtain ⟨ft, hft⟩ : ∃ b, (BitVec.ofNat 64 n3 != lo % BitVec.ofNat 64 n) = b := ⟨_, rfl⟩
  have hft2 : (W64 (BitVec.ofNat 64 n3) == W64 (lo % BitVec.ofNat 64 n)) = !ft := by
    rw [eq_u64, ← hft]; simp [bne]
  have HFT := Lib.hid hft
  have hft3 : (BitVec.ofNat 64 n3 == lo % BitVec.ofNat 64 n) = !ft := by rw [← hft]; simp [bne]
  clear hft
  go_enter Try.func5, Try.ntmps5
  go_wp2_with fail
  refine (HA.out).mono ?_
  rintro e w9 ⟨rfl, hn⟩
  have HN := Lib.hid hn
  clear hn HA
  by_cases hs : (100 : Int) < (n3 : Int) ∨ (300 : Int) < (n4 : Int)
  · by_cases hs2 : (100 : Int) < (n3 : Int)
    · go_wp2
      go_ret
      exact ⟨rfl, HN.out⟩
    · have hs3 : (300 : Int) < (n4 : Int) := by omega
      go_wp2
      go_ret
      exact ⟨rfl, HN.out⟩
  have hs2 : ¬ (100 : Int) < (n3 : Int) := by omega
  have hs3 : ¬ (300 : Int) < (n4 : Int) := by omega
  have HLE : Hid (n3 ≤ 100 ∧ n4 ≤ 300) := Lib.hid (by omega)
  clear hs
  go_wp2_with fail
  refine (HNW.out _).mono ?_
  rintro e w9 ⟨p, rfl, hp, hs, hn⟩
  rw [HSZ.out] at hs
  have HWP : Hid (W.heap.size ≤ p) := Lib.hid (Nat.le_trans HN.out.le hp)
  replace HN := Lib.hid (HN.out.trans hn)
  have HS := Lib.hid hs
  clear hs hn hp HNW hs2 hs3
  have hx := heap_alloc_new w9 (.cells #[.int .u64 (W64 x), .int .i64 7] 27)
  have hn2 := (New.refl w9).alloc (.cells #[.int .u64 (W64 x), .int .i64 7] 27)
  obtain ⟨qHF, hq⟩ : ∃ q, w9.heap.size = q := ⟨_, rfl⟩
  have hle := HN.out.le
  rw [hq] at hx hle
  have hw0 := And.intro (rfl : w9.alloc (.cells #[.int .u64 (W64 x), .int .i64 7] 27) = w9.alloc (.cells #[.int .u64 (W64 x), .int .i64 7] 27)) hq
  have HLTHF0 := Lib.hid (show p < qHF from hq ▸ HS.out.lt)
  generalize hw2 : w9.alloc (.cells #[.int .u64 (W64 x), .int .i64 7] 27) = w10 at hx hn2 hw0
  have HE := Lib.hid (show w9.alloc (.cells #[.int .u64 (W64 x), .int .i64 7] 27) = w10 ∧ w9.heap.size = qHF from ⟨hw2, hq⟩)
  clear hw0 hw2
  replace HS := Lib.hid (HS.out.stay hn2)
  replace HN := Lib.hid (HN.out.trans hn2)
  have HF := Lib.hid hx
  have HLHF := Lib.hid hle
  clear hx hn2 hq hle
  have f0 := cell_of_row _ _ 0 _ _ _ HF.out
  have f1 := cell_of_row _ _ 1 _ _ _ HF.out
  go_wp2_with (rw [HE.out.1, HE.out.2])
  refine (HSR.out _).mono ?_
  rintro e w9 ⟨rfl, rfl⟩
  clear HE
  cases ft
  · go_wp2_with fail
    refine (sety_28 p n HN1.out _ _ _ _ (x, 7) lo _ _ _ _ _ HS.out (HC.out.stay HN.out) HFT.out).mono ?_
    rintro e w9 ⟨rfl, hs, hb⟩
    have hnb := HS.out.noBytes
    replace HF := Lib.hid (hb.keep (by have := HLTHF0.out; omega) HF.out)
    replace HS := Lib.hid hs
    replace HN := Lib.hid (hb.new _ HN.out (HWP.out))
    clear hb hs hnb
    clear f0 f1
    have hsum : l3.length + n4 ≤ 140737488355328 := by have := HLE.out; rw [HQC.out]; omega
    go_wp2_with fail
    refine (write_28 p n HN1.out _ _ _ _ _ _ _ _ _ HS.out (HD.out.stay HN.out) hsum).mono ?_
    rintro e w9 ⟨rfl, hs, hb⟩
    clear hsum hft2 hft3
    have hnb := HS.out.noBytes
    replace HF := Lib.hid (hb.keep (by have := HLTHF0.out; omega) HF.out)
    replace HS := Lib.hid hs
    replace HN := Lib.hid (hb.new _ HN.out (HWP.out))
    clear hb hs hnb
    have HT1 : Hid ((bTail n (l3 ++ l4)).length = (n3 + n4) % n) := Lib.hid (by rw [bTail_len, List.length_append, HQC.out, HQD.out])
    have HFO := Lib.hid (fun (w' : World) r c (hr : BRow w' r (n3 + n4) c (l3 ++ l4)) => foldn_ref a0 n HSZ.out (x, 7) r (n3 + n4) c (l3 ++ l4) w' hr)
    generalize bState n stp28 (x, 7) (l3 ++ l4) = st1 at *
    generalize bTail n (l3 ++ l4) = T1 at *
    go_wp2_with fail
    refine Gro3.wp_region_gro3S (fun w' => New w9 w') (fun w' => w'.heap[qHF]? = some (.cells #[.int .u64 (W64 x), .int .i64 7] 27 (0, 0)) ∧ New w9 w') [0,1,0,0,2,2,0,0,0,4,3,0] New (fun _ q w' => Lies w' q (.cells #[.int .u64 0, .int .i64 0] 27 (0, 0)) ∧ w9.heap.size ≤ q) (by kernel_rfl) (by kernel_rfl) (by kernel_rfl) (fun k q w w' hn h => ⟨(hn.block _ (lt_of_block h.1)).trans h.1, h.2⟩) (fun w' hw' => hw'.2) (⟨HF.out, (New.refl _).drew⟩) ?_
    intro I J _ _ f g hfa hba hgb hbb
    have HFA := Lib.hid hfa
    have HBA := Lib.hid hba
    have HGB := Lib.hid hgb
    have HBB := Lib.hid hbb
    have s0 := fun n => cell_of_row _ _ 0 _ _ _ (hgb n).1
    have s1 := fun n => cell_of_row _ _ 1 _ _ _ (hgb n).1
    clear hfa hba hgb hbb
    refine Gro3.take0 1 (by kernel_rfl) ?_
    simp only [List.take, List.drop, List.length]
    repeat (go_big_quiet_step (fail))
    refine wpQuiet_nil ?_
    refine Gro3.take1 1 (by kernel_rfl) ?_
    simp only [List.take, List.drop, List.length]
    repeat (go_big_quiet_step (fail))
    refine wpQuiet_nil ?_
    refine Gro3.take0 2 (by kernel_rfl) ?_
    simp only [List.take, List.drop, List.length]
    repeat (go_big_quiet_step (fail))
    refine wpQuiet_nil ?_
    refine Gro3.callt (fun v => ∃ r c, v = .slice r (n3 + n4 : Nat) c) (fun v w' => ∃ r c, v = .slice r (n3 + n4 : Nat) c ∧ BRow w' r (n3 + n4) c (l3 ++ l4)) rfl rfl (⟨_, none, 0, rfl⟩) (fun v w w' hn h => by obtain ⟨r, c, e, hr⟩ := h; exact ⟨r, c, e, hr.stay hn⟩) (fun w1 hB hG => ?_) (fun v1 A1 hv1 hA => ?_)
    · obtain ⟨nq, rfl⟩ := hB
      clear s0 s1
      go_simp
      refine (both_ref a3 a4 n3 m3 n4 m4 l3 l4 W _ (HC.out.stay (HN.out.trans (HGB.out nq).2)) (HD.out.stay (HN.out.trans (HGB.out nq).2)) (by have := HLE.out; omega) (HN.out.trans (HGB.out nq).2)).mono ?_
      rintro e w2 ⟨r, c, rfl, hrow, hn, _⟩
      have HX := HBB.out _ ⟨(hn.block _ (lt_of_block (HGB.out nq).1)).trans (HGB.out nq).1, (HGB.out nq).2.trans hn⟩
      exact ⟨_, rfl, HX, hn, ⟨_, _, rfl⟩, ⟨_, _, rfl, hrow⟩⟩
    simp [Act.put] at hA
    subst hA
    obtain ⟨ro, co, rfl⟩ := hv1
    refine Gro3.callt (fun v => ∃ r c, v = .tuple #[.agg #[.int .u64 (W64 (st1.1)), .int .i64 (st1.2)], .slice r ((n3 + n4) % n : Nat) c]) (fun v w' => ∃ r c, v = .tuple #[.agg #[.int .u64 (W64 (st1.1)), .int .i64 (st1.2)], .slice r ((n3 + n4) % n : Nat) c] ∧ BRow w' r ((n3 + n4) % n) c T1) rfl rfl (⟨_, none, 0, rfl⟩) (fun v w w' hn h => by obtain ⟨r, c, e, hr⟩ := h; exact ⟨r, c, e, hr.stay hn⟩) (fun w1 hB hG => ?_) (fun v2 A2 hv2 hA => ?_)
    · obtain ⟨nq, rfl⟩ := hB
      obtain ⟨r5, c5, e5, hz⟩ := hG
      cases e5
      have HZ := Lib.hid hz
      clear hz s0 s1
      go_simp
      refine (HFO.out _ _ _ HZ.out).mono ?_
      rintro e w2 ⟨r, c, rfl, hrow, hn⟩
      have HX := HBB.out _ ⟨(hn.block _ (lt_of_block (HGB.out nq).1)).trans (HGB.out nq).1, (HGB.out nq).2.trans hn⟩
      exact ⟨_, rfl, HX, hn, ⟨_, _, rfl⟩, ⟨_, _, rfl, hrow⟩⟩
    simp [Act.put] at hA
    subst hA
    obtain ⟨ra, ca, rfl⟩ := hv2
    refine Gro3.take0 3 (by kernel_rfl) ?_
    simp only [List.take, List.drop, List.length]
    repeat (go_big_quiet_step (fail))
    refine wpQuiet_nil ?_
    refine Gro3.alloc rfl rfl (fun w1 hB => ?_) (fun qG A3 hA => ?_)
    · obtain ⟨nq, rfl⟩ := hB
      have hal := (New.refl (g nq)).alloc (.cells #[.int .u64 0, .int .i64 0] 27)
      have HX := Lib.hid (HBB.out _ ⟨(hal.block _ (lt_of_block (HGB.out nq).1)).trans (HGB.out nq).1, (HGB.out nq).2.trans hal⟩)
      have HNL := Lib.hid hal
      have HLZ := Lib.hid (show Lies _ _ _ from heap_alloc_new (g nq) (.cells #[.int .u64 0, .int .i64 0] 27))
      have HLE9 := Lib.hid (HGB.out nq).2.le
      clear hal s0 s1
      go_simp
      first | exact ⟨_, rfl, HX.out, HNL.out, HLZ.out, HLE9.out⟩ | exact ⟨HX.out, HNL.out, HLZ.out, HLE9.out⟩
    simp [Act.put] at hA
    subst hA
    refine Gro3.turn (fun v => v = undef) (fun _ w9 => Lies w9 qG (.cells #[.int .u64 (W64 (st1.1)), .int .i64 (st1.2)] 27 (0, 0)) ∧ BRow w9 ra ((n3 + n4) % n) ca T1) rfl rfl ⟨_, rfl⟩ (fun w1 hB hG => ?_) (fun v4 A4 hv4 hA => ?_)
    · obtain ⟨nq, rfl⟩ : ∃ nq, w1 = g nq := hB
      obtain ⟨⟨r5, c5, e5, hz⟩, hli, hge⟩ := hG
      cases e5
      have HX := Lib.hid (HGB.out nq)
      have HLI0 := Lib.hid hli
      have HGE := Lib.hid hge
      have c0 := cell_of_row _ _ 0 _ _ _ hli
      have c1 := cell_of_row _ _ 1 _ _ _ hli
      have cf := fun i => frozen_of_row _ _ i _ _ hli
      have HP := Lib.hid (put_28 (.int .u64 (W64 (st1.1))) (.int .i64 (st1.2)) hli)
      have HROW := Lib.hid (hz.but (by simp) (fun y e h0 => HP.out.2.1 _ (hz.apart ⟨_, _, _, hli, by simp⟩ y e h0)))
      have HLI := Lib.hid (show Lies _ _ _ from HP.out.1)
      clear hz hli hge s0 s1
      go_simp
      exact ⟨HBA.out _ (HP.out.2.2 _ HX.out.2 HGE.out), HLI.out, HROW.out⟩
    simp [Act.put] at hA
    subst hA
    refine Gro3.take0 1 (by kernel_rfl) ?_
    simp only [List.take, List.drop, List.length]
    repeat (go_big_quiet_step (fail))
    refine wpQuiet_nil ?_
    refine Gro3.nil ?_
    rintro w10 ⟨n9, rfl⟩ hG
    have hn := HFA.out n9
    obtain ⟨hli, hrow⟩ := hG
    have HU1 := Lib.hid hrow
    have HG1 := Lib.hid (show (f n9).heap[qG]? = _ from hli)
    clear HFA HBA HGB HBB hli hrow s0 s1
    generalize f n9 = w9 at *
    replace HS := Lib.hid (HS.out.stay hn)
    replace HF := Lib.hid ((hn.block _ (lt_of_block HF.out)).trans HF.out)
    replace HN := Lib.hid (HN.out.trans hn)
    clear hn
    go_wp2_with fail
    refine (iwrite_n _ _).mono ?_
    rintro e w9 ⟨rfl, rfl⟩
    go_wp2_with fail
    refine (ireset_n _).mono ?_
    rintro e w9 ⟨rfl, rfl⟩
    have he := equ28s
    go_wp2_with fail
    refine Gro3.wp_region_gro3S (fun w' => w'.heap[qG]? = some (.cells #[.int .u64 (W64 (st1.1)), .int .i64 (st1.2)] 27 (0, 0)) ∧ New w9 w') (fun w' => w'.heap[qG]? = some (.cells #[.int .u64 (W64 (st1.1)), .int .i64 (st1.2)] 27 (0, 0)) ∧ New w9 w') [0, 2, 1, 1, 0, 0, 2, 0, 2, 0, 0, 0, 2, 0, 0, 0, 0, 0, 0, 0, 0, 0, 2, 0, 0, 0, 0, 2, 0, 0, 0, 0, 0, 2, 0, 0, 0, 0, 2, 0, 0, 0, 0, 2, 0, 0, 0] New (fun _ _ _ => True) (by kernel_rfl) (by kernel_rfl) (by kernel_rfl) (fun _ _ _ _ _ _ => trivial) (fun w' hw' => hw') (⟨HG1.out, (New.refl _).drew⟩) ?_
    intro I J _ _ f g hfa hba hgb hbb
    have HFA := Lib.hid hfa
    have HBA := Lib.hid hba
    have HGB := Lib.hid hgb
    have HBB := Lib.hid hbb
    have s0 := fun n => cell_of_row _ _ 0 _ _ _ (hgb n).1
    have s1 := fun n => cell_of_row _ _ 1 _ _ _ (hgb n).1
    clear hfa hba hgb hbb
    refine Gro3.take0 1 (by kernel_rfl) ?_
    simp only [List.take, List.drop, List.length]
    repeat (go_big_quiet_step (fail))
    refine wpQuiet_nil ?_
    refine Gro3.callt (fun v => v = .agg #[.int .u64 (W64 (st1.1)), .int .i64 (st1.2)]) (fun _ _ => True) rfl rfl (⟨_, rfl⟩) (fun _ _ _ _ _ => trivial) (fun w1 hB hG => ?_) (fun v1 A1 hv1 hA => ?_)
    · obtain ⟨nq, rfl⟩ := hB
      clear s0 s1
      go_simp
      refine (state_28 p n _ _ _ _ _ HN1.out.1 (HS.out.stay (HGB.out nq).2)).mono ?_
      rintro e w2 ⟨rfl, hn⟩
      have HX := HBB.out _ ⟨(hn.block _ (lt_of_block (HGB.out nq).1)).trans (HGB.out nq).1, (HGB.out nq).2.trans hn⟩
      first | exact ⟨_, rfl, HX, hn, rfl⟩ | exact ⟨_, rfl, HX, hn, rfl, trivial⟩ | exact ⟨rfl, HX, hn⟩ | exact ⟨HX, hn, rfl⟩ | exact ⟨HX, hn⟩
    simp [Act.put] at hA
    subst hA
    obtain rfl := hv1
    refine Gro3.take1 2 (by kernel_rfl) ?_
    simp only [List.take, List.drop, List.length]
    repeat (go_big_quiet_step (fail))
    refine wpQuiet_nil ?_
    refine Gro3.take0 2 (by kernel_rfl) ?_
    simp only [List.take, List.drop, List.length]
    repeat (go_big_quiet_step (fail))
    refine wpQuiet_nil ?_
    refine Gro3.callt (fun v => ∃ r c, v = .slice r (T1.length : Nat) c) (fun v w' => ∃ r c, v = .slice r (T1.length : Nat) c ∧ BRow w' r (T1.length) c (T1)) rfl rfl (⟨_, none, 0, rfl⟩) (fun v w w' hn h => by obtain ⟨r, c, e, hr⟩ := h; exact ⟨r, c, e, hr.stay hn⟩) (fun w1 hB hG => ?_) (fun v2 A2 hv2 hA => ?_)
    · obtain ⟨nq, rfl⟩ := hB
      clear s0 s1
      go_simp
      refine (tail_28 p n _ _ _ _ _ HN1.out.1 (HS.out.stay (HGB.out nq).2)).mono ?_
      rintro e w2 ⟨r, c, rfl, hrow, hn⟩
      have HX := HBB.out _ ⟨(hn.block _ (lt_of_block (HGB.out nq).1)).trans (HGB.out nq).1, (HGB.out nq).2.trans hn⟩
      exact ⟨_, rfl, HX, hn, ⟨_, _, rfl⟩, ⟨_, _, rfl, hrow⟩⟩
    simp [Act.put] at hA
    subst hA
    obtain ⟨rr1, rc1, rfl⟩ := hv2
    refine Gro3.take0 1 (by kernel_rfl) ?_
    simp only [List.take, List.drop, List.length]
    repeat (go_big_quiet_step (fail))
    refine wpQuiet_nil ?_
    refine Gro3.callt (fun v => v = .bool true) (fun _ _ => True) rfl rfl (⟨_, rfl⟩) (fun _ _ _ _ _ => trivial) (fun w1 hB hG => ?_) (fun v3 A3 hv3 hA => ?_)
    · obtain ⟨nq, rfl⟩ := hB
      obtain ⟨r5, c5, e5, hz⟩ := hG
      cases e5
      have HZ := Lib.hid hz
      clear hz
      clear s0 s1
      go_simp
      refine (same_any _ _ _ _ _ _ T1 T1 _ HZ.out (HU1.out.stay (HGB.out nq).2)).mono ?_
      rintro e w2 ⟨he, rfl⟩
      have hn := New.refl (g nq)
      have HX := HBB.out _ ⟨(hn.block _ (lt_of_block (HGB.out nq).1)).trans (HGB.out nq).1, (HGB.out nq).2.trans hn⟩
      rw [beq_self_eq_true] at he
      subst he
      first | exact ⟨_, rfl, HX, hn, rfl⟩ | exact ⟨_, rfl, HX, hn, rfl, trivial⟩ | exact ⟨rfl, HX, hn⟩ | exact ⟨HX, hn, rfl⟩ | exact ⟨HX, hn⟩
    simp [Act.put] at hA
    subst hA
    obtain rfl := hv3
    refine Gro3.take0 3 (by kernel_rfl) ?_
    simp only [List.take, List.drop, List.length]
    repeat (go_big_quiet_step (fail))
    refine wpQuiet_nil ?_
    refine Gro3.callt (fun v => v = .int .u64 (W64 (lo + BitVec.ofNat 64 n4))) (fun _ _ => True) rfl rfl (⟨_, rfl⟩) (fun _ _ _ _ _ => trivial) (fun w1 hB hG => ?_) (fun v4 A4 hv4 hA => ?_)
    · obtain ⟨nq, rfl⟩ := hB
      clear s0 s1
      go_simp
      refine (long_28 p n _ _ _ _ _ HN1.out.1 (HS.out.stay (HGB.out nq).2)).mono ?_
      rintro e w2 ⟨rfl, rfl⟩
      have hn := New.refl (g nq)
      have HX := HBB.out _ ⟨(hn.block _ (lt_of_block (HGB.out nq).1)).trans (HGB.out nq).1, (HGB.out nq).2.trans hn⟩
      first | exact ⟨_, rfl, HX, hn, rfl⟩ | exact ⟨_, rfl, HX, hn, rfl, trivial⟩ | exact ⟨rfl, HX, hn⟩ | exact ⟨HX, hn, rfl⟩ | exact ⟨HX, hn⟩
    simp [Act.put] at hA
    subst hA
    obtain rfl := hv4
    refine Gro3.take0 2 (by kernel_rfl) ?_
    simp only [List.take, List.drop, List.length]
    repeat (go_big_quiet_step (fail))
    refine wpQuiet_nil ?_
    refine Gro3.blen (.tmp 96) 23 5 (a4) (n4) (m4) rfl rfl rfl Try.underlying23 rfl (fun A5 hA => ?_)
    simp [Act.put] at hA
    subst hA
    refine Gro3.take0 6 (by kernel_rfl) ?_
    simp only [List.take, List.drop, List.length]
    repeat (go_big_quiet_step (fail))
    refine wpQuiet_nil ?_
    refine Gro3.callt (fun v => v = .int .i64 0) (fun _ _ => True) rfl rfl (⟨_, rfl⟩) (fun _ _ _ _ _ => trivial) (fun w1 hB hG => ?_) (fun v6 A6 hv6 hA => ?_)
    · obtain ⟨nq, rfl⟩ := hB
      clear s0 s1
      go_simp
      refine (istate_n _).mono ?_
      rintro e w2 ⟨rfl, rfl⟩
      have hn := New.refl (g nq)
      have HX := HBB.out _ ⟨(hn.block _ (lt_of_block (HGB.out nq).1)).trans (HGB.out nq).1, (HGB.out nq).2.trans hn⟩
      first | exact ⟨_, rfl, HX, hn, rfl⟩ | exact ⟨_, rfl, HX, hn, rfl, trivial⟩ | exact ⟨rfl, HX, hn⟩ | exact ⟨HX, hn, rfl⟩ | exact ⟨HX, hn⟩
    simp [Act.put] at hA
    subst hA
    obtain rfl := hv6
    refine Gro3.take0 4 (by kernel_rfl) ?_
    simp only [List.take, List.drop, List.length]
    repeat (go_big_quiet_step (fail))
    refine wpQuiet_nil ?_
    refine Gro3.callt (fun v => v = .slice none 0 0) (fun _ _ => True) rfl rfl (⟨_, rfl⟩) (fun _ _ _ _ _ => trivial) (fun w1 hB hG => ?_) (fun v7 A7 hv7 hA => ?_)
    · obtain ⟨nq, rfl⟩ := hB
      clear s0 s1
      go_simp
      refine (itail_n _).mono ?_
      rintro e w2 ⟨rfl, rfl⟩
      have hn := New.refl (g nq)
      have HX := HBB.out _ ⟨(hn.block _ (lt_of_block (HGB.out nq).1)).trans (HGB.out nq).1, (HGB.out nq).2.trans hn⟩
      first | exact ⟨_, rfl, HX, hn, rfl⟩ | exact ⟨_, rfl, HX, hn, rfl, trivial⟩ | exact ⟨rfl, HX, hn⟩ | exact ⟨HX, hn, rfl⟩ | exact ⟨HX, hn⟩
    simp [Act.put] at hA
    subst hA
    obtain rfl := hv7
    refine Gro3.blen (.tmp 109) 23 5 (none) (0) (0) rfl rfl rfl Try.underlying23 rfl (fun A8 hA => ?_)
    simp [Act.put] at hA
    subst hA
    refine Gro3.take0 4 (by kernel_rfl) ?_
    simp only [List.take, List.drop, List.length]
    repeat (go_big_quiet_step (fail))
    refine wpQuiet_nil ?_
    refine Gro3.callt (fun v => v = .int .u64 0) (fun _ _ => True) rfl rfl (⟨_, rfl⟩) (fun _ _ _ _ _ => trivial) (fun w1 hB hG => ?_) (fun v9 A9 hv9 hA => ?_)
    · obtain ⟨nq, rfl⟩ := hB
      clear s0 s1
      go_simp
      refine (ilong_n _).mono ?_
      rintro e w2 ⟨rfl, rfl⟩
      have hn := New.refl (g nq)
      have HX := HBB.out _ ⟨(hn.block _ (lt_of_block (HGB.out nq).1)).trans (HGB.out nq).1, (HGB.out nq).2.trans hn⟩
      first | exact ⟨_, rfl, HX, hn, rfl⟩ | exact ⟨_, rfl, HX, hn, rfl, trivial⟩ | exact ⟨rfl, HX, hn⟩ | exact ⟨HX, hn, rfl⟩ | exact ⟨HX, hn⟩
    simp [Act.put] at hA
    subst hA
    obtain rfl := hv9
    refine Gro3.take0 4 (by kernel_rfl) ?_
    simp only [List.take, List.drop, List.length]
    repeat (go_big_quiet_step (fail))
    refine wpQuiet_nil ?_
    refine Gro3.callt (fun v => v = .pointer none) (fun _ _ => True) rfl rfl (⟨_, rfl⟩) (fun _ _ _ _ _ => trivial) (fun w1 hB hG => ?_) (fun v10 A10 hv10 hA => ?_)
    · obtain ⟨nq, rfl⟩ := hB
      clear s0 s1
      go_simp
      refine (iclone_n _).mono ?_
      rintro e w2 ⟨rfl, rfl⟩
      have hn := New.refl (g nq)
      have HX := HBB.out _ ⟨(hn.block _ (lt_of_block (HGB.out nq).1)).trans (HGB.out nq).1, (HGB.out nq).2.trans hn⟩
      first | exact ⟨_, rfl, HX, hn, rfl⟩ | exact ⟨_, rfl, HX, hn, rfl, trivial⟩ | exact ⟨rfl, HX, hn⟩ | exact ⟨HX, hn, rfl⟩ | exact ⟨HX, hn⟩
    simp [Act.put] at hA
    subst hA
    obtain rfl := hv10
    refine Gro3.take0 4 (by kernel_rfl) ?_
    simp only [List.take, List.drop, List.length]
    repeat (go_big_quiet_step (fail))
    refine wpQuiet_nil ?_
    refine Gro3.callt (fun v => v = .bool false) (fun _ _ => True) rfl rfl (⟨_, rfl⟩) (fun _ _ _ _ _ => trivial) (fun w1 hB hG => ?_) (fun v11 A11 hv11 hA => ?_)
    · obtain ⟨nq, rfl⟩ := hB
      clear s0 s1
      go_simp
      refine (iset_n _ _ _ _).mono ?_
      rintro e w2 ⟨rfl, rfl⟩
      have hn := New.refl (g nq)
      have HX := HBB.out _ ⟨(hn.block _ (lt_of_block (HGB.out nq).1)).trans (HGB.out nq).1, (HGB.out nq).2.trans hn⟩
      first | exact ⟨_, rfl, HX, hn, rfl⟩ | exact ⟨_, rfl, HX, hn, rfl, trivial⟩ | exact ⟨rfl, HX, hn⟩ | exact ⟨HX, hn, rfl⟩ | exact ⟨HX, hn⟩
    simp [Act.put] at hA
    subst hA
    obtain rfl := hv11
    refine Gro3.take0 3 (by kernel_rfl) ?_
    simp only [List.take, List.drop, List.length]
    repeat (go_big_quiet_step (fail))
    refine wpQuiet_nil ?_
    refine Gro3.nil ?_
    rintro w9 ⟨n9, rfl⟩ hG
    have hn := (HGB.out n9).2
    clear HFA HBA HGB HBB s0 s1
    generalize g n9 = w9 at *
    have HNZ := Lib.hid (HN.out.trans hn)
    clear hn hG
    go_wp2
    go_ret
    exact ⟨rfl, HNZ.out⟩
  · go_wp2_with fail
    refine (setn_28 p n HN1.out _ _ _ _ (x, 7) lo _ _ _ _ _ HS.out (HC.out.stay HN.out) HFT.out).mono ?_
    rintro e w9 ⟨rfl, hn⟩
    replace HS := Lib.hid (HS.out.stay hn)
    replace HF := Lib.hid ((hn.block _ (lt_of_block HF.out)).trans HF.out)
    replace HN := Lib.hid (HN.out.trans hn)
    clear hn f0 f1
    have he := (fun w => equ28s w (0#64, (0 : Int)))
    rw [show W64 (0#64, (0 : Int)).1 = 0 by decide] at he
    go_wp2_with fail
    refine (state_28 p n _ _ _ _ _ HN1.out.1 HS.out).mono ?_
    rintro e w9 ⟨rfl, hn⟩
    replace HS := Lib.hid (HS.out.stay hn)
    replace HF := Lib.hid ((hn.block _ (lt_of_block HF.out)).trans HF.out)
    replace HN := Lib.hid (HN.out.trans hn)
    clear hn
    rw [show W64 (0#64, (0 : Int)).1 = 0 by decide]
    go_wp2_with fail
    refine (long_28 p n _ _ _ _ _ HN1.out.1 HS.out).mono ?_
    rintro e w9 ⟨rfl, rfl⟩
    rw [show W64 0#64 = 0 by decide]
    go_wp2_with fail
    refine (tail_28 p n _ _ _ _ _ HN1.out.1 HS.out).mono ?_
    rintro e w9 ⟨rt, ct, rfl, _, hn⟩
    have HNZ := Lib.hid (HN.out.trans hn)
    clear hn
    go_wp2
    go_ret
    exact ⟨rfl, HNZ.out⟩
end Go.Proofs.Ytegibnffingciaa
