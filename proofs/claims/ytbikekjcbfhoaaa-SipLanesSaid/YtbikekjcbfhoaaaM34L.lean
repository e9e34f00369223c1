/- Layer 34: the law Lanes. -/
import Derived.Test.YtbikekjcbfhoaaaM34K
import Derived.Test.YtbikekjcbfhoaaaBoth
import Derived.Defers
import Derived.Recover
import Derived.Laws.Pointers
import Derived.Handy
import Derived.Laws.EntriesVeiled
namespace Go.Proofs.Ytbikekjcbfhoaaa
open Go.RowKit Go.Bv
set_option linter.unusedVariables false
theorem llanes_34 (sd : Sd34) (p h : Nat) (l : List (BitVec 8)) (w : World) (hx : w.heap[h]? = some (.cells #[.int .i64 (sd.kd.1 : Nat), .int .i64 (sd.kd.2.1 : Nat), .bool sd.kd.2.2, .pointer (some ⟨p, 0, none⟩)] 64 (0, 0))) (hs : HStr_34 sd w p l) :
    Calls Try.prog 16 #[.pointer (some ⟨h, 0, none⟩)] w fun e w' => ∃ a c, e = .returned (.tuple #[.agg #[.int .u64 (W64 ((bState 8 (stp34 sd.kd) (start34 sd.kd sd.key) l).1)), .int .u64 (W64 ((bState 8 (stp34 sd.kd) (start34 sd.kd sd.key) l).2.1)), .int .u64 (W64 ((bState 8 (stp34 sd.kd) (start34 sd.kd sd.key) l).2.2.1)), .int .u64 (W64 ((bState 8 (stp34 sd.kd) (start34 sd.kd sd.key) l).2.2.2))], .int .u64 (W64 (BitVec.ofNat 64 l.length)), .slice a (bTail 8 l).length c]) ∧ BRow w' a (bTail 8 l).length c (bTail 8 l) ∧ New w w' := hlanes_34 sd p h _ _ _ _ w hx hs
theorem lset_34 (sd : Sd34) (p h : Nat) (l0 l : List (BitVec 8)) (a : Option Addr) (c : Nat) (w : World) (hx : w.heap[h]? = some (.cells #[.int .i64 (sd.kd.1 : Nat), .int .i64 (sd.kd.2.1 : Nat), .bool sd.kd.2.2, .pointer (some ⟨p, 0, none⟩)] 64 (0, 0))) (hs : HStr_34 sd w p l0) (hm : BRow w a (bTail 8 l).length c (bTail 8 l)) (hlim : l.length < 18446744073709551616) :
    Calls Try.prog 19 #[.pointer (some ⟨h, 0, none⟩), .agg #[.int .u64 (W64 ((bState 8 (stp34 sd.kd) (start34 sd.kd sd.key) l).1)), .int .u64 (W64 ((bState 8 (stp34 sd.kd) (start34 sd.kd sd.key) l).2.1)), .int .u64 (W64 ((bState 8 (stp34 sd.kd) (start34 sd.kd sd.key) l).2.2.1)), .int .u64 (W64 ((bState 8 (stp34 sd.kd) (start34 sd.kd sd.key) l).2.2.2))], .int .u64 (W64 (BitVec.ofNat 64 l.length)), .slice a (bTail 8 l).length c] w fun e w' => e = .returned (.bool true) ∧ HStr_34 sd w' p l ∧ But p w w' := by
  have hfit : (BitVec.ofNat 64 (bTail 8 l).length != BitVec.ofNat 64 l.length % 8#64) = false := by
    rw [bTail_len, bne_eq_false_iff_eq]
    apply BitVec.eq_of_toNat_eq
    rw [BitVec.toNat_umod, BitVec.toNat_ofNat, BitVec.toNat_ofNat]
    have e1 : (8#64 : BitVec 64).toNat = 8 := by decide
    rw [e1, Nat.mod_eq_of_lt hlim, Nat.mod_eq_of_lt (by have := Nat.mod_lt l.length (show 0 < 8 by decide); omega)]
  exact hset_fit_34 sd p h _ _ _ _ (bState 8 (stp34 sd.kd) (start34 sd.kd sd.key) l) _ a _ c _ w hx hs hm hfit
set_option maxRecDepth 100000 in
set_option maxHeartbeats 8000000 in
theorem lanes_y_34 (sd : Sd34) (W : World) (a2 : Option Addr) (n2 m2 : Nat) (z2 : List Int) (w2 : IRow .u8 W a2 n2 m2 z2) (r2 : m2 * 1 ≤ 140737488351232) (a3 : Option Addr) (n3 m3 : Nat) (z3 : List Int) (w3 : IRow .u8 W a3 n3 m3 z3) (r3 : m3 * 1 ≤ 140737488351232) :
    Calls Try.prog 5 #[.int .i64 sd.kind, .agg #[.int .u64 (W64 sd.key.1), .int .u64 (W64 sd.key.2)], .slice a2 n2 m2, .slice a3 n3 m3] W fun e w' => e = .returned (.bool true) ∧ Below W.heap.size W w' := by
  obtain ⟨l1, hl1⟩ := w2.bytes r2
  obtain ⟨l2, hl2⟩ := w3.bytes r3
  have HB := Lib.hid hl1
  have HC := Lib.hid hl2
  have HQB := Lib.hid hl1.len_eq
  have HQC := Lib.hid hl2.len_eq
  clear w2 w3 r2 r3 hl1 hl2
  have HNW := Lib.hid (fun w => lnew_34 sd w)
  have HA := Lib.hid awake34
  have HIS := Lib.hid (is_yes34 sd)
  have HRF := Lib.hid (fun a n c l w h => hash_ref34 sd a n c l w h)
  have HSM := Lib.hid (lsum_34 sd)
  have HKY := Lib.hid (heap_alloc_new W (.cells #[.int .u64 (W64 sd.key.1), .int .u64 (W64 sd.key.2)] 24))
  have HN := Lib.hid ((New.refl W).alloc (.cells #[.int .u64 (W64 sd.key.1), .int .u64 (W64 sd.key.2)] 24))
  go_enter Try.func5, Try.ntmps5
  go_wp2_with fail
  refine (HA.out _).mono ?_
  rintro e w9 ⟨rfl, hn⟩
  replace HKY := Lib.hid ((hn.block _ (lt_of_block HKY.out)).trans HKY.out)
  replace HN := Lib.hid (HN.out.trans hn)
  clear hn HA
  by_cases hs : (300 : Int) < (n2 : Int) ∨ (300 : Int) < (n3 : Int)
  · by_cases hs2 : (300 : Int) < (n2 : Int)
    · go_wp2
      go_ret
      exact ⟨rfl, HN.out⟩
    · have hs3 : (300 : Int) < (n3 : Int) := by omega
      go_wp2
      go_ret
      exact ⟨rfl, HN.out⟩
  have hs2 : ¬ (300 : Int) < (n2 : Int) := by omega
  have hs3 : ¬ (300 : Int) < (n3 : Int) := by omega
  have HLE : Hid (n2 ≤ 300 ∧ n3 ≤ 300) := Lib.hid (by omega)
  clear hs
  go_wp2_with fail
  refine (HIS.out _).mono ?_
  rintro e w9 ⟨rfl, rfl⟩
  go_wp2_with fail
  clear hs2 hs3 HIS
  refine Gro3.wp_region_gro3S (fun w' => w'.heap[W.heap.size]? = some (.cells #[.int .u64 (W64 sd.key.1), .int .u64 (W64 sd.key.2)] 24 (0, 0)) ∧ New w9 w') (fun w' => w'.heap[W.heap.size]? = some (.cells #[.int .u64 (W64 sd.key.1), .int .u64 (W64 sd.key.2)] 24 (0, 0)) ∧ New w9 w') [0,1,2,0,1,2,0,0] New (fun _ _ _ => True) (by kernel_rfl) (by kernel_rfl) (by kernel_rfl) (fun _ _ _ _ _ _ => trivial) (fun w' hw' => hw') (⟨HKY.out, (New.refl _).drew⟩) ?_
  intro I J _ _ f g hfa hba hgb hbb
  have HFA := Lib.hid hfa
  have HBA := Lib.hid hba
  have HGB := Lib.hid hgb
  have HBB := Lib.hid hbb
  have fk0 := fun n => cell_of_row _ _ 0 _ _ _ (hgb n).1
  have fk1 := fun n => cell_of_row _ _ 1 _ _ _ (hgb n).1
  clear hfa hba hgb hbb
  refine Gro3.take0 1 (by kernel_rfl) ?_
  simp only [List.take, List.drop, List.length]
  repeat (go_big_quiet_step (fail))
  refine wpQuiet_nil ?_
  refine Gro3.take1 1 (by kernel_rfl) ?_
  simp only [List.take, List.drop, List.length]
  repeat (go_big_quiet_step (fail))
  refine wpQuiet_nil ?_
  refine Gro3.callt (fun v => ∃ y : Nat, v = .pointer (some ⟨y, 0, none⟩)) (fun v w' => ∃ p y, v = .pointer (some ⟨y, 0, none⟩) ∧ W.heap.size < p ∧ p < y ∧ Lies w' y (.cells #[.int .i64 (sd.kd.1 : Nat), .int .i64 (sd.kd.2.1 : Nat), .bool sd.kd.2.2, .pointer (some ⟨p, 0, none⟩)] 64 (0, 0)) ∧ HStr_34 sd w' p []) rfl rfl (⟨_, 0, rfl⟩) (fun v w w' hn h => by obtain ⟨p, y, e, h1, h2, h3, h4⟩ := h; exact ⟨p, y, e, h1, h2, (hn.block _ (lt_of_block h3)).trans h3, h4.stay hn⟩) (fun w1 hB hG => ?_) (fun v1 A1 hv1 hA => ?_)
  · obtain ⟨nq, rfl⟩ := hB
    clear fk0 fk1
    have hlk := lt_of_block (HGB.out nq).1
    go_simp
    refine (HNW.out _).mono ?_
    rintro e w2 ⟨p, y, rfl, hp, hpy, hx, hs, hn⟩
    have HX := HBB.out _ ⟨(hn.block _ (lt_of_block (HGB.out nq).1)).trans (HGB.out nq).1, (HGB.out nq).2.trans hn⟩
    exact ⟨_, rfl, HX, hn, ⟨_, rfl⟩, ⟨p, _, rfl, Nat.lt_of_lt_of_le hlk hp, hpy, hx, hs⟩⟩
  simp [Act.put] at hA
  subst hA
  obtain ⟨y1, rfl⟩ := hv1
  refine Gro3.take0 1 (by kernel_rfl) ?_
  simp only [List.take, List.drop, List.length]
  repeat (go_big_quiet_step (fail))
  refine wpQuiet_nil ?_
  refine Gro3.take1 1 (by kernel_rfl) ?_
  simp only [List.take, List.drop, List.length]
  repeat (go_big_quiet_step (fail))
  refine wpQuiet_nil ?_
  refine Gro3.callt (fun v => ∃ y : Nat, v = .pointer (some ⟨y, 0, none⟩)) (fun v w' => ∃ y, v = .pointer (some ⟨y, 0, none⟩) ∧ (∃ p1, (W.heap.size < p1 ∧ p1 < y1 ∧ Lies w' y1 (.cells #[.int .i64 (sd.kd.1 : Nat), .int .i64 (sd.kd.2.1 : Nat), .bool sd.kd.2.2, .pointer (some ⟨p1, 0, none⟩)] 64 (0, 0)) ∧ HStr_34 sd w' p1 []) ∧ ∃ p2, y1 < p2 ∧ p2 < y ∧ Lies w' y (.cells #[.int .i64 (sd.kd.1 : Nat), .int .i64 (sd.kd.2.1 : Nat), .bool sd.kd.2.2, .pointer (some ⟨p2, 0, none⟩)] 64 (0, 0)) ∧ HStr_34 sd w' p2 [])) rfl rfl (⟨_, 0, rfl⟩) (fun v w w' hn h => by obtain ⟨y, e, p1, ⟨h1, h2, h3, h4⟩, p2, h5, h6, h7, h8⟩ := h; exact ⟨y, e, p1, ⟨h1, h2, (hn.block _ (lt_of_block h3)).trans h3, h4.stay hn⟩, p2, h5, h6, (hn.block _ (lt_of_block h7)).trans h7, h8.stay hn⟩) (fun w1 hB hG => ?_) (fun v2 A2 hv2 hA => ?_)
  · obtain ⟨nq, rfl⟩ := hB
    obtain ⟨p1, y5, e5, h1, h2, h3, h4⟩ := hG
    cases e5
    have hl1 := lt_of_block h3
    clear fk0 fk1
    go_simp
    refine (HNW.out _).mono ?_
    rintro e w2 ⟨p, y, rfl, hp, hpy, hx, hs, hn⟩
    have HX := HBB.out _ ⟨(hn.block _ (lt_of_block (HGB.out nq).1)).trans (HGB.out nq).1, (HGB.out nq).2.trans hn⟩
    exact ⟨_, rfl, HX, hn, ⟨_, rfl⟩, ⟨_, rfl, ⟨p1, h1, h2, (hn.block _ (lt_of_block h3)).trans h3, h4.stay hn⟩, p, Nat.lt_of_lt_of_le hl1 hp, hpy, hx, hs⟩⟩
  simp [Act.put] at hA
  subst hA
  obtain ⟨y2, rfl⟩ := hv2
  refine Gro3.take0 2 (by kernel_rfl) ?_
  simp only [List.take, List.drop, List.length]
  repeat (go_big_quiet_step (fail))
  refine wpQuiet_nil ?_
  refine Gro3.nil ?_
  rintro w11 ⟨n9, rfl⟩ hG
  obtain ⟨y5, e5, p1, ⟨h1, h2, h3, h4⟩, p2, h5, h6, h7, h8⟩ := hG
  cases e5
  have hn := (HGB.out n9).2
  have HW1 : Hid (W.heap.size < p1) := Lib.hid h1
  have HP1 : Hid (p1 < y1) := Lib.hid h2
  have HP12 : Hid (y1 < p2) := Lib.hid h5
  have HP2 : Hid (p2 < y2) := Lib.hid h6
  have HX1 := Lib.hid (show (g n9).heap[y1]? = _ from h3)
  have HX2 := Lib.hid (show (g n9).heap[y2]? = _ from h7)
  have HS1 := Lib.hid h4
  have HS2 := Lib.hid h8
  clear HFA HBA HGB HBB h1 h2 h3 h4 h5 h6 h7 h8 fk0 fk1 HNW
  replace HKY := Lib.hid ((hn.block _ (lt_of_block HKY.out)).trans HKY.out)
  replace HN := Lib.hid (HN.out.trans hn)
  clear hn
  generalize g n9 = w9 at *
  have HSUM : Hid (([] : List (BitVec 8)).length + n2 ≤ 140737488355328) := Lib.hid (by have := HLE.out; simp; omega)
  go_wp2_with fail
  refine (lwrite_34 sd p1 y1 _ _ _ _ _ _ HX1.out HS1.out (HB.out.stay HN.out) HSUM.out).mono ?_
  rintro e w9 ⟨rfl, hs, hb⟩
  simp only [List.nil_append] at hs
  clear HSUM
  have hnb := HS1.out.noBytes
  replace HS2 := Lib.hid (HS2.out.but hb (by have := HP1.out; have := HP12.out; have := HP2.out; have := HW1.out; omega) hnb)
  replace HKY := Lib.hid (hb.keep (by have := HP1.out; have := HP12.out; have := HP2.out; have := HW1.out; omega) HKY.out)
  replace HX1 := Lib.hid (hb.keep (by have := HP1.out; have := HP12.out; have := HP2.out; have := HW1.out; omega) HX1.out)
  replace HX2 := Lib.hid (hb.keep (by have := HP1.out; have := HP12.out; have := HP2.out; have := HW1.out; omega) HX2.out)
  replace HS1 := Lib.hid hs
  replace HN := Lib.hid (hb.new _ HN.out (Nat.le_of_lt HW1.out))
  clear hb hs hnb
  have HLN := Lib.hid (fun w hx hs => llanes_34 sd p1 y1 l1 w hx hs)
  have HBL := Lib.hid (fun w' (h : New W w') => blocks_ref34 sd _ _ _ l1 w' (HB.out.stay h))
  have HSE := Lib.hid (fun a c w hx hs hm => lset_34 sd p2 y2 [] l1 a c w hx hs hm (by have := HLE.out; have := HQB.out; omega))
  obtain ⟨st, hst⟩ : ∃ z, bState 8 (stp34 sd.kd) (start34 sd.kd sd.key) l1 = z := ⟨_, rfl⟩
  rw [hst] at HLN HBL HSE
  obtain ⟨tl, htl⟩ : ∃ z, bTail 8 l1 = z := ⟨_, rfl⟩
  rw [htl] at HLN HBL HSE
  rw [HQB.out] at HLN HSE
  clear hst htl
  have he4 := fun w => eq4s w (st.1) (st.2.1) (st.2.2.1) (st.2.2.2)
  go_wp2_with fail
  refine (HLN.out _ HX1.out HS1.out).mono ?_
  rintro e w9 ⟨ra, ca, rfl, hrow, hn⟩
  replace HS1 := Lib.hid (HS1.out.stay hn)
  replace HS2 := Lib.hid (HS2.out.stay hn)
  replace HKY := Lib.hid ((hn.block _ (lt_of_block HKY.out)).trans HKY.out)
  replace HX1 := Lib.hid ((hn.block _ (lt_of_block HX1.out)).trans HX1.out)
  replace HX2 := Lib.hid ((hn.block _ (lt_of_block HX2.out)).trans HX2.out)
  replace HN := Lib.hid (HN.out.trans hn)
  have HRA := Lib.hid hrow
  clear hrow hn HLN
  have hx := heap_alloc_new w9 (.cells #[.int .u64 (W64 (st.1)), .int .u64 (W64 (st.2.1)), .int .u64 (W64 (st.2.2.1)), .int .u64 (W64 (st.2.2.2))] 38)
  have hn2 := (New.refl w9).alloc (.cells #[.int .u64 (W64 (st.1)), .int .u64 (W64 (st.2.1)), .int .u64 (W64 (st.2.2.1)), .int .u64 (W64 (st.2.2.2))] 38)
  obtain ⟨qHL1, hq⟩ : ∃ q, w9.heap.size = q := ⟨_, rfl⟩
  have hle := HN.out.le
  rw [hq] at hx hle
  have hw0 := And.intro (rfl : w9.alloc (.cells #[.int .u64 (W64 (st.1)), .int .u64 (W64 (st.2.1)), .int .u64 (W64 (st.2.2.1)), .int .u64 (W64 (st.2.2.2))] 38) = w9.alloc (.cells #[.int .u64 (W64 (st.1)), .int .u64 (W64 (st.2.1)), .int .u64 (W64 (st.2.2.1)), .int .u64 (W64 (st.2.2.2))] 38)) hq
  have HLTHL10 := Lib.hid (show p1 < qHL1 from hq ▸ HS1.out.lt)
  have HLTHL11 := Lib.hid (show p2 < qHL1 from hq ▸ HS2.out.lt)
  generalize hw2 : w9.alloc (.cells #[.int .u64 (W64 (st.1)), .int .u64 (W64 (st.2.1)), .int .u64 (W64 (st.2.2.1)), .int .u64 (W64 (st.2.2.2))] 38) = w10 at hx hn2 hw0
  have HE := Lib.hid (show w9.alloc (.cells #[.int .u64 (W64 (st.1)), .int .u64 (W64 (st.2.1)), .int .u64 (W64 (st.2.2.1)), .int .u64 (W64 (st.2.2.2))] 38) = w10 ∧ w9.heap.size = qHL1 from ⟨hw2, hq⟩)
  clear hw0 hw2
  replace HS1 := Lib.hid (HS1.out.stay hn2)
  replace HS2 := Lib.hid (HS2.out.stay hn2)
  replace HRA := Lib.hid (HRA.out.stay hn2)
  replace HKY := Lib.hid ((hn2.block _ (lt_of_block HKY.out)).trans HKY.out)
  replace HX1 := Lib.hid ((hn2.block _ (lt_of_block HX1.out)).trans HX1.out)
  replace HX2 := Lib.hid ((hn2.block _ (lt_of_block HX2.out)).trans HX2.out)
  replace HN := Lib.hid (HN.out.trans hn2)
  have HL1 := Lib.hid hx
  have HLHL1 := Lib.hid hle
  clear hx hn2 hq hle
  have k0 := cell_of_row _ _ 0 _ _ _ HKY.out
  have k1 := cell_of_row _ _ 1 _ _ _ HKY.out
  go_wp2_with (rw [HE.out.1, HE.out.2])
  refine (HBL.out _ HN.out).mono ?_
  rintro e w9 ⟨rb, cb, rfl, hrow, hn⟩
  replace HS1 := Lib.hid (HS1.out.stay hn)
  replace HS2 := Lib.hid (HS2.out.stay hn)
  replace HRA := Lib.hid (HRA.out.stay hn)
  replace HKY := Lib.hid ((hn.block _ (lt_of_block HKY.out)).trans HKY.out)
  replace HX1 := Lib.hid ((hn.block _ (lt_of_block HX1.out)).trans HX1.out)
  replace HX2 := Lib.hid ((hn.block _ (lt_of_block HX2.out)).trans HX2.out)
  replace HL1 := Lib.hid ((hn.block _ (lt_of_block HL1.out)).trans HL1.out)
  replace HN := Lib.hid (HN.out.trans hn)
  have HRB := Lib.hid hrow
  clear hrow hn HBL HE k0 k1
  have hx := heap_alloc_new w9 (.cells #[.int .u64 (W64 (st.1)), .int .u64 (W64 (st.2.1)), .int .u64 (W64 (st.2.2.1)), .int .u64 (W64 (st.2.2.2))] 38)
  have hn2 := (New.refl w9).alloc (.cells #[.int .u64 (W64 (st.1)), .int .u64 (W64 (st.2.1)), .int .u64 (W64 (st.2.2.1)), .int .u64 (W64 (st.2.2.2))] 38)
  obtain ⟨qHL2, hq⟩ : ∃ q, w9.heap.size = q := ⟨_, rfl⟩
  have hle := HN.out.le
  rw [hq] at hx hle
  have hw0 := And.intro (rfl : w9.alloc (.cells #[.int .u64 (W64 (st.1)), .int .u64 (W64 (st.2.1)), .int .u64 (W64 (st.2.2.1)), .int .u64 (W64 (st.2.2.2))] 38) = w9.alloc (.cells #[.int .u64 (W64 (st.1)), .int .u64 (W64 (st.2.1)), .int .u64 (W64 (st.2.2.1)), .int .u64 (W64 (st.2.2.2))] 38)) hq
  have HLTHL20 := Lib.hid (show p1 < qHL2 from hq ▸ HS1.out.lt)
  have HLTHL21 := Lib.hid (show p2 < qHL2 from hq ▸ HS2.out.lt)
  generalize hw2 : w9.alloc (.cells #[.int .u64 (W64 (st.1)), .int .u64 (W64 (st.2.1)), .int .u64 (W64 (st.2.2.1)), .int .u64 (W64 (st.2.2.2))] 38) = w10 at hx hn2 hw0
  have HE := Lib.hid (show w9.alloc (.cells #[.int .u64 (W64 (st.1)), .int .u64 (W64 (st.2.1)), .int .u64 (W64 (st.2.2.1)), .int .u64 (W64 (st.2.2.2))] 38) = w10 ∧ w9.heap.size = qHL2 from ⟨hw2, hq⟩)
  clear hw0 hw2
  replace HS1 := Lib.hid (HS1.out.stay hn2)
  replace HS2 := Lib.hid (HS2.out.stay hn2)
  replace HRA := Lib.hid (HRA.out.stay hn2)
  replace HRB := Lib.hid (HRB.out.stay hn2)
  replace HKY := Lib.hid ((hn2.block _ (lt_of_block HKY.out)).trans HKY.out)
  replace HX1 := Lib.hid ((hn2.block _ (lt_of_block HX1.out)).trans HX1.out)
  replace HX2 := Lib.hid ((hn2.block _ (lt_of_block HX2.out)).trans HX2.out)
  replace HL1 := Lib.hid ((hn2.block _ (lt_of_block HL1.out)).trans HL1.out)
  replace HN := Lib.hid (HN.out.trans hn2)
  have HL2 := Lib.hid hx
  have HLHL2 := Lib.hid hle
  clear hx hn2 hq hle
  have x0 := cell_of_row _ _ 0 _ _ _ HL1.out
  have x1 := cell_of_row _ _ 1 _ _ _ HL1.out
  have x2 := cell_of_row _ _ 2 _ _ _ HL1.out
  have x3 := cell_of_row _ _ 3 _ _ _ HL1.out
  have u0 := cell_of_row _ _ 0 _ _ _ HL2.out
  have u1 := cell_of_row _ _ 1 _ _ _ HL2.out
  have u2 := cell_of_row _ _ 2 _ _ _ HL2.out
  have u3 := cell_of_row _ _ 3 _ _ _ HL2.out
  go_wp2_with (rw [HE.out.1, HE.out.2])
  refine (same_any _ _ _ _ _ _ tl tl _ HRA.out HRB.out).mono ?_
  rintro e w9 ⟨rfl, rfl⟩
  rw [beq_self_eq_true]
  clear HE
  go_wp2_with fail
  refine (HSE.out _ _ _ HX2.out HS2.out HRA.out).mono ?_
  rintro e w9 ⟨rfl, hs, hb⟩
  clear x0 x1 x2 x3 u0 u1 u2 u3 HL1 HL2 HRA HRB HSE
  clear he4
  have hnb := HS2.out.noBytes
  replace HS1 := Lib.hid (HS1.out.but hb (by have := HP1.out; have := HP12.out; have := HP2.out; have := HW1.out; omega) hnb)
  replace HKY := Lib.hid (hb.keep (by have := HP1.out; have := HP12.out; have := HP2.out; have := HW1.out; omega) HKY.out)
  replace HX1 := Lib.hid (hb.keep (by have := HP1.out; have := HP12.out; have := HP2.out; have := HW1.out; omega) HX1.out)
  replace HX2 := Lib.hid (hb.keep (by have := HP1.out; have := HP12.out; have := HP2.out; have := HW1.out; omega) HX2.out)
  replace HS2 := Lib.hid hs
  replace HN := Lib.hid (hb.new _ HN.out (by have := HP1.out; have := HP12.out; have := HP2.out; have := HW1.out; omega))
  clear hb hs hnb
  go_wp2_with fail
  refine (lclone_34 sd p1 y1 _ _ HX1.out HS1.out).mono ?_
  rintro e w9 ⟨p3, y3, rfl, hp, hpg, hx, hs, hn⟩
  have HP3 : Hid (y1 < p3 ∧ y2 < p3) := Lib.hid ⟨Nat.lt_of_lt_of_le (lt_of_block HX1.out) hp, Nat.lt_of_lt_of_le (lt_of_block HX2.out) hp⟩
  have HP33 : Hid (p3 < y3) := Lib.hid hpg
  replace HS1 := Lib.hid (HS1.out.stay hn)
  replace HS2 := Lib.hid (HS2.out.stay hn)
  replace HKY := Lib.hid ((hn.block _ (lt_of_block HKY.out)).trans HKY.out)
  replace HX1 := Lib.hid ((hn.block _ (lt_of_block HX1.out)).trans HX1.out)
  replace HX2 := Lib.hid ((hn.block _ (lt_of_block HX2.out)).trans HX2.out)
  replace HN := Lib.hid (HN.out.trans hn)
  have HS3 := Lib.hid hs
  have HX3 := Lib.hid hx
  clear hs hx hn hp hpg
  have HSUM : Hid (l1.length + n3 ≤ 140737488355328) := Lib.hid (by have := HLE.out; have := HQB.out; omega)
  go_wp2_with fail
  refine (lwrite_34 sd p1 y1 _ _ _ _ _ _ HX1.out HS1.out (HC.out.stay HN.out) HSUM.out).mono ?_
  rintro e w9 ⟨rfl, hs, hb⟩
  have hnb := HS1.out.noBytes
  replace HS2 := Lib.hid (HS2.out.but hb (by have := HP1.out; have := HP12.out; have := HP2.out; have := HW1.out; have := HP3.out; have := HP33.out; omega) hnb)
  replace HS3 := Lib.hid (HS3.out.but hb (by have := HP1.out; have := HP12.out; have := HP2.out; have := HW1.out; have := HP3.out; have := HP33.out; omega) hnb)
  replace HKY := Lib.hid (hb.keep (by have := HP1.out; have := HP12.out; have := HP2.out; have := HW1.out; have := HP3.out; have := HP33.out; omega) HKY.out)
  replace HX1 := Lib.hid (hb.keep (by have := HP1.out; have := HP12.out; have := HP2.out; have := HW1.out; have := HP3.out; have := HP33.out; omega) HX1.out)
  replace HX2 := Lib.hid (hb.keep (by have := HP1.out; have := HP12.out; have := HP2.out; have := HW1.out; have := HP3.out; have := HP33.out; omega) HX2.out)
  replace HX3 := Lib.hid (hb.keep (by have := HP1.out; have := HP12.out; have := HP2.out; have := HW1.out; have := HP3.out; have := HP33.out; omega) HX3.out)
  replace HS1 := Lib.hid hs
  replace HN := Lib.hid (hb.new _ HN.out (by have := HP1.out; have := HP12.out; have := HP2.out; have := HW1.out; have := HP3.out; have := HP33.out; omega))
  clear hb hs hnb
  go_wp2_with fail
  refine (lwrite_34 sd p2 y2 _ _ _ _ _ _ HX2.out HS2.out (HC.out.stay HN.out) HSUM.out).mono ?_
  rintro e w9 ⟨rfl, hs, hb⟩
  have hnb := HS2.out.noBytes
  replace HS1 := Lib.hid (HS1.out.but hb (by have := HP1.out; have := HP12.out; have := HP2.out; have := HW1.out; have := HP3.out; have := HP33.out; omega) hnb)
  replace HS3 := Lib.hid (HS3.out.but hb (by have := HP1.out; have := HP12.out; have := HP2.out; have := HW1.out; have := HP3.out; have := HP33.out; omega) hnb)
  replace HKY := Lib.hid (hb.keep (by have := HP1.out; have := HP12.out; have := HP2.out; have := HW1.out; have := HP3.out; have := HP33.out; omega) HKY.out)
  replace HX1 := Lib.hid (hb.keep (by have := HP1.out; have := HP12.out; have := HP2.out; have := HW1.out; have := HP3.out; have := HP33.out; omega) HX1.out)
  replace HX2 := Lib.hid (hb.keep (by have := HP1.out; have := HP12.out; have := HP2.out; have := HW1.out; have := HP3.out; have := HP33.out; omega) HX2.out)
  replace HX3 := Lib.hid (hb.keep (by have := HP1.out; have := HP12.out; have := HP2.out; have := HW1.out; have := HP3.out; have := HP33.out; omega) HX3.out)
  replace HS2 := Lib.hid hs
  replace HN := Lib.hid (hb.new _ HN.out (by have := HP1.out; have := HP12.out; have := HP2.out; have := HW1.out; have := HP3.out; have := HP33.out; omega))
  clear hb hs hnb
  have HRQ := Lib.hid (fun o1 oc1 w' (h : BRow w' o1 (n2 + n3) oc1 (l1 ++ l2)) => HRF.out _ _ _ _ w' h)
  have HSA := Lib.hid (fun w' hx hs => HSM.out p1 y1 (l1 ++ l2) w' hx hs)
  have HSB := Lib.hid (fun w' hx hs => HSM.out p2 y2 (l1 ++ l2) w' hx hs)
  obtain ⟨hh, hhe⟩ : ∃ r, hash34 sd.kd sd.key (l1 ++ l2) = r := ⟨_, rfl⟩
  rw [hhe] at HRQ HSA HSB
  clear hhe
  have HRL := Lib.hid (fun w' (h : New W w') => HRF.out _ _ _ _ w' (HB.out.stay h))
  have HSC := Lib.hid (fun w' hx hs => HSM.out p3 y3 l1 w' hx hs)
  obtain ⟨h1, hhe⟩ : ∃ r, hash34 sd.kd sd.key l1 = r := ⟨_, rfl⟩
  rw [hhe] at HRL HSC
  clear hhe
  go_wp2_with fail
  refine Gro3.wp_region_gro3S (fun w' => New w9 w') (fun w' => w'.heap[W.heap.size]? = some (.cells #[.int .u64 (W64 sd.key.1), .int .u64 (W64 sd.key.2)] 24 (0, 0)) ∧ New w9 w') [0,1,0,0,2,2,4,3] New (fun _ q w' => Lies w' q (.cells #[.int .u64 0, .int .u64 0] 24 (0, 0)) ∧ w9.heap.size ≤ q) (by kernel_rfl) (by kernel_rfl) (by kernel_rfl) (fun k q w w' hn h => ⟨(hn.block _ (lt_of_block h.1)).trans h.1, h.2⟩) (fun w' hw' => hw'.2) (⟨HKY.out, (New.refl _).drew⟩) ?_
  intro I J _ _ f g hfa hba hgb hbb
  have HFA := Lib.hid hfa
  have HBA := Lib.hid hba
  have HGB := Lib.hid hgb
  have HBB := Lib.hid hbb
  have fk0 := fun n => cell_of_row _ _ 0 _ _ _ (hgb n).1
  have fk1 := fun n => cell_of_row _ _ 1 _ _ _ (hgb n).1
  clear hfa hba hgb hbb
  refine Gro3.take0 1 (by kernel_rfl) ?_
  simp only [List.take, List.drop, List.length]
  repeat (go_big_quiet_step (fail))
  refine wpQuiet_nil ?_
  refine Gro3.take1 1 (by kernel_rfl) ?_
  simp only [List.take, List.drop, List.length]
  repeat (go_big_quiet_step (fail))
  refine wpQuiet_nil ?_
  refine Gro3.take0 2 (by kernel_rfl) ?_
  simp only [List.take, List.drop, List.length]
  repeat (go_big_quiet_step (fail))
  refine wpQuiet_nil ?_
  refine Gro3.callt (fun v => ∃ r c, v = .slice r (n2 + n3 : Nat) c) (fun v w' => ∃ r c, v = .slice r (n2 + n3 : Nat) c ∧ BRow w' r (n2 + n3) c (l1 ++ l2)) rfl rfl (⟨_, none, 0, rfl⟩) (fun v w w' hn h => by obtain ⟨r, c, e, hr⟩ := h; exact ⟨r, c, e, hr.stay hn⟩) (fun w1 hB hG => ?_) (fun v1 A1 hv1 hA => ?_)
  · obtain ⟨nq, rfl⟩ := hB
    clear fk0 fk1
    go_simp
    refine (both_ref a2 a3 n2 m2 n3 m3 l1 l2 W _ (HB.out.stay (HN.out.trans (HGB.out nq).2)) (HC.out.stay (HN.out.trans (HGB.out nq).2)) (by have := HLE.out; omega) (HN.out.trans (HGB.out nq).2)).mono ?_
    rintro e w2 ⟨r, c, rfl, hrow, hn, _⟩
    have HX := HBB.out _ ⟨(hn.block _ (lt_of_block (HGB.out nq).1)).trans (HGB.out nq).1, (HGB.out nq).2.trans hn⟩
    exact ⟨_, rfl, HX, hn, ⟨_, _, rfl⟩, ⟨_, _, rfl, hrow⟩⟩
  simp [Act.put] at hA
  subst hA
  obtain ⟨ra, ca, rfl⟩ := hv1
  refine Gro3.callt (fun v => v = .agg #[.int .u64 (W64 (hh).2), .int .u64 (W64 (hh).1)]) (fun _ _ => True) rfl rfl (⟨_, rfl⟩) (fun _ _ _ _ _ => trivial) (fun w1 hB hG => ?_) (fun v2 A2 hv2 hA => ?_)
  · obtain ⟨nq, rfl⟩ := hB
    obtain ⟨r5, c5, e5, hz⟩ := hG
    cases e5
    have HZ := Lib.hid hz
    clear hz fk0 fk1
    go_simp
    refine (HRQ.out _ _ _ HZ.out).mono ?_
    rintro e w2 ⟨rfl, hn⟩
    have HX := HBB.out _ ⟨(hn.block _ (lt_of_block (HGB.out nq).1)).trans (HGB.out nq).1, (HGB.out nq).2.trans hn⟩
    first | exact ⟨_, rfl, HX, hn, rfl⟩ | exact ⟨_, rfl, HX, hn, rfl, trivial⟩ | exact ⟨rfl, HX, hn⟩ | exact ⟨HX, hn, rfl⟩ | exact ⟨HX, hn⟩
  simp [Act.put] at hA
  subst hA
  obtain rfl := hv2
  refine Gro3.alloc rfl rfl (fun w1 hB => ?_) (fun qG A3 hA => ?_)
  · obtain ⟨nq, rfl⟩ := hB
    have hal := (New.refl (g nq)).alloc (.cells #[.int .u64 0, .int .u64 0] 24)
    have HX := Lib.hid (HBB.out _ ⟨(hal.block _ (lt_of_block (HGB.out nq).1)).trans (HGB.out nq).1, (HGB.out nq).2.trans hal⟩)
    have HNL := Lib.hid hal
    have HLZ := Lib.hid (show Lies _ _ _ from heap_alloc_new (g nq) (.cells #[.int .u64 0, .int .u64 0] 24))
    have HLE9 := Lib.hid ((HGB.out nq).2).le
    clear hal fk0 fk1
    go_simp
    first | exact ⟨_, rfl, HX.out, HNL.out, HLZ.out, HLE9.out⟩ | exact ⟨HX.out, HNL.out, HLZ.out, HLE9.out⟩
  simp [Act.put] at hA
  subst hA
  refine Gro3.turn (fun v => v = undef) (fun _ w9 => Lies w9 qG (.cells #[.int .u64 (W64 hh.2), .int .u64 (W64 hh.1)] 24 (0, 0))) rfl rfl ⟨_, rfl⟩ (fun w1 hB hG => ?_) (fun v4 A4 hv4 hA => ?_)
  · obtain ⟨nq, rfl⟩ : ∃ nq, w1 = g nq := hB
    obtain ⟨_, hli, hge⟩ := hG
    have HX := Lib.hid (HGB.out nq).2
    have HGE := Lib.hid hge
    have c0 := cell_of_row _ _ 0 _ _ _ hli
    have c1 := cell_of_row _ _ 1 _ _ _ hli
    have cf := fun i => frozen_of_row _ _ i _ _ hli
    have HP := Lib.hid (put_2h (.int .u64 (W64 hh.2)) (.int .u64 (W64 hh.1)) hli)
    have HLI := Lib.hid (show Lies _ _ _ from HP.out.1)
    clear hli hge fk0 fk1
    go_simp
    exact ⟨HBA.out _ (HP.out.2.2 _ HX.out HGE.out), HLI.out⟩
  simp [Act.put] at hA
  subst hA
  refine Gro3.nil ?_
  rintro w11 ⟨n9, rfl⟩ hG
  have hn := HFA.out n9
  have HU := Lib.hid (show (f n9).heap[qG]? = _ from hG)
  clear HFA HBA HGB HBB hG fk0 fk1
  replace HS1 := Lib.hid (HS1.out.stay hn)
  replace HS2 := Lib.hid (HS2.out.stay hn)
  replace HS3 := Lib.hid (HS3.out.stay hn)
  replace HKY := Lib.hid ((hn.block _ (lt_of_block HKY.out)).trans HKY.out)
  replace HX1 := Lib.hid ((hn.block _ (lt_of_block HX1.out)).trans HX1.out)
  replace HX2 := Lib.hid ((hn.block _ (lt_of_block HX2.out)).trans HX2.out)
  replace HX3 := Lib.hid ((hn.block _ (lt_of_block HX3.out)).trans HX3.out)
  replace HN := Lib.hid (HN.out.trans hn)
  clear hn HRQ
  generalize f n9 = w9 at *
  have heq := fun w => eqUs w hh.2 hh.1
  have heq2 := fun w => eqUs w h1.2 h1.1
  go_wp2_with fail
  refine Gro3.wp_region_gro3S (fun w' => w'.heap[W.heap.size]? = some (.cells #[.int .u64 (W64 sd.key.1), .int .u64 (W64 sd.key.2)] 24 (0, 0)) ∧ w'.heap[qG]? = some (.cells #[.int .u64 (W64 hh.2), .int .u64 (W64 hh.1)] 24 (0, 0)) ∧ New w9 w') (fun w' => w'.heap[W.heap.size]? = some (.cells #[.int .u64 (W64 sd.key.1), .int .u64 (W64 sd.key.2)] 24 (0, 0)) ∧ w'.heap[qG]? = some (.cells #[.int .u64 (W64 hh.2), .int .u64 (W64 hh.1)] 24 (0, 0)) ∧ New w9 w') [0, 2, 1, 0, 0, 0, 2, 1, 0, 0, 0, 0, 0, 0, 0, 0, 2, 0, 1, 0, 2, 0, 0, 0] New (fun _ _ _ => True) (by kernel_rfl) (by kernel_rfl) (by kernel_rfl) (fun _ _ _ _ _ _ => trivial) (fun w' hw' => hw') (⟨HKY.out, HU.out, (New.refl _).drew⟩) ?_
  intro I J _ _ f g hfa hba hgb hbb
  have HFA := Lib.hid hfa
  have HBA := Lib.hid hba
  have HGB := Lib.hid hgb
  have HBB := Lib.hid hbb
  have s0 := fun n => cell_of_row _ _ 0 _ _ _ (hgb n).1
  have s1 := fun n => cell_of_row _ _ 1 _ _ _ (hgb n).1
  have s2 := fun n => cell_of_row _ _ 0 _ _ _ (hgb n).2.1
  have s3 := fun n => cell_of_row _ _ 1 _ _ _ (hgb n).2.1
  clear hfa hba hgb hbb
  refine Gro3.take0 1 (by kernel_rfl) ?_
  simp only [List.take, List.drop, List.length]
  repeat (go_big_quiet_step (fail))
  refine wpQuiet_nil ?_
  refine Gro3.callt (fun v => v = .agg #[.int .u64 (W64 (hh).2), .int .u64 (W64 (hh).1)]) (fun _ _ => True) rfl rfl (⟨_, rfl⟩) (fun _ _ _ _ _ => trivial) (fun w1 hB hG => ?_) (fun v1 A1 hv1 hA => ?_)
  · obtain ⟨nq, rfl⟩ := hB
    clear s0 s1 s2 s3
    go_simp
    refine (HSA.out _ (((HGB.out nq).2.2.block _ (lt_of_block HX1.out)).trans HX1.out) (HS1.out.stay (HGB.out nq).2.2)).mono ?_
    rintro e w2 ⟨rfl, hn⟩
    have HX := HBB.out _ ⟨(hn.block _ (lt_of_block (HGB.out nq).1)).trans (HGB.out nq).1, (hn.block _ (lt_of_block (HGB.out nq).2.1)).trans (HGB.out nq).2.1, (HGB.out nq).2.2.trans hn⟩
    first | exact ⟨_, rfl, HX, hn, rfl⟩ | exact ⟨_, rfl, HX, hn, rfl, trivial⟩ | exact ⟨rfl, HX, hn⟩ | exact ⟨HX, hn, rfl⟩ | exact ⟨HX, hn⟩
  simp [Act.put] at hA
  subst hA
  obtain rfl := hv1
  refine Gro3.take1 1 (by kernel_rfl) ?_
  simp only [List.take, List.drop, List.length]
  repeat (go_big_quiet_step (fail))
  refine wpQuiet_nil ?_
  refine Gro3.take0 3 (by kernel_rfl) ?_
  simp only [List.take, List.drop, List.length]
  repeat (go_big_quiet_step (fail))
  refine wpQuiet_nil ?_
  refine Gro3.callt (fun v => v = .agg #[.int .u64 (W64 (hh).2), .int .u64 (W64 (hh).1)]) (fun _ _ => True) rfl rfl (⟨_, rfl⟩) (fun _ _ _ _ _ => trivial) (fun w1 hB hG => ?_) (fun v2 A2 hv2 hA => ?_)
  · obtain ⟨nq, rfl⟩ := hB
    clear s0 s1 s2 s3
    go_simp
    refine (HSB.out _ (((HGB.out nq).2.2.block _ (lt_of_block HX2.out)).trans HX2.out) (HS2.out.stay (HGB.out nq).2.2)).mono ?_
    rintro e w2 ⟨rfl, hn⟩
    have HX := HBB.out _ ⟨(hn.block _ (lt_of_block (HGB.out nq).1)).trans (HGB.out nq).1, (hn.block _ (lt_of_block (HGB.out nq).2.1)).trans (HGB.out nq).2.1, (HGB.out nq).2.2.trans hn⟩
    first | exact ⟨_, rfl, HX, hn, rfl⟩ | exact ⟨_, rfl, HX, hn, rfl, trivial⟩ | exact ⟨rfl, HX, hn⟩ | exact ⟨HX, hn, rfl⟩ | exact ⟨HX, hn⟩
  simp [Act.put] at hA
  subst hA
  obtain rfl := hv2
  refine Gro3.take1 1 (by kernel_rfl) ?_
  simp only [List.take, List.drop, List.length]
  repeat (go_big_quiet_step (fail))
  refine wpQuiet_nil ?_
  refine Gro3.take0 8 (by kernel_rfl) ?_
  simp only [List.take, List.drop, List.length]
  repeat (go_big_quiet_step (fail))
  refine wpQuiet_nil ?_
  refine Gro3.callt (fun v => v = .agg #[.int .u64 (W64 (h1).2), .int .u64 (W64 (h1).1)]) (fun _ _ => True) rfl rfl (⟨_, rfl⟩) (fun _ _ _ _ _ => trivial) (fun w1 hB hG => ?_) (fun v3 A3 hv3 hA => ?_)
  · obtain ⟨nq, rfl⟩ := hB
    clear s0 s1 s2 s3
    go_simp
    refine (HSC.out _ (((HGB.out nq).2.2.block _ (lt_of_block HX3.out)).trans HX3.out) (HS3.out.stay (HGB.out nq).2.2)).mono ?_
    rintro e w2 ⟨rfl, hn⟩
    have HX := HBB.out _ ⟨(hn.block _ (lt_of_block (HGB.out nq).1)).trans (HGB.out nq).1, (hn.block _ (lt_of_block (HGB.out nq).2.1)).trans (HGB.out nq).2.1, (HGB.out nq).2.2.trans hn⟩
    first | exact ⟨_, rfl, HX, hn, rfl⟩ | exact ⟨_, rfl, HX, hn, rfl, trivial⟩ | exact ⟨rfl, HX, hn⟩ | exact ⟨HX, hn, rfl⟩ | exact ⟨HX, hn⟩
  simp [Act.put] at hA
  subst hA
  obtain rfl := hv3
  refine Gro3.take0 1 (by kernel_rfl) ?_
  simp only [List.take, List.drop, List.length]
  repeat (go_big_quiet_step (fail))
  refine wpQuiet_nil ?_
  refine Gro3.take1 1 (by kernel_rfl) ?_
  simp only [List.take, List.drop, List.length]
  repeat (go_big_quiet_step (fail))
  refine wpQuiet_nil ?_
  refine Gro3.take0 1 (by kernel_rfl) ?_
  simp only [List.take, List.drop, List.length]
  repeat (go_big_quiet_step (fail))
  refine wpQuiet_nil ?_
  refine Gro3.callt (fun v => v = .agg #[.int .u64 (W64 (h1).2), .int .u64 (W64 (h1).1)]) (fun _ _ => True) rfl rfl (⟨_, rfl⟩) (fun _ _ _ _ _ => trivial) (fun w1 hB hG => ?_) (fun v4 A4 hv4 hA => ?_)
  · obtain ⟨nq, rfl⟩ := hB
    clear s0 s1 s2 s3
    go_simp
    refine (HRL.out _ (HN.out.trans (HGB.out nq).2.2)).mono ?_
    rintro e w2 ⟨rfl, hn⟩
    have HX := HBB.out _ ⟨(hn.block _ (lt_of_block (HGB.out nq).1)).trans (HGB.out nq).1, (hn.block _ (lt_of_block (HGB.out nq).2.1)).trans (HGB.out nq).2.1, (HGB.out nq).2.2.trans hn⟩
    first | exact ⟨_, rfl, HX, hn, rfl⟩ | exact ⟨_, rfl, HX, hn, rfl, trivial⟩ | exact ⟨rfl, HX, hn⟩ | exact ⟨HX, hn, rfl⟩ | exact ⟨HX, hn⟩
  simp [Act.put] at hA
  subst hA
  obtain rfl := hv4
  refine Gro3.take0 3 (by kernel_rfl) ?_
  simp only [List.take, List.drop, List.length]
  repeat (go_big_quiet_step (fail))
  refine wpQuiet_nil ?_
  refine Gro3.nil ?_
  rintro w9 ⟨n9, rfl⟩ hG
  have hn := (HGB.out n9).2.2
  clear HFA HBA HGB HBB s0 s1 s2 s3
  have HNZ := Lib.hid (HN.out.trans hn)
  clear hn hG HN HS1 HS2 HS3 HX1 HX2 HX3 HKY HU heq heq2
  generalize g n9 = w9 at *
  go_wp2
  go_ret
  exact ⟨rfl, HNZ.out⟩
set_option maxRecDepth 100000 in
set_option maxHeartbeats 2000000 in
theorem lanes_no34 (W : World) (a0 : Int) (hk : ¬ (6 ≤ a0 ∧ a0 ≤ 8)) (kh kl : BitVec 64) (a2 : Option Addr) (n2 m2 : Nat) (z2 : List Int) (w2 : IRow .u8 W a2 n2 m2 z2) (r2 : m2 * 1 ≤ 140737488351232) (a3 : Option Addr) (n3 m3 : Nat) (z3 : List Int) (w3 : IRow .u8 W a3 n3 m3 z3) (r3 : m3 * 1 ≤ 140737488351232) :
    Calls Try.prog 5 #[.int .i64 a0, .agg #[.int .u64 (W64 kh), .int .u64 (W64 kl)], .slice a2 n2 m2, .slice a3 n3 m3] W fun e w' => e = .returned (.bool true) ∧ Below W.heap.size W w' := by
  have HA := Lib.hid awake34
  have HIS := Lib.hid (is_no34 a0 hk)
  have HN := Lib.hid ((New.refl W).alloc (.cells #[.int .u64 (W64 kh), .int .u64 (W64 kl)] 24))
  clear hk
  go_enter Try.func5, Try.ntmps5
  go_wp2_with fail
  refine (HA.out _).mono ?_
  rintro e w9 ⟨rfl, hn⟩
  replace HN := Lib.hid (HN.out.trans hn)
  clear hn HA
  by_cases hs_n2 : (300 : Int) < (n2 : Int)
  · go_wp2
    go_ret
    exact ⟨rfl, HN.out⟩
  by_cases hs_n3 : (300 : Int) < (n3 : Int)
  · go_wp2
    go_ret
    exact ⟨rfl, HN.out⟩
  go_wp2_with fail
  refine (HIS.out _).mono ?_
  rintro e w9 ⟨rfl, rfl⟩
  go_wp2
  go_ret
  exact ⟨rfl, HN.out⟩
theorem SipLanes_walk (W : World) (a0 : Int) (w0 : (Lit.int .i64 a0).wf = true) (x1_0 : BitVec 64) (x1_1 : BitVec 64) (a2 : Option Addr) (n2 m2 : Nat) (z2 : List Int) (w2 : IRow .u8 W a2 n2 m2 z2) (r2 : m2 * 1 ≤ 140737488351232) (a3 : Option Addr) (n3 m3 : Nat) (z3 : List Int) (w3 : IRow .u8 W a3 n3 m3 z3) (r3 : m3 * 1 ≤ 140737488351232) :
    Calls Try.prog 5 #[.int .i64 a0, .agg #[.int .u64 (W64 x1_0), .int .u64 (W64 x1_1)], .slice a2 n2 m2, .slice a3 n3 m3] W fun e w' => e = .returned (.bool true) ∧ Below W.heap.size W w' := by
  by_cases hk : 6 ≤ a0 ∧ a0 ≤ 8
  · have h3 : a0 = 6 ∨ a0 = 7 ∨ a0 = 8 := by omega
    rcases h3 with rfl | rfl | rfl
    · exact lanes_y_34 ⟨6, (2, 4, false), Or.inl ⟨rfl, rfl⟩, (x1_0, x1_1)⟩ W a2 n2 m2 z2 w2 r2 a3 n3 m3 z3 w3 r3
    · exact lanes_y_34 ⟨7, (1, 3, false), Or.inr (Or.inl ⟨rfl, rfl⟩), (x1_0, x1_1)⟩ W a2 n2 m2 z2 w2 r2 a3 n3 m3 z3 w3 r3
    · exact lanes_y_34 ⟨8, (2, 4, true), Or.inr (Or.inr ⟨rfl, rfl⟩), (x1_0, x1_1)⟩ W a2 n2 m2 z2 w2 r2 a3 n3 m3 z3 w3 r3
  · exact lanes_no34 W a0 hk x1_0 x1_1 a2 n2 m2 z2 w2 r2 a3 n3 m3 z3 w3 r3
end Go.Proofs.Ytbikekjcbfhoaaa
