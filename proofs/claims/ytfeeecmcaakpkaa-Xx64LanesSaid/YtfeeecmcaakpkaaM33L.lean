/- Layer 33: the law Lanes. -/
import Derived.Test.YtfeeecmcaakpkaaM33K
import Derived.Test.YtfeeecmcaakpkaaBoth
import Derived.Defers
import Derived.Recover
import Derived.Laws.Pointers
import Derived.Handy
import Derived.Laws.EntriesVeiled
namespace Go.Proofs.Ytfeeecmcaakpkaa
open Go.RowKit Go.Bv
set_option linter.unusedVariables false
theorem llanes_33 (p h : Nat) (sd : BitVec 64) (l : List (BitVec 8)) (w : World) (hx : w.heap[h]? = some (.cells #[.pointer (some ⟨p, 0, none⟩)] 86 (0, 0))) (hs : HStr_33 w p sd l) :
    Calls Try.prog 30 #[.pointer (some ⟨h, 0, none⟩)] w fun e w' => ∃ a c, e = .returned (.tuple #[.agg #[.int .u64 (W64 ((bState 32 stp33 (start33 sd) l).1)), .int .u64 (W64 ((bState 32 stp33 (start33 sd) l).2.1)), .int .u64 (W64 ((bState 32 stp33 (start33 sd) l).2.2.1)), .int .u64 (W64 ((bState 32 stp33 (start33 sd) l).2.2.2))], .int .u64 (W64 (BitVec.ofNat 64 l.length)), .slice a (bTail 32 l).length c]) ∧ BRow w' a (bTail 32 l).length c (bTail 32 l) ∧ New w w' := hlanes_33 p h _ _ _ _ w hx hs
theorem lset_33 (p h : Nat) (sd : BitVec 64) (l0 l : List (BitVec 8)) (a : Option Addr) (c : Nat) (w : World) (hx : w.heap[h]? = some (.cells #[.pointer (some ⟨p, 0, none⟩)] 86 (0, 0))) (hs : HStr_33 w p sd l0) (hm : BRow w a (bTail 32 l).length c (bTail 32 l)) (hlim : l.length < 18446744073709551616) :
    Calls Try.prog 32 #[.pointer (some ⟨h, 0, none⟩), .agg #[.int .u64 (W64 ((bState 32 stp33 (start33 sd) l).1)), .int .u64 (W64 ((bState 32 stp33 (start33 sd) l).2.1)), .int .u64 (W64 ((bState 32 stp33 (start33 sd) l).2.2.1)), .int .u64 (W64 ((bState 32 stp33 (start33 sd) l).2.2.2))], .int .u64 (W64 (BitVec.ofNat 64 l.length)), .slice a (bTail 32 l).length c] w fun e w' => e = .returned (.bool true) ∧ HStr_33 w' p sd l ∧ But p w w' := by
  have hfit : (BitVec.ofNat 64 (bTail 32 l).length != BitVec.ofNat 64 l.length % 32#64) = false := by
    rw [bTail_len, bne_eq_false_iff_eq]
    apply BitVec.eq_of_toNat_eq
    rw [BitVec.toNat_umod, BitVec.toNat_ofNat, BitVec.toNat_ofNat]
    have e1 : (32#64 : BitVec 64).toNat = 32 := by decide
    rw [e1, Nat.mod_eq_of_lt hlim, Nat.mod_eq_of_lt (by have := Nat.mod_lt l.length (show 0 < 32 by decide); omega)]
  exact hset_fit_33 p h _ _ _ _ ((bState 32 stp33 (start33 sd) l)) _ a _ c _ w hx hs hm hfit
set_option maxRecDepth 100000 in
set_option maxHeartbeats 8000000 in
theorem Xx64Lanes_walk (W : World) (a0 : Int) (w0 : (Lit.int .u64 a0).wf = true) (a1 : Option Addr) (n1 m1 : Nat) (z1 : List Int) (w1 : IRow .u8 W a1 n1 m1 z1) (r1 : m1 * 1 ≤ 140737488351232) (a2 : Option Addr) (n2 m2 : Nat) (z2 : List Int) (w2 : IRow .u8 W a2 n2 m2 z2) (r2 : m2 * 1 ≤ 140737488351232) :
    Calls Try.prog 8 #[.int .u64 a0, .slice a1 n1 m1, .slice a2 n2 m2] W fun e w' => e = .returned (.bool true) ∧ Below W.heap.size W w' := by
  obtain ⟨sd, rfl⟩ := ex64 a0 (by simp [Lit.wf, IntKind.min, IntKind.max, IntKind.signed, IntKind.bits] at w0; omega)
  clear w0
  obtain ⟨l1, hl1⟩ := w1.bytes r1
  obtain ⟨l2, hl2⟩ := w2.bytes r2
  have HB := Lib.hid hl1
  have HC := Lib.hid hl2
  have HQB := Lib.hid hl1.len_eq
  have HQC := Lib.hid hl2.len_eq
  clear w1 w2 r1 r2 hl1 hl2
  have HNW := Lib.hid (fun w => lnew_33 sd w)
  have HA := Lib.hid (awake_33 W)
  have HRF := Lib.hid (fun a n c l w h => hash_ref33 sd a n c l w h)
  have HSM := Lib.hid (fun p h l w hx hs => lsum_33 p h sd l w hx hs)
  go_enter Try.func8, Try.ntmps8
  go_wp2_with fail
  refine (HA.out).mono ?_
  rintro e w9 ⟨rfl, hn⟩
  have HN := Lib.hid hn
  clear hn HA
  by_cases hs : (300 : Int) < (n1 : Int) ∨ (300 : Int) < (n2 : Int)
  · by_cases hs2 : (300 : Int) < (n1 : Int)
    · go_wp2
      go_ret
      exact ⟨rfl, HN.out⟩
    · have hs3 : (300 : Int) < (n2 : Int) := by omega
      go_wp2
      go_ret
      exact ⟨rfl, HN.out⟩
  have hs2 : ¬ (300 : Int) < (n1 : Int) := by omega
  have hs3 : ¬ (300 : Int) < (n2 : Int) := by omega
  have HLE : Hid (n1 ≤ 300 ∧ n2 ≤ 300) := Lib.hid (by omega)
  clear hs
  go_wp2_with fail
  refine (HNW.out _).mono ?_
  rintro e w9 ⟨p1, y1, rfl, hp, hpg, hx, hs, hn⟩
  have HW1 : Hid (W.heap.size ≤ p1) := Lib.hid (Nat.le_trans HN.out.le hp)
  have HP1 : Hid (p1 < y1) := Lib.hid hpg
  replace HN := Lib.hid (HN.out.trans hn)
  have HS1 := Lib.hid hs
  have HX1 := Lib.hid hx
  clear hs hx hn hp hpg hs2 hs3
  go_wp2_with fail
  refine (HNW.out _).mono ?_
  rintro e w9 ⟨p2, y2, rfl, hp, hpg, hx, hs, hn⟩
  have HW2 : Hid (W.heap.size ≤ p2) := Lib.hid (Nat.le_trans HN.out.le hp)
  have HP12 : Hid (y1 < p2) := Lib.hid (Nat.lt_of_lt_of_le (lt_of_block HX1.out) hp)
  have HP2 : Hid (p2 < y2) := Lib.hid hpg
  replace HS1 := Lib.hid (HS1.out.stay hn)
  replace HX1 := Lib.hid ((hn.block _ (lt_of_block HX1.out)).trans HX1.out)
  replace HN := Lib.hid (HN.out.trans hn)
  have HS2 := Lib.hid hs
  have HX2 := Lib.hid hx
  clear hs hx hn hp hpg HNW
  have HSUM : Hid (([] : List (BitVec 8)).length + n1 ≤ 140737488355328) := Lib.hid (by have := HLE.out; simp; omega)
  go_wp2_with fail
  refine (lwrite_33 p1 y1 sd _ _ _ _ _ _ HX1.out HS1.out (HB.out.stay HN.out) HSUM.out).mono ?_
  rintro e w9 ⟨rfl, hs, hb⟩
  simp only [List.nil_append] at hs
  clear HSUM
  have hnb := HS1.out.noBytes
  replace HS2 := Lib.hid (HS2.out.but hb (by have := HP1.out; have := HP12.out; have := HP2.out; omega) hnb)
  replace HX1 := Lib.hid (hb.keep (by have := HP1.out; have := HP12.out; have := HP2.out; omega) HX1.out)
  replace HX2 := Lib.hid (hb.keep (by have := HP1.out; have := HP12.out; have := HP2.out; omega) HX2.out)
  replace HS1 := Lib.hid hs
  replace HN := Lib.hid (hb.new _ HN.out (HW1.out))
  clear hb hs hnb
  have HLN := Lib.hid (fun w hx hs => llanes_33 p1 y1 sd l1 w hx hs)
  have HBL := Lib.hid (fun w' (h : New W w') => blocks_ref33 sd _ _ _ l1 w' (HB.out.stay h))
  have HSE := Lib.hid (fun a c w hx hs hm => lset_33 p2 y2 sd [] l1 a c w hx hs hm (by have := HLE.out; have := HQB.out; omega))
  obtain ⟨st, hst⟩ : ∃ z, bState 32 stp33 (start33 sd) l1 = z := ⟨_, rfl⟩
  rw [hst] at HLN HBL HSE
  obtain ⟨tl, htl⟩ : ∃ z, bTail 32 l1 = z := ⟨_, rfl⟩
  rw [htl] at HLN HBL HSE
  rw [HQB.out] at HLN HSE
  clear hst htl
  have he4 := fun w => eq4s w (st.1) (st.2.1) (st.2.2.1) (st.2.2.2)
  go_wp2_with fail
  refine (HLN.out _ HX1.out HS1.out).mono ?_
  rintro e w9 ⟨ra, ca, rfl, hrow, hn⟩
  replace HS1 := Lib.hid (HS1.out.stay hn)
  replace HS2 := Lib.hid (HS2.out.stay hn)
  replace HX1 := Lib.hid ((hn.block _ (lt_of_block HX1.out)).trans HX1.out)
  replace HX2 := Lib.hid ((hn.block _ (lt_of_block HX2.out)).trans HX2.out)
  replace HN := Lib.hid (HN.out.trans hn)
  have HRA := Lib.hid hrow
  clear hrow hn HLN
  have hx := heap_alloc_new w9 (.cells #[.int .u64 (W64 (st.1)), .int .u64 (W64 (st.2.1)), .int .u64 (W64 (st.2.2.1)), .int .u64 (W64 (st.2.2.2))] 36)
  have hn2 := (New.refl w9).alloc (.cells #[.int .u64 (W64 (st.1)), .int .u64 (W64 (st.2.1)), .int .u64 (W64 (st.2.2.1)), .int .u64 (W64 (st.2.2.2))] 36)
  obtain ⟨qHL1, hq⟩ : ∃ q, w9.heap.size = q := ⟨_, rfl⟩
  have hle := HN.out.le
  rw [hq] at hx hle
  have hw0 := And.intro (rfl : w9.alloc (.cells #[.int .u64 (W64 (st.1)), .int .u64 (W64 (st.2.1)), .int .u64 (W64 (st.2.2.1)), .int .u64 (W64 (st.2.2.2))] 36) = w9.alloc (.cells #[.int .u64 (W64 (st.1)), .int .u64 (W64 (st.2.1)), .int .u64 (W64 (st.2.2.1)), .int .u64 (W64 (st.2.2.2))] 36)) hq
  have HLTHL10 := Lib.hid (show p1 < qHL1 from hq ▸ HS1.out.lt)
  have HLTHL11 := Lib.hid (show p2 < qHL1 from hq ▸ HS2.out.lt)
  generalize hw2 : w9.alloc (.cells #[.int .u64 (W64 (st.1)), .int .u64 (W64 (st.2.1)), .int .u64 (W64 (st.2.2.1)), .int .u64 (W64 (st.2.2.2))] 36) = w10 at hx hn2 hw0
  have HE := Lib.hid (show w9.alloc (.cells #[.int .u64 (W64 (st.1)), .int .u64 (W64 (st.2.1)), .int .u64 (W64 (st.2.2.1)), .int .u64 (W64 (st.2.2.2))] 36) = w10 ∧ w9.heap.size = qHL1 from ⟨hw2, hq⟩)
  clear hw0 hw2
  replace HS1 := Lib.hid (HS1.out.stay hn2)
  replace HS2 := Lib.hid (HS2.out.stay hn2)
  replace HRA := Lib.hid (HRA.out.stay hn2)
  replace HX1 := Lib.hid ((hn2.block _ (lt_of_block HX1.out)).trans HX1.out)
  replace HX2 := Lib.hid ((hn2.block _ (lt_of_block HX2.out)).trans HX2.out)
  replace HN := Lib.hid (HN.out.trans hn2)
  have HL1 := Lib.hid hx
  have HLHL1 := Lib.hid hle
  clear hx hn2 hq hle
  have x0 := cell_of_row _ _ 0 _ _ _ HL1.out
  have x1 := cell_of_row _ _ 1 _ _ _ HL1.out
  have x2 := cell_of_row _ _ 2 _ _ _ HL1.out
  have x3 := cell_of_row _ _ 3 _ _ _ HL1.out
  go_wp2_with (rw [HE.out.1, HE.out.2])
  refine (HBL.out _ HN.out).mono ?_
  rintro e w9 ⟨rb, cb, rfl, hrow, hn⟩
  replace HS1 := Lib.hid (HS1.out.stay hn)
  replace HS2 := Lib.hid (HS2.out.stay hn)
  replace HRA := Lib.hid (HRA.out.stay hn)
  replace HX1 := Lib.hid ((hn.block _ (lt_of_block HX1.out)).trans HX1.out)
  replace HX2 := Lib.hid ((hn.block _ (lt_of_block HX2.out)).trans HX2.out)
  replace HL1 := Lib.hid ((hn.block _ (lt_of_block HL1.out)).trans HL1.out)
  replace HN := Lib.hid (HN.out.trans hn)
  have HRB := Lib.hid hrow
  clear hrow hn HBL HE x0 x1 x2 x3
  have hx := heap_alloc_new w9 (.cells #[.int .u64 (W64 (st.1)), .int .u64 (W64 (st.2.1)), .int .u64 (W64 (st.2.2.1)), .int .u64 (W64 (st.2.2.2))] 36)
  have hn2 := (New.refl w9).alloc (.cells #[.int .u64 (W64 (st.1)), .int .u64 (W64 (st.2.1)), .int .u64 (W64 (st.2.2.1)), .int .u64 (W64 (st.2.2.2))] 36)
  obtain ⟨qHL2, hq⟩ : ∃ q, w9.heap.size = q := ⟨_, rfl⟩
  have hle := HN.out.le
  rw [hq] at hx hle
  have hw0 := And.intro (rfl : w9.alloc (.cells #[.int .u64 (W64 (st.1)), .int .u64 (W64 (st.2.1)), .int .u64 (W64 (st.2.2.1)), .int .u64 (W64 (st.2.2.2))] 36) = w9.alloc (.cells #[.int .u64 (W64 (st.1)), .int .u64 (W64 (st.2.1)), .int .u64 (W64 (st.2.2.1)), .int .u64 (W64 (st.2.2.2))] 36)) hq
  have HLTHL20 := Lib.hid (show p1 < qHL2 from hq ▸ HS1.out.lt)
  have HLTHL21 := Lib.hid (show p2 < qHL2 from hq ▸ HS2.out.lt)
  generalize hw2 : w9.alloc (.cells #[.int .u64 (W64 (st.1)), .int .u64 (W64 (st.2.1)), .int .u64 (W64 (st.2.2.1)), .int .u64 (W64 (st.2.2.2))] 36) = w10 at hx hn2 hw0
  have HE := Lib.hid (show w9.alloc (.cells #[.int .u64 (W64 (st.1)), .int .u64 (W64 (st.2.1)), .int .u64 (W64 (st.2.2.1)), .int .u64 (W64 (st.2.2.2))] 36) = w10 ∧ w9.heap.size = qHL2 from ⟨hw2, hq⟩)
  clear hw0 hw2
  replace HS1 := Lib.hid (HS1.out.stay hn2)
  replace HS2 := Lib.hid (HS2.out.stay hn2)
  replace HRA := Lib.hid (HRA.out.stay hn2)
  replace HRB := Lib.hid (HRB.out.stay hn2)
  replace HX1 := Lib.hid ((hn2.block _ (lt_of_block HX1.out)).trans HX1.out)
  replace HX2 := Lib.hid ((hn2.block _ (lt_of_block HX2.out)).trans HX2.out)
  replace HL1 := Lib.hid ((hn2.block _ (lt_of_block HL1.out)).trans HL1.out)
  replace HN := Lib.hid (HN.out.trans hn2)
  have HL2 := Lib.hid hx
  have HLHL2 := Lib.hid hle
  clear hx hn2 hq hle
  have x0 := cell_of_row _ _ 0 _ _ _ HL1.out
  have x1 := cell_of_row _ _ 1 _ _ _ HL1.out
  have x2 := cell_of_row _ _ 2 _ _ _ HL1.out
  have x3 := cell_of_row _ _ 3 _ _ _ HL1.out
  have u0 := cell_of_row _ _ 0 _ _ _ HL2.out
  have u1 := cell_of_row _ _ 1 _ _ _ HL2.out
  have u2 := cell_of_row _ _ 2 _ _ _ HL2.out
  have u3 := cell_of_row _ _ 3 _ _ _ HL2.out
  go_wp2_with (rw [HE.out.1, HE.out.2])
  refine (same_any _ _ _ _ _ _ tl tl _ HRA.out HRB.out).mono ?_
  rintro e w9 ⟨rfl, rfl⟩
  rw [beq_self_eq_true]
  clear HE
  go_wp2_with fail
  refine (HSE.out _ _ _ HX2.out HS2.out HRA.out).mono ?_
  rintro e w9 ⟨rfl, hs, hb⟩
  clear x0 x1 x2 x3 u0 u1 u2 u3 HL1 HL2 HRA HRB HSE
  clear he4
  have hnb := HS2.out.noBytes
  replace HS1 := Lib.hid (HS1.out.but hb (by have := HP1.out; have := HP12.out; have := HP2.out; omega) hnb)
  replace HX1 := Lib.hid (hb.keep (by have := HP1.out; have := HP12.out; have := HP2.out; omega) HX1.out)
  replace HX2 := Lib.hid (hb.keep (by have := HP1.out; have := HP12.out; have := HP2.out; omega) HX2.out)
  replace HS2 := Lib.hid hs
  replace HN := Lib.hid (hb.new _ HN.out (HW2.out))
  clear hb hs hnb
  go_wp2_with fail
  refine (lclone_33 p1 y1 sd _ _ HX1.out HS1.out).mono ?_
  rintro e w9 ⟨p3, y3, rfl, hp, hpg, hx, hs, hn⟩
  have HP3 : Hid (y1 < p3 ∧ y2 < p3) := Lib.hid ⟨Nat.lt_of_lt_of_le (lt_of_block HX1.out) hp, Nat.lt_of_lt_of_le (lt_of_block HX2.out) hp⟩
  have HP33 : Hid (p3 < y3) := Lib.hid hpg
  replace HS1 := Lib.hid (HS1.out.stay hn)
  replace HS2 := Lib.hid (HS2.out.stay hn)
  replace HX1 := Lib.hid ((hn.block _ (lt_of_block HX1.out)).trans HX1.out)
  replace HX2 := Lib.hid ((hn.block _ (lt_of_block HX2.out)).trans HX2.out)
  replace HN := Lib.hid (HN.out.trans hn)
  have HS3 := Lib.hid hs
  have HX3 := Lib.hid hx
  clear hs hx hn hp hpg
  have HSUM : Hid (l1.length + n2 ≤ 140737488355328) := Lib.hid (by have := HLE.out; have := HQB.out; omega)
  go_wp2_with fail
  refine (lwrite_33 p1 y1 sd _ _ _ _ _ _ HX1.out HS1.out (HC.out.stay HN.out) HSUM.out).mono ?_
  rintro e w9 ⟨rfl, hs, hb⟩
  have hnb := HS1.out.noBytes
  replace HS2 := Lib.hid (HS2.out.but hb (by have := HP1.out; have := HP12.out; have := HP2.out; have := HP3.out; have := HP33.out; omega) hnb)
  replace HS3 := Lib.hid (HS3.out.but hb (by have := HP1.out; have := HP12.out; have := HP2.out; have := HP3.out; have := HP33.out; omega) hnb)
  replace HX1 := Lib.hid (hb.keep (by have := HP1.out; have := HP12.out; have := HP2.out; have := HP3.out; have := HP33.out; omega) HX1.out)
  replace HX2 := Lib.hid (hb.keep (by have := HP1.out; have := HP12.out; have := HP2.out; have := HP3.out; have := HP33.out; omega) HX2.out)
  replace HX3 := Lib.hid (hb.keep (by have := HP1.out; have := HP12.out; have := HP2.out; have := HP3.out; have := HP33.out; omega) HX3.out)
  replace HS1 := Lib.hid hs
  replace HN := Lib.hid (hb.new _ HN.out (HW1.out))
  clear hb hs hnb
  go_wp2_with fail
  refine (lwrite_33 p2 y2 sd _ _ _ _ _ _ HX2.out HS2.out (HC.out.stay HN.out) HSUM.out).mono ?_
  rintro e w9 ⟨rfl, hs, hb⟩
  have hnb := HS2.out.noBytes
  replace HS1 := Lib.hid (HS1.out.but hb (by have := HP1.out; have := HP12.out; have := HP2.out; have := HP3.out; have := HP33.out; omega) hnb)
  replace HS3 := Lib.hid (HS3.out.but hb (by have := HP1.out; have := HP12.out; have := HP2.out; have := HP3.out; have := HP33.out; omega) hnb)
  replace HX1 := Lib.hid (hb.keep (by have := HP1.out; have := HP12.out; have := HP2.out; have := HP3.out; have := HP33.out; omega) HX1.out)
  replace HX2 := Lib.hid (hb.keep (by have := HP1.out; have := HP12.out; have := HP2.out; have := HP3.out; have := HP33.out; omega) HX2.out)
  replace HX3 := Lib.hid (hb.keep (by have := HP1.out; have := HP12.out; have := HP2.out; have := HP3.out; have := HP33.out; omega) HX3.out)
  replace HS2 := Lib.hid hs
  replace HN := Lib.hid (hb.new _ HN.out (HW2.out))
  clear hb hs hnb
  go_wp2_with fail
  refine (both_ref a1 a2 n1 m1 n2 m2 l1 l2 W _ (HB.out.stay HN.out) (HC.out.stay HN.out) (by have := HLE.out; omega) HN.out).mono ?_
  rintro e w9 ⟨o1, oc1, rfl, ho1, hn, _⟩
  replace HS1 := Lib.hid (HS1.out.stay hn)
  replace HS2 := Lib.hid (HS2.out.stay hn)
  replace HS3 := Lib.hid (HS3.out.stay hn)
  replace HX1 := Lib.hid ((hn.block _ (lt_of_block HX1.out)).trans HX1.out)
  replace HX2 := Lib.hid ((hn.block _ (lt_of_block HX2.out)).trans HX2.out)
  replace HX3 := Lib.hid ((hn.block _ (lt_of_block HX3.out)).trans HX3.out)
  replace HN := Lib.hid (HN.out.trans hn)
  have HO1 := Lib.hid ho1
  clear ho1 hn
  have HRQ := Lib.hid (fun w' (h : BRow w' o1 (n1 + n2) oc1 (l1 ++ l2)) => HRF.out _ _ _ _ w' h)
  have HSA := Lib.hid (fun w' hx hs => HSM.out p1 y1 (l1 ++ l2) w' hx hs)
  have HSB := Lib.hid (fun w' hx hs => HSM.out p2 y2 (l1 ++ l2) w' hx hs)
  obtain ⟨hh, hhe⟩ : ∃ r, hash33 sd (l1 ++ l2) = r := ⟨_, rfl⟩
  rw [hhe] at HRQ HSA HSB
  clear hhe
  have HRL := Lib.hid (fun w' (h : New W w') => HRF.out _ _ _ _ w' (HB.out.stay h))
  have HSC := Lib.hid (fun w' hx hs => HSM.out p3 y3 l1 w' hx hs)
  obtain ⟨h1, hhe⟩ : ∃ r, hash33 sd l1 = r := ⟨_, rfl⟩
  rw [hhe] at HRL HSC
  clear hhe
  go_wp2_with fail
  refine (HRQ.out _ HO1.out).mono ?_
  rintro e w9 ⟨rfl, hn⟩
  replace HS1 := Lib.hid (HS1.out.stay hn)
  replace HS2 := Lib.hid (HS2.out.stay hn)
  replace HS3 := Lib.hid (HS3.out.stay hn)
  replace HX1 := Lib.hid ((hn.block _ (lt_of_block HX1.out)).trans HX1.out)
  replace HX2 := Lib.hid ((hn.block _ (lt_of_block HX2.out)).trans HX2.out)
  replace HX3 := Lib.hid ((hn.block _ (lt_of_block HX3.out)).trans HX3.out)
  replace HN := Lib.hid (HN.out.trans hn)
  clear hn HO1 HRQ
  go_wp2_with fail
  refine (HSA.out _ HX1.out HS1.out).mono ?_
  rintro e w9 ⟨rfl, hn⟩
  replace HS1 := Lib.hid (HS1.out.stay hn)
  replace HS2 := Lib.hid (HS2.out.stay hn)
  replace HS3 := Lib.hid (HS3.out.stay hn)
  replace HX1 := Lib.hid ((hn.block _ (lt_of_block HX1.out)).trans HX1.out)
  replace HX2 := Lib.hid ((hn.block _ (lt_of_block HX2.out)).trans HX2.out)
  replace HX3 := Lib.hid ((hn.block _ (lt_of_block HX3.out)).trans HX3.out)
  replace HN := Lib.hid (HN.out.trans hn)
  clear hn
  go_wp2_with fail
  refine (HSB.out _ HX2.out HS2.out).mono ?_
  rintro e w9 ⟨rfl, hn⟩
  replace HS1 := Lib.hid (HS1.out.stay hn)
  replace HS2 := Lib.hid (HS2.out.stay hn)
  replace HS3 := Lib.hid (HS3.out.stay hn)
  replace HX1 := Lib.hid ((hn.block _ (lt_of_block HX1.out)).trans HX1.out)
  replace HX2 := Lib.hid ((hn.block _ (lt_of_block HX2.out)).trans HX2.out)
  replace HX3 := Lib.hid ((hn.block _ (lt_of_block HX3.out)).trans HX3.out)
  replace HN := Lib.hid (HN.out.trans hn)
  clear hn
  go_wp2_with fail
  refine (HSC.out _ HX3.out HS3.out).mono ?_
  rintro e w9 ⟨rfl, hn⟩
  replace HS1 := Lib.hid (HS1.out.stay hn)
  replace HS2 := Lib.hid (HS2.out.stay hn)
  replace HS3 := Lib.hid (HS3.out.stay hn)
  replace HX1 := Lib.hid ((hn.block _ (lt_of_block HX1.out)).trans HX1.out)
  replace HX2 := Lib.hid ((hn.block _ (lt_of_block HX2.out)).trans HX2.out)
  replace HX3 := Lib.hid ((hn.block _ (lt_of_block HX3.out)).trans HX3.out)
  replace HN := Lib.hid (HN.out.trans hn)
  clear hn
  go_wp2_with fail
  refine (HRL.out _ HN.out).mono ?_
  rintro e w9 ⟨rfl, hn⟩
  replace HS1 := Lib.hid (HS1.out.stay hn)
  replace HS2 := Lib.hid (HS2.out.stay hn)
  replace HS3 := Lib.hid (HS3.out.stay hn)
  replace HX1 := Lib.hid ((hn.block _ (lt_of_block HX1.out)).trans HX1.out)
  replace HX2 := Lib.hid ((hn.block _ (lt_of_block HX2.out)).trans HX2.out)
  replace HX3 := Lib.hid ((hn.block _ (lt_of_block HX3.out)).trans HX3.out)
  replace HN := Lib.hid (HN.out.trans hn)
  clear hn
  go_wp2
  go_ret
  exact ⟨rfl, HN.out⟩
end Go.Proofs.Ytfeeecmcaakpkaa
