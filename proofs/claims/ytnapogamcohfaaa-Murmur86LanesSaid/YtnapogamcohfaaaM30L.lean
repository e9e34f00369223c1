/- Layer 30: the law Lanes. -/
import Derived.Test.YtnapogamcohfaaaM30K
import Derived.Test.YtnapogamcohfaaaBoth
import Derived.Defers
import Derived.Recover
import Derived.Laws.Pointers
import Derived.Handy
import Derived.Laws.EntriesVeiled
namespace Go.Proofs.Ytnapogamcohfaaa
open Go.RowKit Go.Bv
set_option linter.unusedVariables false
set_option maxRecDepth 100000 in
set_option maxHeartbeats 8000000 in
theorem Murmur86Lanes_walk (W : World) (a0 : Int) (w0 : (Lit.int .u32 a0).wf = true) (a1 : Option Addr) (n1 m1 : Nat) (z1 : List Int) (w1 : IRow .u8 W a1 n1 m1 z1) (r1 : m1 * 1 ≤ 140737488351232) (a2 : Option Addr) (n2 m2 : Nat) (z2 : List Int) (w2 : IRow .u8 W a2 n2 m2 z2) (r2 : m2 * 1 ≤ 140737488351232) :
    Calls Try.prog 5 #[.int .u32 a0, .slice a1 n1 m1, .slice a2 n2 m2] W fun e w' => e = .returned (.bool true) ∧ Below W.heap.size W w' := by
  obtain ⟨sd, rfl⟩ := ex32 a0 (by simp [Lit.wf, IntKind.min, IntKind.max, IntKind.signed, IntKind.bits] at w0; omega)
  clear w0
  obtain ⟨l1, hl1⟩ := w1.bytes r1
  obtain ⟨l2, hl2⟩ := w2.bytes r2
  have HB := Lib.hid hl1
  have HC := Lib.hid hl2
  have HQB := Lib.hid hl1.len_eq
  have HQC := Lib.hid hl2.len_eq
  clear w1 w2 r1 r2 hl1 hl2
  have HNW := Lib.hid (fun w => lnew_30 sd w)
  have HA := Lib.hid (awake_30 W)
  have HRF := Lib.hid (fun a n c l w h => hash_ref30 sd a n c l w h)
  have HSM := Lib.hid (fun p h l w hx hs => lsum_30 p h sd l w hx hs)
  go_enter Try.func5, Try.ntmps5
  go_wp2_with fail
  refine (HA.out).mono ?_
  rintro e w9 ⟨rfl, hn⟩
  have HN := Lib.hid hn
  clear hn HA
  by_cases hs : (300 : Int) < (n1 : Int) ∨ (300 : Int) < (n2 : Int)
  · by_cases hs2 : (300 : Int) < (n1 : Int)
    · go_wp2
      go_ret
      exact ⟨rfl, HN.out⟩
    · have hs3 : (300 : Int) < (n2 : Int) := by omega
      go_wp2
      go_ret
      exact ⟨rfl, HN.out⟩
  have hs2 : ¬ (300 : Int) < (n1 : Int) := by omega
  have hs3 : ¬ (300 : Int) < (n2 : Int) := by omega
  have HLE : Hid (n1 ≤ 300 ∧ n2 ≤ 300) := Lib.hid (by omega)
  clear hs
  go_wp2_with fail
  refine (HNW.out _).mono ?_
  rintro e w9 ⟨p1, y1, rfl, hp, hpg, hx, hs, hn⟩
  have HW1 : Hid (W.heap.size ≤ p1) := Lib.hid (Nat.le_trans HN.out.le hp)
  have HP1 : Hid (p1 < y1) := Lib.hid hpg
  replace HN := Lib.hid (HN.out.trans hn)
  have HS1 := Lib.hid hs
  have HX1 := Lib.hid hx
  clear hs hx hn hp hpg hs2 hs3
  go_wp2_with fail
  refine (HNW.out _).mono ?_
  rintro e w9 ⟨p2, y2, rfl, hp, hpg, hx, hs, hn⟩
  have HW2 : Hid (W.heap.size ≤ p2) := Lib.hid (Nat.le_trans HN.out.le hp)
  have HP12 : Hid (y1 < p2) := Lib.hid (Nat.lt_of_lt_of_le (lt_of_block HX1.out) hp)
  have HP2 : Hid (p2 < y2) := Lib.hid hpg
  replace HS1 := Lib.hid (HS1.out.stay hn)
  replace HX1 := Lib.hid ((hn.block _ (lt_of_block HX1.out)).trans HX1.out)
  replace HN := Lib.hid (HN.out.trans hn)
  have HS2 := Lib.hid hs
  have HX2 := Lib.hid hx
  clear hs hx hn hp hpg HNW
  have HSUM : Hid (([] : List (BitVec 8)).length + n1 ≤ 140737488355328) := Lib.hid (by have := HLE.out; simp; omega)
  go_wp2_with fail
  refine (lwrite_30 p1 y1 sd _ _ _ _ _ _ HX1.out HS1.out (HB.out.stay HN.out) HSUM.out).mono ?_
  rintro e w9 ⟨rfl, hs, hb⟩
  simp only [List.nil_append] at hs
  clear HSUM
  have hnb := HS1.out.noBytes
  replace HS2 := Lib.hid (HS2.out.but hb (by have := HP1.out; have := HP12.out; have := HP2.out; omega) HS1.out.apart)
  replace HX1 := Lib.hid (hb.keep (by have := HP1.out; have := HP12.out; have := HP2.out; omega) HX1.out)
  replace HX2 := Lib.hid (hb.keep (by have := HP1.out; have := HP12.out; have := HP2.out; omega) HX2.out)
  replace HS1 := Lib.hid hs
  replace HN := Lib.hid (hb.new _ HN.out (HW1.out))
  clear hb hs hnb
  have HLN := Lib.hid (fun w hx hs => llanes_30 p1 y1 sd l1 w hx hs)
  have HBL := Lib.hid (fun w' (h : New W w') => blocks_ref30 sd _ _ _ l1 w' (HB.out.stay h))
  have HSE := Lib.hid (fun a c w hx hs hm => lset_30 p2 y2 sd [] l1 a c w hx hs hm (by have := HLE.out; have := HQB.out; omega))
  obtain ⟨st, hst⟩ : ∃ z, bState 16 stp30 (start30 sd) l1 = z := ⟨_, rfl⟩
  rw [hst] at HLN HBL HSE
  obtain ⟨tl, htl⟩ : ∃ z, bTail 16 l1 = z := ⟨_, rfl⟩
  rw [htl] at HLN HBL HSE
  rw [HQB.out] at HLN HSE
  clear hst htl
  have he4 := fun w => eq4s w (st.1.setWidth 64) (st.2.1.setWidth 64) (st.2.2.1.setWidth 64) (st.2.2.2.setWidth 64)
  go_wp2_with fail
  refine (HLN.out _ HX1.out HS1.out).mono ?_
  rintro e w9 ⟨ra, ca, rfl, hrow, hn⟩
  replace HS1 := Lib.hid (HS1.out.stay hn)
  replace HS2 := Lib.hid (HS2.out.stay hn)
  replace HX1 := Lib.hid ((hn.block _ (lt_of_block HX1.out)).trans HX1.out)
  replace HX2 := Lib.hid ((hn.block _ (lt_of_block HX2.out)).trans HX2.out)
  replace HN := Lib.hid (HN.out.trans hn)
  have HRA := Lib.hid hrow
  clear hrow hn HLN
  have hx := heap_alloc_new w9 (.cells #[.int .u64 (W64 ((st).1.setWidth 64)), .int .u64 (W64 ((st).2.1.setWidth 64)), .int .u64 (W64 ((st).2.2.1.setWidth 64)), .int .u64 (W64 ((st).2.2.2.setWidth 64))] 38)
  have hn2 := (New.refl w9).alloc (.cells #[.int .u64 (W64 ((st).1.setWidth 64)), .int .u64 (W64 ((st).2.1.setWidth 64)), .int .u64 (W64 ((st).2.2.1.setWidth 64)), .int .u64 (W64 ((st).2.2.2.setWidth 64))] 38)
  obtain ⟨qHL1, hq⟩ : ∃ q, w9.heap.size = q := ⟨_, rfl⟩
  have hle := HN.out.le
  rw [hq] at hx hle
  have hw0 := And.intro (rfl : w9.alloc (.cells #[.int .u64 (W64 ((st).1.setWidth 64)), .int .u64 (W64 ((st).2.1.setWidth 64)), .int .u64 (W64 ((st).2.2.1.setWidth 64)), .int .u64 (W64 ((st).2.2.2.setWidth 64))] 38) = w9.alloc (.cells #[.int .u64 (W64 ((st).1.setWidth 64)), .int .u64 (W64 ((st).2.1.setWidth 64)), .int .u64 (W64 ((st).2.2.1.setWidth 64)), .int .u64 (W64 ((st).2.2.2.setWidth 64))] 38)) hq
  have HLTHL10 := Lib.hid (show p1 < qHL1 from hq ▸ HS1.out.lt)
  have HLTHL11 := Lib.hid (show p2 < qHL1 from hq ▸ HS2.out.lt)
  generalize hw2 : w9.alloc (.cells #[.int .u64 (W64 ((st).1.setWidth 64)), .int .u64 (W64 ((st).2.1.setWidth 64)), .int .u64 (W64 ((st).2.2.1.setWidth 64)), .int .u64 (W64 ((st).2.2.2.setWidth 64))] 38) = w10 at hx hn2 hw0
  have HE := Lib.hid (show w9.alloc (.cells #[.int .u64 (W64 ((st).1.setWidth 64)), .int .u64 (W64 ((st).2.1.setWidth 64)), .int .u64 (W64 ((st).2.2.1.setWidth 64)), .int .u64 (W64 ((st).2.2.2.setWidth 64))] 38) = w10 ∧ w9.heap.size = qHL1 from ⟨hw2, hq⟩)
  clear hw0 hw2
  replace HS1 := Lib.hid (HS1.out.stay hn2)
  replace HS2 := Lib.hid (HS2.out.stay hn2)
  replace HRA := Lib.hid (HRA.out.stay hn2)
  replace HX1 := Lib.hid ((hn2.block _ (lt_of_block HX1.out)).trans HX1.out)
  replace HX2 := Lib.hid ((hn2.block _ (lt_of_block HX2.out)).trans HX2.out)
  replace HN := Lib.hid (HN.out.trans hn2)
  have HL1 := Lib.hid hx
  have HLHL1 := Lib.hid hle
  clear hx hn2 hq hle
  have x0 := cell_of_row _ _ 0 _ _ _ HL1.out
  have x1 := cell_of_row _ _ 1 _ _ _ HL1.out
  have x2 := cell_of_row _ _ 2 _ _ _ HL1.out
  have x3 := cell_of_row _ _ 3 _ _ _ HL1.out
  go_wp2_with (rw [HE.out.1, HE.out.2])
  refine (HBL.out _ HN.out).mono ?_
  rintro e w9 ⟨rb, cb, rfl, hrow, hn⟩
  replace HS1 := Lib.hid (HS1.out.stay hn)
  replace HS2 := Lib.hid (HS2.out.stay hn)
  replace HRA := Lib.hid (HRA.out.stay hn)
  replace HX1 := Lib.hid ((hn.block _ (lt_of_block HX1.out)).trans HX1.out)
  replace HX2 := Lib.hid ((hn.block _ (lt_of_block HX2.out)).trans HX2.out)
  replace HL1 := Lib.hid ((hn.block _ (lt_of_block HL1.out)).trans HL1.out)
  replace HN := Lib.hid (HN.out.trans hn)
  have HRB := Lib.hid hrow
  clear hrow hn HBL HE x0 x1 x2 x3
  have hx := heap_alloc_new w9 (.cells #[.int .u64 (W64 ((st).1.setWidth 64)), .int .u64 (W64 ((st).2.1.setWidth 64)), .int .u64 (W64 ((st).2.2.1.setWidth 64)), .int .u64 (W64 ((st).2.2.2.setWidth 64))] 38)
  have hn2 := (New.refl w9).alloc (.cells #[.int .u64 (W64 ((st).1.setWidth 64)), .int .u64 (W64 ((st).2.1.setWidth 64)), .int .u64 (W64 ((st).2.2.1.setWidth 64)), .int .u64 (W64 ((st).2.2.2.setWidth 64))] 38)
  obtain ⟨qHL2, hq⟩ : ∃ q, w9.heap.size = q := ⟨_, rfl⟩
  have hle := HN.out.le
  rw [hq] at hx hle
  have hw0 := And.intro (rfl : w9.alloc (.cells #[.int .u64 (W64 ((st).1.setWidth 64)), .int .u64 (W64 ((st).2.1.setWidth 64)), .int .u64 (W64 ((st).2.2.1.setWidth 64)), .int .u64 (W64 ((st).2.2.2.setWidth 64))] 38) = w9.alloc (.cells #[.int .u64 (W64 ((st).1.setWidth 64)), .int .u64 (W64 ((st).2.1.setWidth 64)), .int .u64 (W64 ((st).2.2.1.setWidth 64)), .int .u64 (W64 ((st).2.2.2.setWidth 64))] 38)) hq
  have HLTHL20 := Lib.hid (show p1 < qHL2 from hq ▸ HS1.out.lt)
  have HLTHL21 := Lib.hid (show p2 < qHL2 from hq ▸ HS2.out.lt)
  generalize hw2 : w9.alloc (.cells #[.int .u64 (W64 ((st).1.setWidth 64)), .int .u64 (W64 ((st).2.1.setWidth 64)), .int .u64 (W64 ((st).2.2.1.setWidth 64)), .int .u64 (W64 ((st).2.2.2.setWidth 64))] 38) = w10 at hx hn2 hw0
  have HE := Lib.hid (show w9.alloc (.cells #[.int .u64 (W64 ((st).1.setWidth 64)), .int .u64 (W64 ((st).2.1.setWidth 64)), .int .u64 (W64 ((st).2.2.1.setWidth 64)), .int .u64 (W64 ((st).2.2.2.setWidth 64))] 38) = w10 ∧ w9.heap.size = qHL2 from ⟨hw2, hq⟩)
  clear hw0 hw2
  replace HS1 := Lib.hid (HS1.out.stay hn2)
  replace HS2 := Lib.hid (HS2.out.stay hn2)
  replace HRA := Lib.hid (HRA.out.stay hn2)
  replace HRB := Lib.hid (HRB.out.stay hn2)
  replace HX1 := Lib.hid ((hn2.block _ (lt_of_block HX1.out)).trans HX1.out)
  replace HX2 := Lib.hid ((hn2.block _ (lt_of_block HX2.out)).trans HX2.out)
  replace HL1 := Lib.hid ((hn2.block _ (lt_of_block HL1.out)).trans HL1.out)
  replace HN := Lib.hid (HN.out.trans hn2)
  have HL2 := Lib.hid hx
  have HLHL2 := Lib.hid hle
  clear hx hn2 hq hle
  have x0 := cell_of_row _ _ 0 _ _ _ HL1.out
  have x1 := cell_of_row _ _ 1 _ _ _ HL1.out
  have x2 := cell_of_row _ _ 2 _ _ _ HL1.out
  have x3 := cell_of_row _ _ 3 _ _ _ HL1.out
  have u0 := cell_of_row _ _ 0 _ _ _ HL2.out
  have u1 := cell_of_row _ _ 1 _ _ _ HL2.out
  have u2 := cell_of_row _ _ 2 _ _ _ HL2.out
  have u3 := cell_of_row _ _ 3 _ _ _ HL2.out
  go_wp2_with (rw [HE.out.1, HE.out.2])
  refine (same_any _ _ _ _ _ _ tl tl _ HRA.out HRB.out).mono ?_
  rintro e w9 ⟨rfl, rfl⟩
  rw [beq_self_eq_true]
  clear HE
  go_wp2_with fail
  refine (HSE.out _ _ _ HX2.out HS2.out HRA.out).mono ?_
  rintro e w9 ⟨rfl, hs, hb⟩
  clear x0 x1 x2 x3 u0 u1 u2 u3 HL1 HL2 HRA HRB HSE
  clear he4
  have hnb := HS2.out.noBytes
  replace HS1 := Lib.hid (HS1.out.but hb (by have := HP1.out; have := HP12.out; have := HP2.out; omega) HS2.out.apart)
  replace HX1 := Lib.hid (hb.keep (by have := HP1.out; have := HP12.out; have := HP2.out; omega) HX1.out)
  replace HX2 := Lib.hid (hb.keep (by have := HP1.out; have := HP12.out; have := HP2.out; omega) HX2.out)
  replace HS2 := Lib.hid hs
  replace HN := Lib.hid (hb.new _ HN.out (HW2.out))
  clear hb hs hnb
  go_wp2_with fail
  refine (lclone_30 p1 y1 sd _ _ HX1.out HS1.out).mono ?_
  rintro e w9 ⟨p3, y3, rfl, hp, hpg, hx, hs, hn⟩
  have HP3 : Hid (y1 < p3 ∧ y2 < p3) := Lib.hid ⟨Nat.lt_of_lt_of_le (lt_of_block HX1.out) hp, Nat.lt_of_lt_of_le (lt_of_block HX2.out) hp⟩
  have HP33 : Hid (p3 < y3) := Lib.hid hpg
  replace HS1 := Lib.hid (HS1.out.stay hn)
  replace HS2 := Lib.hid (HS2.out.stay hn)
  replace HX1 := Lib.hid ((hn.block _ (lt_of_block HX1.out)).trans HX1.out)
  replace HX2 := Lib.hid ((hn.block _ (lt_of_block HX2.out)).trans HX2.out)
  replace HN := Lib.hid (HN.out.trans hn)
  have HS3 := Lib.hid hs
  have HX3 := Lib.hid hx
  clear hs hx hn hp hpg
  have HSUM : Hid (l1.length + n2 ≤ 140737488355328) := Lib.hid (by have := HLE.out; have := HQB.out; omega)
  go_wp2_with fail
  refine (lwrite_30 p1 y1 sd _ _ _ _ _ _ HX1.out HS1.out (HC.out.stay HN.out) HSUM.out).mono ?_
  rintro e w9 ⟨rfl, hs, hb⟩
  have hnb := HS1.out.noBytes
  replace HS2 := Lib.hid (HS2.out.but hb (by have := HP1.out; have := HP12.out; have := HP2.out; have := HP3.out; have := HP33.out; omega) HS1.out.apart)
  replace HS3 := Lib.hid (HS3.out.but hb (by have := HP1.out; have := HP12.out; have := HP2.out; have := HP3.out; have := HP33.out; omega) HS1.out.apart)
  replace HX1 := Lib.hid (hb.keep (by have := HP1.out; have := HP12.out; have := HP2.out; have := HP3.out; have := HP33.out; omega) HX1.out)
  replace HX2 := Lib.hid (hb.keep (by have := HP1.out; have := HP12.out; have := HP2.out; have := HP3.out; have := HP33.out; omega) HX2.out)
  replace HX3 := Lib.hid (hb.keep (by have := HP1.out; have := HP12.out; have := HP2.out; have := HP3.out; have := HP33.out; omega) HX3.out)
  replace HS1 := Lib.hid hs
  replace HN := Lib.hid (hb.new _ HN.out (HW1.out))
  clear hb hs hnb
  go_wp2_with fail
  refine (lwrite_30 p2 y2 sd _ _ _ _ _ _ HX2.out HS2.out (HC.out.stay HN.out) HSUM.out).mono ?_
  rintro e w9 ⟨rfl, hs, hb⟩
  have hnb := HS2.out.noBytes
  replace HS1 := Lib.hid (HS1.out.but hb (by have := HP1.out; have := HP12.out; have := HP2.out; have := HP3.out; have := HP33.out; omega) HS2.out.apart)
  replace HS3 := Lib.hid (HS3.out.but hb (by have := HP1.out; have := HP12.out; have := HP2.out; have := HP3.out; have := HP33.out; omega) HS2.out.apart)
  replace HX1 := Lib.hid (hb.keep (by have := HP1.out; have := HP12.out; have := HP2.out; have := HP3.out; have := HP33.out; omega) HX1.out)
  replace HX2 := Lib.hid (hb.keep (by have := HP1.out; have := HP12.out; have := HP2.out; have := HP3.out; have := HP33.out; omega) HX2.out)
  replace HX3 := Lib.hid (hb.keep (by have := HP1.out; have := HP12.out; have := HP2.out; have := HP3.out; have := HP33.out; omega) HX3.out)
  replace HS2 := Lib.hid hs
  replace HN := Lib.hid (hb.new _ HN.out (HW2.out))
  clear hb hs hnb
  go_wp2_with fail
  refine (both_ref a1 a2 n1 m1 n2 m2 l1 l2 W _ (HB.out.stay HN.out) (HC.out.stay HN.out) (by have := HLE.out; omega) HN.out).mono ?_
  rintro e w9 ⟨o1, oc1, rfl, ho1, hn, _⟩
  replace HS1 := Lib.hid (HS1.out.stay hn)
  replace HS2 := Lib.hid (HS2.out.stay hn)
  replace HS3 := Lib.hid (HS3.out.stay hn)
  replace HX1 := Lib.hid ((hn.block _ (lt_of_block HX1.out)).trans HX1.out)
  replace HX2 := Lib.hid ((hn.block _ (lt_of_block HX2.out)).trans HX2.out)
  replace HX3 := Lib.hid ((hn.block _ (lt_of_block HX3.out)).trans HX3.out)
  replace HN := Lib.hid (HN.out.trans hn)
  have HO1 := Lib.hid ho1
  clear ho1 hn
  have HRQ := Lib.hid (fun w' (h : BRow w' o1 (n1 + n2) oc1 (l1 ++ l2)) => HRF.out _ _ _ _ w' h)
  have HSA := Lib.hid (fun w' hx hs => HSM.out p1 y1 (l1 ++ l2) w' hx hs)
  have HSB := Lib.hid (fun w' hx hs => HSM.out p2 y2 (l1 ++ l2) w' hx hs)
  obtain ⟨hh, hhe⟩ : ∃ r, hash30 sd (l1 ++ l2) = r := ⟨_, rfl⟩
  rw [hhe] at HRQ HSA HSB
  clear hhe
  have HRL := Lib.hid (fun w' (h : New W w') => HRF.out _ _ _ _ w' (HB.out.stay h))
  have HSC := Lib.hid (fun w' hx hs => HSM.out p3 y3 l1 w' hx hs)
  obtain ⟨h1, hhe⟩ : ∃ r, hash30 sd l1 = r := ⟨_, rfl⟩
  rw [hhe] at HRL HSC
  clear hhe
  go_wp2_with fail
  refine (HRQ.out _ HO1.out).mono ?_
  rintro e w9 ⟨rfl, hn⟩
  replace HS1 := Lib.hid (HS1.out.stay hn)
  replace HS2 := Lib.hid (HS2.out.stay hn)
  replace HS3 := Lib.hid (HS3.out.stay hn)
  replace HX1 := Lib.hid ((hn.block _ (lt_of_block HX1.out)).trans HX1.out)
  replace HX2 := Lib.hid ((hn.block _ (lt_of_block HX2.out)).trans HX2.out)
  replace HX3 := Lib.hid ((hn.block _ (lt_of_block HX3.out)).trans HX3.out)
  replace HN := Lib.hid (HN.out.trans hn)
  clear hn HO1 HRQ
  have hx := heap_alloc_new w9 (.cells #[.int .u64 (W64 (hh).2), .int .u64 (W64 (hh).1)] 27)
  have hn2 := (New.refl w9).alloc (.cells #[.int .u64 (W64 (hh).2), .int .u64 (W64 (hh).1)] 27)
  obtain ⟨qHU, hq⟩ : ∃ q, w9.heap.size = q := ⟨_, rfl⟩
  have hle := HN.out.le
  rw [hq] at hx hle
  have hw0 := And.intro (rfl : w9.alloc (.cells #[.int .u64 (W64 (hh).2), .int .u64 (W64 (hh).1)] 27) = w9.alloc (.cells #[.int .u64 (W64 (hh).2), .int .u64 (W64 (hh).1)] 27)) hq
  generalize hw2 : w9.alloc (.cells #[.int .u64 (W64 (hh).2), .int .u64 (W64 (hh).1)] 27) = w10 at hx hn2 hw0
  have HE := Lib.hid (show w9.alloc (.cells #[.int .u64 (W64 (hh).2), .int .u64 (W64 (hh).1)] 27) = w10 ∧ w9.heap.size = qHU from ⟨hw2, hq⟩)
  clear hw0 hw2
  replace HS1 := Lib.hid (HS1.out.stay hn2)
  replace HS2 := Lib.hid (HS2.out.stay hn2)
  replace HS3 := Lib.hid (HS3.out.stay hn2)
  replace HX1 := Lib.hid ((hn2.block _ (lt_of_block HX1.out)).trans HX1.out)
  replace HX2 := Lib.hid ((hn2.block _ (lt_of_block HX2.out)).trans HX2.out)
  replace HX3 := Lib.hid ((hn2.block _ (lt_of_block HX3.out)).trans HX3.out)
  replace HN := Lib.hid (HN.out.trans hn2)
  have HU := Lib.hid hx
  have HLHU := Lib.hid hle
  clear hx hn2 hq hle
  go_wp2_with (rw [HE.out.1, HE.out.2])
  clear HE
  have heq := fun w => eqUs w hh.2 hh.1
  have heq2 := fun w => eqUs w h1.2 h1.1
  refine Gro3.wp_region_gro3S (fun w' => w'.heap[qHU]? = some (.cells #[.int .u64 (W64 (hh).2), .int .u64 (W64 (hh).1)] 27 (0, 0)) ∧ New w10 w') (fun w' => w'.heap[qHU]? = some (.cells #[.int .u64 (W64 (hh).2), .int .u64 (W64 (hh).1)] 27 (0, 0)) ∧ New w10 w') [0, 2, 1, 1, 0, 0, 2, 1, 1, 0, 0, 0, 0, 0, 0, 0, 2, 0, 0, 2, 0, 0, 0] New (fun _ _ _ => True) (by kernel_rfl) (by kernel_rfl) (by kernel_rfl) (fun _ _ _ _ _ _ => trivial) (fun w' hw' => hw') (⟨HU.out, (New.refl _).drew⟩) ?_
  intro I J _ _ f g hfa hba hgb hbb
  have HFA := Lib.hid hfa
  have HBA := Lib.hid hba
  have HGB := Lib.hid hgb
  have HBB := Lib.hid hbb
  have s0 := fun n => cell_of_row _ _ 0 _ _ _ (hgb n).1
  have s1 := fun n => cell_of_row _ _ 1 _ _ _ (hgb n).1
  clear hfa hba hgb hbb
  refine Gro3.take0 1 (by kernel_rfl) ?_
  simp only [List.take, List.drop, List.length]
  repeat (go_big_quiet_step (fail))
  refine wpQuiet_nil ?_
  refine Gro3.callt (fun v => v = .agg #[.int .u64 (W64 (hh).2), .int .u64 (W64 (hh).1)]) (fun _ _ => True) rfl rfl (⟨_, rfl⟩) (fun _ _ _ _ _ => trivial) (fun w1 hB hG => ?_) (fun v1 A1 hv1 hA => ?_)
  · obtain ⟨nq, rfl⟩ := hB
    clear s0 s1
    go_simp
    refine (HSA.out _ (((HGB.out nq).2.block _ (lt_of_block HX1.out)).trans HX1.out) (HS1.out.stay (HGB.out nq).2)).mono ?_
    rintro e w2 ⟨rfl, hn⟩
    have HX := HBB.out _ ⟨(hn.block _ (lt_of_block (HGB.out nq).1)).trans (HGB.out nq).1, (HGB.out nq).2.trans hn⟩
    first | exact ⟨_, rfl, HX, hn, rfl⟩ | exact ⟨_, rfl, HX, hn, rfl, trivial⟩ | exact ⟨rfl, HX, hn⟩ | exact ⟨HX, hn, rfl⟩ | exact ⟨HX, hn⟩
  simp [Act.put] at hA
  subst hA
  obtain rfl := hv1
  refine Gro3.take1 2 (by kernel_rfl) ?_
  simp only [List.take, List.drop, List.length]
  repeat (go_big_quiet_step (fail))
  refine wpQuiet_nil ?_
  refine Gro3.take0 2 (by kernel_rfl) ?_
  simp only [List.take, List.drop, List.length]
  repeat (go_big_quiet_step (fail))
  refine wpQuiet_nil ?_
  refine Gro3.callt (fun v => v = .agg #[.int .u64 (W64 (hh).2), .int .u64 (W64 (hh).1)]) (fun _ _ => True) rfl rfl (⟨_, rfl⟩) (fun _ _ _ _ _ => trivial) (fun w1 hB hG => ?_) (fun v2 A2 hv2 hA => ?_)
  · obtain ⟨nq, rfl⟩ := hB
    clear s0 s1
    go_simp
    refine (HSB.out _ (((HGB.out nq).2.block _ (lt_of_block HX2.out)).trans HX2.out) (HS2.out.stay (HGB.out nq).2)).mono ?_
    rintro e w2 ⟨rfl, hn⟩
    have HX := HBB.out _ ⟨(hn.block _ (lt_of_block (HGB.out nq).1)).trans (HGB.out nq).1, (HGB.out nq).2.trans hn⟩
    first | exact ⟨_, rfl, HX, hn, rfl⟩ | exact ⟨_, rfl, HX, hn, rfl, trivial⟩ | exact ⟨rfl, HX, hn⟩ | exact ⟨HX, hn, rfl⟩ | exact ⟨HX, hn⟩
  simp [Act.put] at hA
  subst hA
  obtain rfl := hv2
  refine Gro3.take1 2 (by kernel_rfl) ?_
  simp only [List.take, List.drop, List.length]
  repeat (go_big_quiet_step (fail))
  refine wpQuiet_nil ?_
  refine Gro3.take0 7 (by kernel_rfl) ?_
  simp only [List.take, List.drop, List.length]
  repeat (go_big_quiet_step (fail))
  refine wpQuiet_nil ?_
  refine Gro3.callt (fun v => v = .agg #[.int .u64 (W64 (h1).2), .int .u64 (W64 (h1).1)]) (fun _ _ => True) rfl rfl (⟨_, rfl⟩) (fun _ _ _ _ _ => trivial) (fun w1 hB hG => ?_) (fun v3 A3 hv3 hA => ?_)
  · obtain ⟨nq, rfl⟩ := hB
    clear s0 s1
    go_simp
    refine (HSC.out _ (((HGB.out nq).2.block _ (lt_of_block HX3.out)).trans HX3.out) (HS3.out.stay (HGB.out nq).2)).mono ?_
    rintro e w2 ⟨rfl, hn⟩
    have HX := HBB.out _ ⟨(hn.block _ (lt_of_block (HGB.out nq).1)).trans (HGB.out nq).1, (HGB.out nq).2.trans hn⟩
    first | exact ⟨_, rfl, HX, hn, rfl⟩ | exact ⟨_, rfl, HX, hn, rfl, trivial⟩ | exact ⟨rfl, HX, hn⟩ | exact ⟨HX, hn, rfl⟩ | exact ⟨HX, hn⟩
  simp [Act.put] at hA
  subst hA
  obtain rfl := hv3
  refine Gro3.take0 2 (by kernel_rfl) ?_
  simp only [List.take, List.drop, List.length]
  repeat (go_big_quiet_step (fail))
  refine wpQuiet_nil ?_
  refine Gro3.callt (fun v => v = .agg #[.int .u64 (W64 (h1).2), .int .u64 (W64 (h1).1)]) (fun _ _ => True) rfl rfl (⟨_, rfl⟩) (fun _ _ _ _ _ => trivial) (fun w1 hB hG => ?_) (fun v4 A4 hv4 hA => ?_)
  · obtain ⟨nq, rfl⟩ := hB
    clear s0 s1
    go_simp
    refine (HRL.out _ (HN.out.trans (HGB.out nq).2)).mono ?_
    rintro e w2 ⟨rfl, hn⟩
    have HX := HBB.out _ ⟨(hn.block _ (lt_of_block (HGB.out nq).1)).trans (HGB.out nq).1, (HGB.out nq).2.trans hn⟩
    first | exact ⟨_, rfl, HX, hn, rfl⟩ | exact ⟨_, rfl, HX, hn, rfl, trivial⟩ | exact ⟨rfl, HX, hn⟩ | exact ⟨HX, hn, rfl⟩ | exact ⟨HX, hn⟩
  simp [Act.put] at hA
  subst hA
  obtain rfl := hv4
  refine Gro3.take0 3 (by kernel_rfl) ?_
  simp only [List.take, List.drop, List.length]
  repeat (go_big_quiet_step (fail))
  refine wpQuiet_nil ?_
  refine Gro3.nil ?_
  rintro w9 ⟨n9, rfl⟩ hG
  have hn := (HGB.out n9).2
  clear HFA HBA HGB HBB s0 s1
  have HNZ := Lib.hid (HN.out.trans hn)
  clear hn hG HN HS1 HS2 HS3 HX1 HX2 HX3
  generalize g n9 = w9 at *
  go_wp2
  go_ret
  exact ⟨rfl, HNZ.out⟩
end Go.Proofs.Ytnapogamcohfaaa
