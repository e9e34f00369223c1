/- Layer 30: the document's own word, From. -/
import Derived.Test.YtnapogamcohfaaaM30A
import Derived.Test.YtnapogamcohfaaaHshE
import Derived.Defers
import Derived.Recover
import Derived.Laws.Pointers
import Derived.Handy
import Derived.Laws.EntriesVeiled
import Derived.LoopN
namespace Go.Proofs.Ytnapogamcohfaaa
open Go.RowKit Go.Bv
set_option linter.unusedVariables false
theorem c0_r (w : World) : Calls Try.prog 54 #[.int .i64 0] w fun e w' => e = .returned (.int .u32 597399067) ∧ New w w' := by
  have HZ := Lib.hid (heap_alloc_new w (.cells #[.int .u32 597399067, .int .u32 2869860233, .int .u32 951274213, .int .u32 2716044179] 51))
  have c0 := cell_of_row _ _ 0 _ _ _ HZ.out
  go_enter Try.func54, Try.ntmps54
  go_wp2
  go_ret
  exact ⟨rfl, (New.refl w).alloc _⟩
theorem c1_r (w : World) : Calls Try.prog 54 #[.int .i64 1] w fun e w' => e = .returned (.int .u32 2869860233) ∧ New w w' := by
  have HZ := Lib.hid (heap_alloc_new w (.cells #[.int .u32 597399067, .int .u32 2869860233, .int .u32 951274213, .int .u32 2716044179] 51))
  have c0 := cell_of_row _ _ 1 _ _ _ HZ.out
  go_enter Try.func54, Try.ntmps54
  go_wp2
  go_ret
  exact ⟨rfl, (New.refl w).alloc _⟩
theorem c2_r (w : World) : Calls Try.prog 54 #[.int .i64 2] w fun e w' => e = .returned (.int .u32 951274213) ∧ New w w' := by
  have HZ := Lib.hid (heap_alloc_new w (.cells #[.int .u32 597399067, .int .u32 2869860233, .int .u32 951274213, .int .u32 2716044179] 51))
  have c0 := cell_of_row _ _ 2 _ _ _ HZ.out
  go_enter Try.func54, Try.ntmps54
  go_wp2
  go_ret
  exact ⟨rfl, (New.refl w).alloc _⟩
theorem c3_r (w : World) : Calls Try.prog 54 #[.int .i64 3] w fun e w' => e = .returned (.int .u32 2716044179) ∧ New w w' := by
  have HZ := Lib.hid (heap_alloc_new w (.cells #[.int .u32 597399067, .int .u32 2869860233, .int .u32 951274213, .int .u32 2716044179] 51))
  have c0 := cell_of_row _ _ 3 _ _ _ HZ.out
  go_enter Try.func54, Try.ntmps54
  go_wp2
  go_ret
  exact ⟨rfl, (New.refl w).alloc _⟩
theorem c4_r (w : World) : Calls Try.prog 54 #[.int .i64 4] w fun e w' => e = .returned (.int .u32 597399067) ∧ New w w' := by
  have HZ := Lib.hid (heap_alloc_new w (.cells #[.int .u32 597399067, .int .u32 2869860233, .int .u32 951274213, .int .u32 2716044179] 51))
  have c0 := cell_of_row _ _ 0 _ _ _ HZ.out
  go_enter Try.func54, Try.ntmps54
  go_wp2
  go_ret
  exact ⟨rfl, (New.refl w).alloc _⟩
theorem word0_r (k : BitVec 64) (w : World) : Calls Try.prog 39 #[.int .u64 (W64 k), .int .i64 0] w fun e w' => e = .returned (.int .u32 (W32 (sa30 (k.setWidth 32)))) ∧ New w w' := by
  unfold sa30
  have HR := Lib.hid (rot32r_n (k.setWidth 32 * 597399067#32) 15 (by decide))
  obtain ⟨r, hr⟩ : ∃ z, (k.setWidth 32 * 597399067#32).rotateLeft 15 = z := ⟨_, rfl⟩
  rw [hr] at HR ⊢
  clear hr
  go_enter Try.func39, Try.ntmps39
  go_wp2_with fail
  refine (c0_r _).mono ?_
  rintro e w9 ⟨rfl, hn⟩
  have HN := Lib.hid hn
  clear hn
  go_wp2_with fail
  refine (HR.out _).mono ?_
  rintro e w9 ⟨rfl, rfl⟩
  go_wp2_with fail
  refine (c1_r _).mono ?_
  rintro e w9 ⟨rfl, hn⟩
  replace HN := Lib.hid (HN.out.trans hn)
  clear hn
  go_wp2
  go_ret
  exact ⟨rfl, HN.out⟩
theorem word1_r (k : BitVec 64) (w : World) : Calls Try.prog 39 #[.int .u64 (W64 k), .int .i64 1] w fun e w' => e = .returned (.int .u32 (W32 (sb30 (k.setWidth 32)))) ∧ New w w' := by
  unfold sb30
  have HR := Lib.hid (rot32r_n (k.setWidth 32 * 2869860233#32) 16 (by decide))
  obtain ⟨r, hr⟩ : ∃ z, (k.setWidth 32 * 2869860233#32).rotateLeft 16 = z := ⟨_, rfl⟩
  rw [hr] at HR ⊢
  clear hr
  go_enter Try.func39, Try.ntmps39
  go_wp2_with fail
  refine (c1_r _).mono ?_
  rintro e w9 ⟨rfl, hn⟩
  have HN := Lib.hid hn
  clear hn
  go_wp2_with fail
  refine (HR.out _).mono ?_
  rintro e w9 ⟨rfl, rfl⟩
  go_wp2_with fail
  refine (c2_r _).mono ?_
  rintro e w9 ⟨rfl, hn⟩
  replace HN := Lib.hid (HN.out.trans hn)
  clear hn
  go_wp2
  go_ret
  exact ⟨rfl, HN.out⟩
theorem word2_r (k : BitVec 64) (w : World) : Calls Try.prog 39 #[.int .u64 (W64 k), .int .i64 2] w fun e w' => e = .returned (.int .u32 (W32 (sc30 (k.setWidth 32)))) ∧ New w w' := by
  unfold sc30
  have HR := Lib.hid (rot32r_n (k.setWidth 32 * 951274213#32) 17 (by decide))
  obtain ⟨r, hr⟩ : ∃ z, (k.setWidth 32 * 951274213#32).rotateLeft 17 = z := ⟨_, rfl⟩
  rw [hr] at HR ⊢
  clear hr
  go_enter Try.func39, Try.ntmps39
  go_wp2_with fail
  refine (c2_r _).mono ?_
  rintro e w9 ⟨rfl, hn⟩
  have HN := Lib.hid hn
  clear hn
  go_wp2_with fail
  refine (HR.out _).mono ?_
  rintro e w9 ⟨rfl, rfl⟩
  go_wp2_with fail
  refine (c3_r _).mono ?_
  rintro e w9 ⟨rfl, hn⟩
  replace HN := Lib.hid (HN.out.trans hn)
  clear hn
  go_wp2
  go_ret
  exact ⟨rfl, HN.out⟩
theorem word3_r (k : BitVec 64) (w : World) : Calls Try.prog 39 #[.int .u64 (W64 k), .int .i64 3] w fun e w' => e = .returned (.int .u32 (W32 (sd30 (k.setWidth 32)))) ∧ New w w' := by
  unfold sd30
  have HR := Lib.hid (rot32r_n (k.setWidth 32 * 2716044179#32) 18 (by decide))
  obtain ⟨r, hr⟩ : ∃ z, (k.setWidth 32 * 2716044179#32).rotateLeft 18 = z := ⟨_, rfl⟩
  rw [hr] at HR ⊢
  clear hr
  go_enter Try.func39, Try.ntmps39
  go_wp2_with fail
  refine (c3_r _).mono ?_
  rintro e w9 ⟨rfl, hn⟩
  have HN := Lib.hid hn
  clear hn
  go_wp2_with fail
  refine (HR.out _).mono ?_
  rintro e w9 ⟨rfl, rfl⟩
  go_wp2_with fail
  refine (c4_r _).mono ?_
  rintro e w9 ⟨rfl, hn⟩
  replace HN := Lib.hid (HN.out.trans hn)
  clear hn
  go_wp2
  go_ret
  exact ⟨rfl, HN.out⟩
theorem rd_take30 (l : List (BitVec 8)) (n k m : Nat) (h : k + m ≤ n) : rd (l.take n) k m = rd l k m := by
  unfold rd
  exact num_congr m (fun i hi => by simp [List.getD_eq_getElem?_getD, show k + i < n by omega])
def lenOf30 : Value → Nat
  | .slice _ n _ => n
  | _ => 0
theorem sw30 (s : BitVec 32) : (s.setWidth 64).setWidth 32 = s := by
  apply BitVec.eq_of_toNat_eq
  rw [BitVec.toNat_setWidth, BitVec.toNat_setWidth]
  have := s.isLt
  omega
set_option maxRecDepth 100000 in
set_option maxHeartbeats 8000000 in
theorem from_ref30 (s : BitVec 32 × BitVec 32 × BitVec 32 × BitVec 32) (a : Option Addr) (n c : Nat) (l : List (BitVec 8)) (w : World) (h : BRow w a n c l) :
    Calls Try.prog 35 #[.agg #[.int .u64 (W64 ((s).1.setWidth 64)), .int .u64 (W64 ((s).2.1.setWidth 64)), .int .u64 (W64 ((s).2.2.1.setWidth 64)), .int .u64 (W64 ((s).2.2.2.setWidth 64))], .slice a n c] w fun e w' => ∃ a' c', e = .returned (.tuple #[.agg #[.int .u64 (W64 ((bState 16 stp30 s l).1.setWidth 64)), .int .u64 (W64 ((bState 16 stp30 s l).2.1.setWidth 64)), .int .u64 (W64 ((bState 16 stp30 s l).2.2.1.setWidth 64)), .int .u64 (W64 ((bState 16 stp30 s l).2.2.2.setWidth 64))], .slice a' (n % 16 : Nat) c']) ∧ BRow w' a' (n % 16) c' (bTail 16 l) ∧ New w w' := by
  have H := Lib.hid h
  have HL := Lib.hid h.len_eq
  clear h
  have sw0 := sw30 s.1
  have sw1 := sw30 s.2.1
  have sw2 := sw30 s.2.2.1
  have sw3 := sw30 s.2.2.2
  have HZ := Lib.hid (two_blocks w (.cells #[.int .u64 (W64 ((s).1.setWidth 64)), .int .u64 (W64 ((s).2.1.setWidth 64)), .int .u64 (W64 ((s).2.2.1.setWidth 64)), .int .u64 (W64 ((s).2.2.2.setWidth 64))] 38) (.cells #[.int .u64 0, .int .u64 0, .int .u64 0, .int .u64 0] 38))
  go_enter Try.func35, Try.ntmps35
  go_wp2
  clear sw0 sw1 sw2 sw3
  go_loopw [1, 6, 7, 8, 9] (fun sl h1 h2 h3 h4 wr => ∃ (a2 : Option Addr) (n2 c2 : Nat) (l2 : List (BitVec 8)) (s2 : BitVec 32 × BitVec 32 × BitVec 32 × BitVec 32), sl = .slice a2 n2 c2 ∧ h1 = .int .u32 (W32 s2.1) ∧ h2 = .int .u32 (W32 s2.2.1) ∧ h3 = .int .u32 (W32 s2.2.2.1) ∧ h4 = .int .u32 (W32 s2.2.2.2) ∧ BRow w a2 n2 c2 l2 ∧ bState 16 stp30 s2 l2 = bState 16 stp30 s l ∧ bTail 16 l2 = bTail 16 l ∧ n2 % 16 = n % 16 ∧ wr.heap[w.heap.size + 1]? = some (.cells #[.int .u64 0, .int .u64 0, .int .u64 0, .int .u64 0] 38 (0, 0)) ∧ New w wr) (fun sl _ _ _ _ _ => lenOf30 sl)
  case atStart => exact ⟨a, n, c, l, s, rfl, rfl, rfl, rfl, rfl, H.out, rfl, rfl, rfl, HZ.out.2.1, HZ.out.2.2⟩
  case round =>
    clear HZ
    obtain ⟨aa, n2, c2, l2, s2, rfl, rfl, rfl, rfl, rfl, hrow, hs, ht, hm, hz, hn⟩ := hrel
    have HR := Lib.hid hrow
    have HS := Lib.hid hs
    have HT := Lib.hid ht
    have HM := Lib.hid hm
    have HZZ := Lib.hid hz
    have HN := Lib.hid hn
    have hle := hrow.le
    have hlen := hrow.len_eq
    have hmost := hrow.most
    have hroom := hrow.room
    clear hrow hs ht hm hz hn
    by_cases hlt : (16 : Int) ≤ (n2 : Int)
    · obtain ⟨b, off, rfl, _⟩ := HR.out.addr (by omega)
      have hst := bState_step 16 (by decide) stp30 s2 l2 (by omega)
      have htl := bTail_step 16 (by decide) l2 (by omega)
      obtain ⟨a0, a1, a2, a3⟩ := s2
      unfold stp30 stw30 ml30 at hst
      rw [rd_take30 l2 16 0 4 (by omega), rd_take30 l2 16 4 4 (by omega), rd_take30 l2 16 8 4 (by omega), rd_take30 l2 16 12 4 (by omega)] at hst
      simp only at hst
      have HK0 := Lib.hid (fun w' (hn : New w w') => num_ref (some ⟨b, off, none⟩) n2 c2 l2 0 4 w' (HR.out.stay hn) (by omega) (by omega))
      obtain ⟨k0, hk⟩ : ∃ z, rd l2 0 4 = z := ⟨_, rfl⟩
      rw [hk] at HK0 hst
      clear hk
      have HW0 := Lib.hid (word0_r k0)
      obtain ⟨y0, hy⟩ : ∃ z, sa30 (k0.setWidth 32) = z := ⟨_, rfl⟩
      rw [hy] at HW0 hst
      clear hy
      have HQ0 := Lib.hid (rot32r_n (a0 ^^^ y0) 19 (by decide))
      obtain ⟨r0, hr⟩ : ∃ z, (a0 ^^^ y0).rotateLeft 19 = z := ⟨_, rfl⟩
      rw [hr] at HQ0 hst
      clear hr
      obtain ⟨m0, hm⟩ : ∃ z, (r0 + a1) * 5#32 + 1444728091#32 = z := ⟨_, rfl⟩
      rw [hm] at hst
      have HM0 := Lib.hid hm
      clear hm
      have HK1 := Lib.hid (fun w' (hn : New w w') => num_ref (some ⟨b, off, none⟩) n2 c2 l2 4 4 w' (HR.out.stay hn) (by omega) (by omega))
      obtain ⟨k1, hk⟩ : ∃ z, rd l2 4 4 = z := ⟨_, rfl⟩
      rw [hk] at HK1 hst
      clear hk
      have HW1 := Lib.hid (word1_r k1)
      obtain ⟨y1, hy⟩ : ∃ z, sb30 (k1.setWidth 32) = z := ⟨_, rfl⟩
      rw [hy] at HW1 hst
      clear hy
      have HQ1 := Lib.hid (rot32r_n (a1 ^^^ y1) 17 (by decide))
      obtain ⟨r1, hr⟩ : ∃ z, (a1 ^^^ y1).rotateLeft 17 = z := ⟨_, rfl⟩
      rw [hr] at HQ1 hst
      clear hr
      obtain ⟨m1, hm⟩ : ∃ z, (r1 + a2) * 5#32 + 197830471#32 = z := ⟨_, rfl⟩
      rw [hm] at hst
      have HM1 := Lib.hid hm
      clear hm
      have HK2 := Lib.hid (fun w' (hn : New w w') => num_ref (some ⟨b, off, none⟩) n2 c2 l2 8 4 w' (HR.out.stay hn) (by omega) (by omega))
      obtain ⟨k2, hk⟩ : ∃ z, rd l2 8 4 = z := ⟨_, rfl⟩
      rw [hk] at HK2 hst
      clear hk
      have HW2 := Lib.hid (word2_r k2)
      obtain ⟨y2, hy⟩ : ∃ z, sc30 (k2.setWidth 32) = z := ⟨_, rfl⟩
      rw [hy] at HW2 hst
      clear hy
      have HQ2 := Lib.hid (rot32r_n (a2 ^^^ y2) 15 (by decide))
      obtain ⟨r2, hr⟩ : ∃ z, (a2 ^^^ y2).rotateLeft 15 = z := ⟨_, rfl⟩
      rw [hr] at HQ2 hst
      clear hr
      obtain ⟨m2, hm⟩ : ∃ z, (r2 + a3) * 5#32 + 2530024501#32 = z := ⟨_, rfl⟩
      rw [hm] at hst
      have HM2 := Lib.hid hm
      clear hm
      have HK3 := Lib.hid (fun w' (hn : New w w') => num_ref (some ⟨b, off, none⟩) n2 c2 l2 12 4 w' (HR.out.stay hn) (by omega) (by omega))
      obtain ⟨k3, hk⟩ : ∃ z, rd l2 12 4 = z := ⟨_, rfl⟩
      rw [hk] at HK3 hst
      clear hk
      have HW3 := Lib.hid (word3_r k3)
      obtain ⟨y3, hy⟩ : ∃ z, sd30 (k3.setWidth 32) = z := ⟨_, rfl⟩
      rw [hy] at HW3 hst
      clear hy
      have HQ3 := Lib.hid (rot32r_n (a3 ^^^ y3) 13 (by decide))
      obtain ⟨r3, hr⟩ : ∃ z, (a3 ^^^ y3).rotateLeft 13 = z := ⟨_, rfl⟩
      rw [hr] at HQ3 hst
      clear hr
      obtain ⟨m3, hm⟩ : ∃ z, (r3 + m0) * 5#32 + 850148119#32 = z := ⟨_, rfl⟩
      rw [hm] at hst
      have HM3 := Lib.hid hm
      clear hm
      have HST := Lib.hid (show bState 16 stp30 (m0, m1, m2, m3) (l2.drop 16) = _ from hst.symm.trans HS.out)
      have HTL := Lib.hid (htl.symm.trans HT.out)
      clear hst htl
      have hmod : (n2 - 16) % 16 = n2 % 16 := by omega
      have HMD := Lib.hid (hmod.trans HM.out)
      have hi1 : (16 : Int) ≤ (c2 : Int) := by omega
      have hlc : (n2 : Int) ≤ (c2 : Int) := by omega
      clear hmod
      by_cases hcm : c2 = 16
      · obtain rfl : n2 = 16 := by omega
        subst hcm
        have HR0 := Lib.hid (row_end HR.out)
        go_wp2_with fail
        refine (HK0.out _ HN.out).mono ?_
        rintro e w8 ⟨rfl, hw8⟩
        replace hw8 := hw8.symm
        subst hw8
        go_wp2_with fail
        refine (HW0.out _).mono ?_
        rintro e w8 ⟨rfl, hn⟩
        replace HZZ := Lib.hid ((hn.block _ (lt_of_block HZZ.out)).trans HZZ.out)
        replace HN := Lib.hid (HN.out.trans hn)
        clear hn HK0 HW0
        obtain ⟨w9, hw9⟩ : ∃ z, w8 = z := ⟨_, rfl⟩
        rw [hw9] at HZZ HN ⊢
        clear hw9 w8
        go_wp2_with fail
        refine (HQ0.out _).mono ?_
        rintro e w8 ⟨rfl, hw8⟩
        replace hw8 := hw8.symm
        subst hw8
        have hv := HM0.out
        go_wp2_with fail
        refine (HK1.out _ HN.out).mono ?_
        rintro e w8 ⟨rfl, hw8⟩
        replace hw8 := hw8.symm
        subst hw8
        go_wp2_with fail
        refine (HW1.out _).mono ?_
        rintro e w8 ⟨rfl, hn⟩
        replace HZZ := Lib.hid ((hn.block _ (lt_of_block HZZ.out)).trans HZZ.out)
        replace HN := Lib.hid (HN.out.trans hn)
        clear hn HK1 HW1
        obtain ⟨w9, hw9⟩ : ∃ z, w8 = z := ⟨_, rfl⟩
        rw [hw9] at HZZ HN ⊢
        clear hw9 w8
        go_wp2_with fail
        refine (HQ1.out _).mono ?_
        rintro e w8 ⟨rfl, hw8⟩
        replace hw8 := hw8.symm
        subst hw8
        have hv := HM1.out
        go_wp2_with fail
        refine (HK2.out _ HN.out).mono ?_
        rintro e w8 ⟨rfl, hw8⟩
        replace hw8 := hw8.symm
        subst hw8
        go_wp2_with fail
        refine (HW2.out _).mono ?_
        rintro e w8 ⟨rfl, hn⟩
        replace HZZ := Lib.hid ((hn.block _ (lt_of_block HZZ.out)).trans HZZ.out)
        replace HN := Lib.hid (HN.out.trans hn)
        clear hn HK2 HW2
        obtain ⟨w9, hw9⟩ : ∃ z, w8 = z := ⟨_, rfl⟩
        rw [hw9] at HZZ HN ⊢
        clear hw9 w8
        go_wp2_with fail
        refine (HQ2.out _).mono ?_
        rintro e w8 ⟨rfl, hw8⟩
        replace hw8 := hw8.symm
        subst hw8
        have hv := HM2.out
        go_wp2_with fail
        refine (HK3.out _ HN.out).mono ?_
        rintro e w8 ⟨rfl, hw8⟩
        replace hw8 := hw8.symm
        subst hw8
        go_wp2_with fail
        refine (HW3.out _).mono ?_
        rintro e w8 ⟨rfl, hn⟩
        replace HZZ := Lib.hid ((hn.block _ (lt_of_block HZZ.out)).trans HZZ.out)
        replace HN := Lib.hid (HN.out.trans hn)
        clear hn HK3 HW3
        obtain ⟨w9, hw9⟩ : ∃ z, w8 = z := ⟨_, rfl⟩
        rw [hw9] at HZZ HN ⊢
        clear hw9 w8
        go_wp2_with fail
        refine (HQ3.out _).mono ?_
        rintro e w8 ⟨rfl, hw8⟩
        replace hw8 := hw8.symm
        subst hw8
        have hv := HM3.out
        go_wp2
        exact ⟨⟨_, 0, 0, l2.drop 16, (m0, m1, m2, m3), rfl, rfl, rfl, rfl, rfl, HR0.out, HST.out, HTL.out, HMD.out, HZZ.out, HN.out⟩, by simp [lenOf30] <;> omega⟩
      · have hcm2 : ¬ (c2 : Int) = 16 := by omega
        obtain ⟨sp2, hadd, hsp⟩ := row_rest HR.out (show 16 ≤ n2 by omega)
        obtain rfl : sp2 = none := by
          simp [Addr.add] at hadd
          first | exact hadd | exact hadd.symm
        have HR0 := Lib.hid hsp
        have HLT := Lib.hid hlt
        clear hsp hadd
        go_wp2_with fail
        refine (HK0.out _ HN.out).mono ?_
        rintro e w8 ⟨rfl, hw8⟩
        replace hw8 := hw8.symm
        subst hw8
        go_wp2_with fail
        refine (HW0.out _).mono ?_
        rintro e w8 ⟨rfl, hn⟩
        replace HZZ := Lib.hid ((hn.block _ (lt_of_block HZZ.out)).trans HZZ.out)
        replace HN := Lib.hid (HN.out.trans hn)
        clear hn HK0 HW0
        obtain ⟨w9, hw9⟩ : ∃ z, w8 = z := ⟨_, rfl⟩
        rw [hw9] at HZZ HN ⊢
        clear hw9 w8
        go_wp2_with fail
        refine (HQ0.out _).mono ?_
        rintro e w8 ⟨rfl, hw8⟩
        replace hw8 := hw8.symm
        subst hw8
        have hv := HM0.out
        go_wp2_with fail
        refine (HK1.out _ HN.out).mono ?_
        rintro e w8 ⟨rfl, hw8⟩
        replace hw8 := hw8.symm
        subst hw8
        go_wp2_with fail
        refine (HW1.out _).mono ?_
        rintro e w8 ⟨rfl, hn⟩
        replace HZZ := Lib.hid ((hn.block _ (lt_of_block HZZ.out)).trans HZZ.out)
        replace HN := Lib.hid (HN.out.trans hn)
        clear hn HK1 HW1
        obtain ⟨w9, hw9⟩ : ∃ z, w8 = z := ⟨_, rfl⟩
        rw [hw9] at HZZ HN ⊢
        clear hw9 w8
        go_wp2_with fail
        refine (HQ1.out _).mono ?_
        rintro e w8 ⟨rfl, hw8⟩
        replace hw8 := hw8.symm
        subst hw8
        have hv := HM1.out
        go_wp2_with fail
        refine (HK2.out _ HN.out).mono ?_
        rintro e w8 ⟨rfl, hw8⟩
        replace hw8 := hw8.symm
        subst hw8
        go_wp2_with fail
        refine (HW2.out _).mono ?_
        rintro e w8 ⟨rfl, hn⟩
        replace HZZ := Lib.hid ((hn.block _ (lt_of_block HZZ.out)).trans HZZ.out)
        replace HN := Lib.hid (HN.out.trans hn)
        clear hn HK2 HW2
        obtain ⟨w9, hw9⟩ : ∃ z, w8 = z := ⟨_, rfl⟩
        rw [hw9] at HZZ HN ⊢
        clear hw9 w8
        go_wp2_with fail
        refine (HQ2.out _).mono ?_
        rintro e w8 ⟨rfl, hw8⟩
        replace hw8 := hw8.symm
        subst hw8
        have hv := HM2.out
        go_wp2_with fail
        refine (HK3.out _ HN.out).mono ?_
        rintro e w8 ⟨rfl, hw8⟩
        replace hw8 := hw8.symm
        subst hw8
        go_wp2_with fail
        refine (HW3.out _).mono ?_
        rintro e w8 ⟨rfl, hn⟩
        replace HZZ := Lib.hid ((hn.block _ (lt_of_block HZZ.out)).trans HZZ.out)
        replace HN := Lib.hid (HN.out.trans hn)
        clear hn HK3 HW3
        obtain ⟨w9, hw9⟩ : ∃ z, w8 = z := ⟨_, rfl⟩
        rw [hw9] at HZZ HN ⊢
        clear hw9 w8
        go_wp2_with fail
        refine (HQ3.out _).mono ?_
        rintro e w8 ⟨rfl, hw8⟩
        replace hw8 := hw8.symm
        subst hw8
        have hv := HM3.out
        go_wp2
        exact ⟨⟨_, (n2 - 16), (c2 - 16), l2.drop 16, (m0, m1, m2, m3), rfl, rfl, rfl, rfl, rfl, HR0.out, HST.out, HTL.out, HMD.out, HZZ.out, HN.out⟩, by simp [lenOf30] <;> omega⟩
    · have hsh : l2.length < 16 := by omega
      have h1 := bState_short 16 stp30 s2 l2 hsh
      have h2 := bTail_short 16 l2 hsh
      rw [h1] at HS
      rw [h2] at HT
      have h3 : n % 16 = n2 := by have := HM.out; omega
      have H3 := Lib.hid h3
      have z0 := cell_of_row _ _ 0 _ _ _ HZZ.out
      have z1 := cell_of_row _ _ 1 _ _ _ HZZ.out
      have z2 := cell_of_row _ _ 2 _ _ _ HZZ.out
      have z3 := cell_of_row _ _ 3 _ _ _ HZZ.out
      have zf := fun i => frozen_of_row _ _ i _ _ HZZ.out
      clear h1 h2 h3 hsh
      go_wp2
      refine bodyPost_ret (by simp [results, Try.results35, go_sem, z0, z1, z2, z3]; try rfl) rfl ?_
      have hq : ∀ i, w.heap.size ≤ (⟨w.heap.size + 1, i, none⟩ : Addr).block := fun i => by show w.heap.size ≤ w.heap.size + 1; omega
      have HNF := ((((HN.out.setCell (hq 0) (.int .u64 (W64 (s2.1.setWidth 64)))).setCell (hq 1) (.int .u64 (W64 (s2.2.1.setWidth 64)))).setCell (hq 2) (.int .u64 (W64 (s2.2.2.1.setWidth 64)))).setCell (hq 3) (.int .u64 (W64 (s2.2.2.2.setWidth 64))))
      rw [H3.out, ← HS.out, ← HT.out]
      exact ⟨aa, c2, rfl, HR.out.stay HNF, HNF⟩
end Go.Proofs.Ytnapogamcohfaaa
