/- Layer 29: the document's own From. -/
import Derived.Test.YtegibnffingciaaB29F
import Derived.Defers
import Derived.Recover
import Derived.Laws.Pointers
import Derived.Handy
import Derived.Laws.EntriesVeiled
namespace Go.Proofs.Ytegibnffingciaa
open Go.RowKit Go.Bv
set_option linter.unusedVariables false
theorem rd_take29 (l : List (BitVec 8)) (n k m : Nat) (h : k + m ≤ n) : rd (l.take n) k m = rd l k m := by
  unfold rd
  exact num_congr m (fun i hi => by simp [List.getD_eq_getElem?_getD, show k + i < n by omega])
def lenOf29 : Value → Nat
  | .slice _ n _ => n
  | _ => 0
/-- the hash -/
def hash29 (sd : BitVec 32) (l : List (BitVec 8)) : BitVec 32 := end29 (bState 4 stp29 sd l) (bTail 4 l) (BitVec.ofNat 64 l.length)
theorem word_ref29 (k : BitVec 32) (w : World) : Calls Try.prog 101 #[.int .u32 (W32 k)] w fun e w' => e = .returned (.int .u32 (W32 (word29 k))) ∧ w' = w := by
  have HR := Lib.hid (rot32r_n (k * 3432918353#32) 15 (by decide))
  go_enter Try.func101, Try.ntmps101
  go_wp2_with fail
  refine (HR.out _).mono ?_
  rintro e w' ⟨rfl, rfl⟩
  go_wp2
  go_ret
  exact ⟨rfl, rfl⟩
set_option maxRecDepth 100000 in
set_option maxHeartbeats 2000000 in
theorem from_ref29 (s : BitVec 32) (x1 x2 x3 : Value) (a : Option Addr) (n c : Nat) (l : List (BitVec 8)) (w : World) (h : BRow w a n c l) :
    Calls Try.prog 98 #[.agg #[.int .u64 (W64 (s.setWidth 64)), x1, x2, x3], .slice a n c] w fun e w' => ∃ a' c', e = .returned (.tuple #[.agg #[.int .u64 (W64 ((bState 4 stp29 s l).setWidth 64)), .int .u64 0, .int .u64 0, .int .u64 0], .slice a' (n % 4 : Nat) c']) ∧ BRow w' a' (n % 4) c' (bTail 4 l) ∧ New w w' := by
  have H := Lib.hid h
  have HL := Lib.hid h.len_eq
  clear h
  have hsw : (s.setWidth 64).setWidth 32 = s := by
    apply BitVec.eq_of_toNat_eq
    rw [BitVec.toNat_setWidth, BitVec.toNat_setWidth]
    have := s.isLt
    omega
  have HZ := Lib.hid (two_blocks w (.cells #[.int .u64 (W64 (s.setWidth 64)), x1, x2, x3] 59) (.cells #[.int .u64 0, .int .u64 0, .int .u64 0, .int .u64 0] 59))
  go_enter Try.func98, Try.ntmps98
  go_wp2
  go_loopw [1, 6] (fun sl h1 wr => ∃ (a2 : Option Addr) (n2 c2 : Nat) (l2 : List (BitVec 8)) (s2 : BitVec 32), sl = .slice a2 n2 c2 ∧ h1 = .int .u32 (W32 s2) ∧ BRow w a2 n2 c2 l2 ∧ bState 4 stp29 s2 l2 = bState 4 stp29 s l ∧ bTail 4 l2 = bTail 4 l ∧ n2 % 4 = n % 4 ∧ wr.heap[w.heap.size + 1]? = some (.cells #[.int .u64 0, .int .u64 0, .int .u64 0, .int .u64 0] 59 (0, 0)) ∧ New w wr) (fun sl _ _ => lenOf29 sl)
  case atStart => exact ⟨a, n, c, l, s, rfl, by first | rfl | rw [hsw], H.out, rfl, rfl, rfl, HZ.out.2.1, HZ.out.2.2⟩
  case round =>
    obtain ⟨a2, n2, c2, l2, s2, rfl, rfl, hrow, hs, ht, hm, hz, hn⟩ := hrel
    have HR := Lib.hid hrow
    have HS := Lib.hid hs
    have HT := Lib.hid ht
    have HM := Lib.hid hm
    have HZZ := Lib.hid hz
    have HN := Lib.hid hn
    have hle := hrow.le
    have hlen := hrow.len_eq
    have hmost := hrow.most
    have hroom := hrow.room
    clear hrow hs ht hm hz hn
    by_cases hlt : (4 : Int) ≤ (n2 : Int)
    · obtain ⟨b, off, rfl, _⟩ := HR.out.addr (by omega)
      have hst := bState_step 4 (by decide) stp29 s2 l2 (by omega)
      have htl := bTail_step 4 (by decide) l2 (by omega)
      have HK1 := Lib.hid (num_ref (some ⟨b, off, none⟩) n2 c2 l2 0 4 wr (HR.out.stay HN.out) (by omega) (by omega))
      have hr1 : rd (l2.take 4) 0 4 = rd l2 0 4 := rd_take29 l2 4 0 4 (by omega)
      obtain ⟨m1, hm1⟩ : ∃ m, (s2 ^^^ word29 ((rd l2 0 4).setWidth 32)).rotateLeft 13 * 5#32 + 3864292196#32 = m := ⟨_, rfl⟩
      have hstp : stp29 s2 (l2.take 4) = m1 := by
        unfold stp29 mm29 in29
        rw [hr1, ← hm1]
      rw [hstp] at hst
      have HST := Lib.hid (hst.symm.trans HS.out)
      have HTL := Lib.hid (htl.symm.trans HT.out)
      obtain ⟨k1, hk1⟩ : ∃ k, rd l2 0 4 = k := ⟨_, rfl⟩
      rw [hk1] at HK1 hm1
      have HO1 := Lib.hid (word_ref29 (k1.setWidth 32))
      have HQ1 := Lib.hid (rot32r_n (s2 ^^^ word29 (k1.setWidth 32)) 13 (by decide))
      obtain ⟨q1, hq1⟩ : ∃ k, (s2 ^^^ word29 (k1.setWidth 32)).rotateLeft 13 = k := ⟨_, rfl⟩
      rw [hq1] at HQ1 hm1
      obtain ⟨o1, ho1⟩ : ∃ k, word29 (k1.setWidth 32) = k := ⟨_, rfl⟩
      rw [ho1] at HQ1 HO1
      have HM1 := Lib.hid hm1
      clear hst htl hr1 hstp hm1 hk1 hq1 ho1
      have hmod : (n2 - 4) % 4 = n2 % 4 := by omega
      have HMD := Lib.hid (hmod.trans HM.out)
      have hi1 : (4 : Int) ≤ (c2 : Int) := by omega
      have hlc : (n2 : Int) ≤ (c2 : Int) := by omega
      clear hmod
      by_cases hcm : c2 = 4
      · obtain rfl : n2 = 4 := by omega
        subst hcm
        have HR0 := Lib.hid (row_end HR.out)
        go_wp2_with fail
        refine (HK1.out).mono ?_
        rintro e w9 ⟨rfl, rfl⟩
        go_wp2_with fail
        refine (HO1.out _).mono ?_
        rintro e w9 ⟨rfl, rfl⟩
        go_wp2_with fail
        refine (HQ1.out _).mono ?_
        rintro e w9 ⟨rfl, rfl⟩
        have hm1 := HM1.out
        go_wp2
        exact ⟨⟨_, 0, 0, l2.drop 4, m1, rfl, rfl, HR0.out, HST.out, HTL.out, HMD.out, HZZ.out, HN.out⟩, by simp [lenOf29] <;> omega⟩
      · have hcm2 : ¬ (c2 : Int) = 4 := by omega
        obtain ⟨sp2, hadd, hsp⟩ := row_rest HR.out (show 4 ≤ n2 by omega)
        obtain rfl : sp2 = none := by
          simp [Addr.add] at hadd
          first | exact hadd | exact hadd.symm
        have HR0 := Lib.hid hsp
        have HLT := Lib.hid hlt
        clear hsp hadd
        go_wp2_with fail
        refine (HK1.out).mono ?_
        rintro e w9 ⟨rfl, rfl⟩
        go_wp2_with fail
        refine (HO1.out _).mono ?_
        rintro e w9 ⟨rfl, rfl⟩
        go_wp2_with fail
        refine (HQ1.out _).mono ?_
        rintro e w9 ⟨rfl, rfl⟩
        have hm1 := HM1.out
        go_wp2
        exact ⟨⟨_, (n2 - 4), (c2 - 4), l2.drop 4, m1, rfl, rfl, HR0.out, HST.out, HTL.out, HMD.out, HZZ.out, HN.out⟩, by simp [lenOf29] <;> omega⟩
    · have hsh : l2.length < 4 := by omega
      have h1 := bState_short 4 stp29 s2 l2 hsh
      have h2 := bTail_short 4 l2 hsh
      rw [h1] at HS
      rw [h2] at HT
      have h3 : n % 4 = n2 := by have := HM.out; omega
      have H3 := Lib.hid h3
      have z0 := cell_of_row _ _ 0 _ _ _ HZZ.out
      have z1 := cell_of_row _ _ 1 _ _ _ HZZ.out
      have z2 := cell_of_row _ _ 2 _ _ _ HZZ.out
      have z3 := cell_of_row _ _ 3 _ _ _ HZZ.out
      have zf := fun i => frozen_of_row _ _ i _ _ HZZ.out
      clear h1 h2 h3 hsh
      go_wp2
      refine bodyPost_ret (by simp [results, Try.results98, go_sem, z0, z1, z2, z3]; try rfl) rfl ?_
      have hq : ∀ i, w.heap.size ≤ (⟨w.heap.size + 1, i, none⟩ : Addr).block := fun i => by show w.heap.size ≤ w.heap.size + 1; omega
      have HNF := ((((HN.out.setCell (hq 0) (.int .u64 (W64 (s2.setWidth 64)))).setCell (hq 1) (.int .u64 0)).setCell (hq 2) (.int .u64 0)).setCell (hq 3) (.int .u64 0))
      rw [H3.out, ← HS.out, ← HT.out]
      exact ⟨a2, c2, rfl, HR.out.stay HNF, HNF⟩
end Go.Proofs.Ytegibnffingciaa
