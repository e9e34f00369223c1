/- Layer 31: the document's own. -/
import Derived.Test.YtegibnffingciaaB31F
import Derived.Defers
import Derived.Recover
import Derived.Laws.Pointers
import Derived.Handy
import Derived.Laws.EntriesVeiled
namespace Go.Proofs.Ytegibnffingciaa
open Go.RowKit Go.Bv
set_option linter.unusedVariables false
theorem rd_take (l : List (BitVec 8)) (n k m : Nat) (h : k + m ≤ n) : rd (l.take n) k m = rd l k m := by
  unfold rd
  exact num_congr m (fun i hi => by simp [List.getD_eq_getElem?_getD, show k + i < n by omega])
def lenOf31 : Value → Nat
  | .slice _ n _ => n
  | _ => 0
def one31 (k : BitVec 64) : BitVec 64 := (k * 9782798678568883157#64).rotateLeft 31 * 5545529020109919103#64
def two31 (k : BitVec 64) : BitVec 64 := (k * 5545529020109919103#64).rotateLeft 33 * 9782798678568883157#64
theorem rotr_n (y : BitVec 64) (n : Nat) (hn : n < 64) (w : World) : Calls Try.prog 164 #[.int .u64 (W64 y), .int .i64 n] w fun e w' => e = .returned (.int .u64 (W64 (y.rotateLeft n))) ∧ w' = w := by
  have h := rot64_ref (W64 y) (b64 _) n (by omega) w
  rw [ofInt_W64, show ((n : Int) % 64).toNat = n by omega] at h
  exact h
theorem one_ref (k : BitVec 64) (w : World) : Calls Try.prog 135 #[.int .u64 (W64 k)] w fun e w' => e = .returned (.int .u64 (W64 (one31 k))) ∧ w' = w := by
  have HR := Lib.hid (rotr_n (k * 9782798678568883157#64) 31 (by decide))
  go_enter Try.func135, Try.ntmps135
  go_wp2_with fail
  refine (HR.out _).mono ?_
  rintro e w' ⟨rfl, rfl⟩
  go_wp2
  go_ret
  exact ⟨rfl, rfl⟩
theorem two_ref (k : BitVec 64) (w : World) : Calls Try.prog 136 #[.int .u64 (W64 k)] w fun e w' => e = .returned (.int .u64 (W64 (two31 k))) ∧ w' = w := by
  have HR := Lib.hid (rotr_n (k * 5545529020109919103#64) 33 (by decide))
  go_enter Try.func136, Try.ntmps136
  go_wp2_with fail
  refine (HR.out _).mono ?_
  rintro e w' ⟨rfl, rfl⟩
  go_wp2
  go_ret
  exact ⟨rfl, rfl⟩
set_option maxRecDepth 100000 in
set_option maxHeartbeats 2000000 in
theorem from_ref31 (s : BitVec 64 × BitVec 64) (x2 x3 : Value) (a : Option Addr) (n c : Nat) (l : List (BitVec 8)) (w : World) (h : BRow w a n c l) :
    Calls Try.prog 132 #[.agg #[.int .u64 (W64 s.1), .int .u64 (W64 s.2), x2, x3], .slice a n c] w fun e w' => ∃ a' c', e = .returned (.tuple #[.agg #[.int .u64 (W64 (bState 16 stp31 s l).1), .int .u64 (W64 (bState 16 stp31 s l).2), .int .u64 0, .int .u64 0], .slice a' (n % 16 : Nat) c']) ∧ BRow w' a' (n % 16) c' (bTail 16 l) ∧ New w w' := by
  have H := Lib.hid h
  have HL := Lib.hid h.len_eq
  clear h
  have HZ := Lib.hid (two_blocks w (.cells #[.int .u64 (W64 s.1), .int .u64 (W64 s.2), x2, x3] 59) (.cells #[.int .u64 0, .int .u64 0, .int .u64 0, .int .u64 0] 59))
  go_enter Try.func132, Try.ntmps132
  go_wp2
  go_loopw [1, 6, 7] (fun sl h1 h2 wr => ∃ (a2 : Option Addr) (n2 c2 : Nat) (l2 : List (BitVec 8)) (s2 : BitVec 64 × BitVec 64), sl = .slice a2 n2 c2 ∧ h1 = .int .u64 (W64 s2.1) ∧ h2 = .int .u64 (W64 s2.2) ∧ BRow w a2 n2 c2 l2 ∧ bState 16 stp31 s2 l2 = bState 16 stp31 s l ∧ bTail 16 l2 = bTail 16 l ∧ n2 % 16 = n % 16 ∧ wr.heap[w.heap.size + 1]? = some (.cells #[.int .u64 0, .int .u64 0, .int .u64 0, .int .u64 0] 59 (0, 0)) ∧ New w wr) (fun sl _ _ _ => lenOf31 sl)
  case atStart => exact ⟨a, n, c, l, s, rfl, rfl, rfl, H.out, rfl, rfl, rfl, HZ.out.2.1, HZ.out.2.2⟩
  case round =>
    obtain ⟨a2, n2, c2, l2, s2, rfl, rfl, rfl, hrow, hs, ht, hm, hz, hn⟩ := hrel
    have HR := Lib.hid hrow
    have HS := Lib.hid hs
    have HT := Lib.hid ht
    have HM := Lib.hid hm
    have HZZ := Lib.hid hz
    have HN := Lib.hid hn
    have hle := hrow.le
    have hlen := hrow.len_eq
    have hmost := hrow.most
    have hroom := hrow.room
    clear hrow hs ht hm hz hn
    by_cases hlt : (16 : Int) ≤ (n2 : Int)
    · obtain ⟨b, off, rfl, _⟩ := HR.out.addr (by omega)
      have hst := bState_step 16 (by decide) stp31 s2 l2 (by omega)
      have htl := bTail_step 16 (by decide) l2 (by omega)
      have HK1 := Lib.hid (num_ref (some ⟨b, off, none⟩) n2 c2 l2 0 8 wr (HR.out.stay HN.out) (by omega) (by omega))
      have HK2 := Lib.hid (num_ref (some ⟨b, off, none⟩) n2 c2 l2 8 8 wr (HR.out.stay HN.out) (by omega) (by omega))
      have hr1 : rd (l2.take 16) 0 8 = rd l2 0 8 := rd_take l2 16 0 8 (by omega)
      have hr2 : rd (l2.take 16) 8 8 = rd l2 8 8 := rd_take l2 16 8 8 (by omega)
      obtain ⟨m1, hm1⟩ : ∃ m, ((s2.1 ^^^ one31 (rd l2 0 8)).rotateLeft 27 + s2.2) * 5#64 + 1390208809#64 = m := ⟨_, rfl⟩
      obtain ⟨m2, hm2⟩ : ∃ m, ((s2.2 ^^^ two31 (rd l2 8 8)).rotateLeft 31 + m1) * 5#64 + 944331445#64 = m := ⟨_, rfl⟩
      have hstp : stp31 s2 (l2.take 16) = (m1, m2) := by
        unfold stp31 mm31a mm31b in31a in31b
        rw [hr1, hr2, ← hm2, ← hm1]
        rfl
      rw [hstp] at hst
      have HST := Lib.hid (hst.symm.trans HS.out)
      have HTL := Lib.hid (htl.symm.trans HT.out)
      have HO1 := Lib.hid (one_ref (rd l2 0 8))
      have HO2 := Lib.hid (two_ref (rd l2 8 8))
      have HQ1 := Lib.hid (rotr_n (s2.1 ^^^ one31 (rd l2 0 8)) 27 (by decide))
      have HQ2 := Lib.hid (rotr_n (s2.2 ^^^ two31 (rd l2 8 8)) 31 (by decide))
      have HM1 := Lib.hid hm1
      have HM2 := Lib.hid hm2
      obtain ⟨k1, hk1⟩ : ∃ k, rd l2 0 8 = k := ⟨_, rfl⟩
      obtain ⟨k2, hk2⟩ : ∃ k, rd l2 8 8 = k := ⟨_, rfl⟩
      rw [hk1] at HK1 HO1 HQ1 HM1
      rw [hk2] at HK2 HO2 HQ2 HM2
      generalize hq1 : (s2.1 ^^^ one31 k1).rotateLeft 27 = q1 at *
      generalize hq2 : (s2.2 ^^^ two31 k2).rotateLeft 31 = q2 at *
      generalize ho1 : one31 k1 = o1 at *
      generalize ho2 : two31 k2 = o2 at *
      clear hst htl hr1 hr2 hstp hm1 hm2 hk1 hk2 hq1 hq2 ho1 ho2
      have hmod : (n2 - 16) % 16 = n2 % 16 := by omega
      have HMD := Lib.hid (hmod.trans HM.out)
      have hi1 : (16 : Int) ≤ (c2 : Int) := by omega
      have hlc : (n2 : Int) ≤ (c2 : Int) := by omega
      clear hmod
      by_cases hcm : c2 = 16
      · obtain rfl : n2 = 16 := by omega
        subst hcm
        have HR0 := Lib.hid (row_end HR.out)
        go_wp2_with fail
        refine (HK1.out).mono ?_
        rintro e w9 ⟨rfl, rfl⟩
        go_wp2_with fail
        refine (HO1.out _).mono ?_
        rintro e w9 ⟨rfl, rfl⟩
        go_wp2_with fail
        refine (HQ1.out _).mono ?_
        rintro e w9 ⟨rfl, rfl⟩
        have hm1 := HM1.out
        go_wp2_with fail
        refine (HK2.out).mono ?_
        rintro e w9 ⟨rfl, rfl⟩
        go_wp2_with fail
        refine (HO2.out _).mono ?_
        rintro e w9 ⟨rfl, rfl⟩
        go_wp2_with fail
        refine (HQ2.out _).mono ?_
        rintro e w9 ⟨rfl, rfl⟩
        have hm2 := HM2.out
        go_wp2
        exact ⟨⟨_, 0, 0, l2.drop 16, (m1, m2), rfl, rfl, rfl, HR0.out, HST.out, HTL.out, HMD.out, HZZ.out, HN.out⟩, by simp [lenOf31] <;> omega⟩
      · have hcm2 : ¬ (c2 : Int) = 16 := by omega
        obtain ⟨sp2, hadd, hsp⟩ := row_rest HR.out (show 16 ≤ n2 by omega)
        obtain rfl : sp2 = none := by
          simp [Addr.add] at hadd
          first | exact hadd | exact hadd.symm
        have HR0 := Lib.hid hsp
        have HLT := Lib.hid hlt
        clear hsp hadd
        go_wp2_with fail
        refine (HK1.out).mono ?_
        rintro e w9 ⟨rfl, rfl⟩
        go_wp2_with fail
        refine (HO1.out _).mono ?_
        rintro e w9 ⟨rfl, rfl⟩
        go_wp2_with fail
        refine (HQ1.out _).mono ?_
        rintro e w9 ⟨rfl, rfl⟩
        have hm1 := HM1.out
        go_wp2_with fail
        refine (HK2.out).mono ?_
        rintro e w9 ⟨rfl, rfl⟩
        go_wp2_with fail
        refine (HO2.out _).mono ?_
        rintro e w9 ⟨rfl, rfl⟩
        go_wp2_with fail
        refine (HQ2.out _).mono ?_
        rintro e w9 ⟨rfl, rfl⟩
        have hm2 := HM2.out
        go_wp2
        exact ⟨⟨_, (n2 - 16), (c2 - 16), l2.drop 16, (m1, m2), rfl, rfl, rfl, HR0.out, HST.out, HTL.out, HMD.out, HZZ.out, HN.out⟩, by simp [lenOf31] <;> omega⟩
    · have hsh : l2.length < 16 := by omega
      have h1 := bState_short 16 stp31 s2 l2 hsh
      have h2 := bTail_short 16 l2 hsh
      rw [h1] at HS
      rw [h2] at HT
      have h3 : n % 16 = n2 := by have := HM.out; omega
      have H3 := Lib.hid h3
      have z0 := cell_of_row _ _ 0 _ _ _ HZZ.out
      have z1 := cell_of_row _ _ 1 _ _ _ HZZ.out
      have z2 := cell_of_row _ _ 2 _ _ _ HZZ.out
      have z3 := cell_of_row _ _ 3 _ _ _ HZZ.out
      have zf := fun i => frozen_of_row _ _ i _ _ HZZ.out
      clear h1 h2 h3 hsh
      go_wp2
      refine bodyPost_ret (by simp [results, Try.results132, go_sem, z0, z1, z2, z3]; try rfl) rfl ?_
      have hq : ∀ i, w.heap.size ≤ (⟨w.heap.size + 1, i, none⟩ : Addr).block := fun i => by show w.heap.size ≤ w.heap.size + 1; omega
      have HNF := ((((HN.out.setCell (hq 0) (.int .u64 (W64 s2.1))).setCell (hq 1) (.int .u64 (W64 s2.2))).setCell (hq 2) (.int .u64 0)).setCell (hq 3) (.int .u64 0))
      rw [H3.out, ← HS.out, ← HT.out]
      exact ⟨a2, c2, rfl, HR.out.stay HNF, HNF⟩
end Go.Proofs.Ytegibnffingciaa
