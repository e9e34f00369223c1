/- Layer 33: rest. -/
import Derived.Test.YtfeeecmcaakpkaaM33A
import Derived.Defers
import Derived.Recover
import Derived.Laws.Pointers
import Derived.Handy
import Derived.Laws.EntriesVeiled
namespace Go.Proofs.Ytfeeecmcaakpkaa
open Go.RowKit Go.Bv
set_option linter.unusedVariables false
theorem rd4_low (l : List (BitVec 8)) : ((rd l 0 4).setWidth 32).setWidth 64 = rd l 0 4 := by
  apply BitVec.eq_of_toNat_eq
  have h := num_lt (fun i => l.getD (0 + i) 0) 4 (by omega)
  rw [BitVec.toNat_setWidth, BitVec.toNat_setWidth]
  unfold rd
  generalize (num (fun i => l.getD (0 + i) 0) 4).toNat = y at *
  omega
set_option maxRecDepth 100000 in
set_option maxHeartbeats 2000000 in
theorem rest_33 (h0 : BitVec 64) (a : Option Addr) (n c : Nat) (l : List (BitVec 8)) (w : World) (h : BRow w a n c l) :
    Calls Try.prog 82 #[.int .u64 (W64 h0), .slice a n c] w fun e w' => e = .returned (.int .u64 (W64 (rest33 h0 l))) ∧ w' = w := by
  have H := Lib.hid h
  clear h
  go_enter Try.func82, Try.ntmps82
  go_wp2_with fail
  go_step3
  go_wp2_with fail
  go_step3
  go_wp2_with fail
  go_loop [0, 1] (fun hv sl => ∃ (a2 : Option Addr) (n2 c2 : Nat) (l2 : List (BitVec 8)) (cur : BitVec 64), sl = .slice a2 n2 c2 ∧ hv = .int .u64 (W64 cur) ∧ BRow w a2 n2 c2 l2 ∧ rest33 cur l2 = rest33 h0 l) (fun _ sl => lenOf33 sl)
  case atStart => exact ⟨a, n, c, l, h0, rfl, rfl, H.out, rfl⟩
  case round =>
    obtain ⟨a2, n2, c2, l2, cur, rfl, rfl, hrow, hs⟩ := hrel
    have HRW := Lib.hid hrow
    have HS := Lib.hid hs
    have hle := hrow.le
    have hlen := hrow.len_eq
    have hmost := hrow.most
    have hroom := hrow.room
    clear hrow hs
    by_cases hlt : (0 : Int) < (n2 : Int)
    · obtain ⟨b, off, rfl, hcell⟩ := HRW.out.addr (by omega)
      by_cases h8 : 8 ≤ n2
      · have hst := (rest33_8 cur l2 (by omega)).symm.trans HS.out
        have HL := Lib.hid (le64_yes b off n2 c2 0 l2 w HRW.out (by omega))
        unfold w8_33 at hst
        obtain ⟨kk, hk⟩ : ∃ z, rd l2 0 8 = z := ⟨_, rfl⟩
        rw [hk] at HL hst
        have HAL := Lib.hid (alone_33 kk)
        obtain ⟨aa, ha⟩ : ∃ z, rnd33 0#64 kk = z := ⟨_, rfl⟩
        rw [ha] at HAL hst
        have HQ := Lib.hid (rot64_n (cur ^^^ aa) 27 (by decide))
        obtain ⟨q, hq⟩ : ∃ z, (cur ^^^ aa).rotateLeft 27 = z := ⟨_, rfl⟩
        rw [hq] at HQ hst
        obtain ⟨m1, hm⟩ : ∃ z, q * 11400714785074694791#64 + 9650029242287828579#64 = z := ⟨_, rfl⟩
        rw [hm] at hst
        have HM1 := Lib.hid hm
        have HST := Lib.hid hst
        clear hk ha hq hm hst hcell
        have hi1 : (8 : Int) ≤ (c2 : Int) := by omega
        have hlc : (n2 : Int) ≤ (c2 : Int) := by omega
        by_cases hcm : c2 = 8
        · obtain rfl : n2 = 8 := by omega
          subst hcm
          have HR0 := Lib.hid (row_end HRW.out)
          go_wp2_with fail
          refine (HL.out).mono ?_
          rintro e w8 ⟨rfl, rfl⟩
          go_wp2_with fail
          refine (HAL.out _).mono ?_
          rintro e w8 ⟨rfl, rfl⟩
          go_wp2_with fail
          refine (HQ.out _).mono ?_
          rintro e w8 ⟨rfl, rfl⟩
          have hm1 := HM1.out
          go_wp2
          exact ⟨⟨_, 0, 0, l2.drop 8, m1, rfl, rfl, HR0.out, HST.out⟩, by simp [lenOf33] <;> omega⟩
        · have hcm2 : ¬ (c2 : Int) = 8 := by omega
          obtain ⟨sp2, hadd, hsp⟩ := row_rest HRW.out (show 8 ≤ n2 by omega)
          obtain rfl : sp2 = none := by
            simp [Addr.add] at hadd
            first | exact hadd | exact hadd.symm
          have HR0 := Lib.hid hsp
          clear hsp hadd
          go_wp2_with fail
          refine (HL.out).mono ?_
          rintro e w8 ⟨rfl, rfl⟩
          go_wp2_with fail
          refine (HAL.out _).mono ?_
          rintro e w8 ⟨rfl, rfl⟩
          go_wp2_with fail
          refine (HQ.out _).mono ?_
          rintro e w8 ⟨rfl, rfl⟩
          have hm1 := HM1.out
          go_wp2
          exact ⟨⟨_, (n2 - 8), (c2 - 8), l2.drop 8, m1, rfl, rfl, HR0.out, HST.out⟩, by simp [lenOf33] <;> omega⟩
      · have HL := Lib.hid (le64_no (some ⟨b, off, none⟩) n2 c2 0 w hmost (by omega) (by omega))
        by_cases h4 : 4 ≤ n2
        · have hst := (rest33_4 cur l2 (by omega) (by omega)).symm.trans HS.out
          have HL4 := Lib.hid (le32_yes b off n2 c2 0 l2 w HRW.out (by omega))
          have hz : ((rd l2 0 4).setWidth 32).setWidth 64 = rd l2 0 4 := rd4_low l2
          unfold w4_33 at hst
          obtain ⟨kk, hk⟩ : ∃ z, rd l2 0 4 = z := ⟨_, rfl⟩
          rw [hk] at HL4 hst hz
          have HQ := Lib.hid (rot64_n (cur ^^^ kk * 11400714785074694791#64) 23 (by decide))
          obtain ⟨q, hq⟩ : ∃ z, (cur ^^^ kk * 11400714785074694791#64).rotateLeft 23 = z := ⟨_, rfl⟩
          rw [hq] at HQ hst
          obtain ⟨m1, hm⟩ : ∃ z, q * 14029467366897019727#64 + 1609587929392839161#64 = z := ⟨_, rfl⟩
          rw [hm] at hst
          have HM1 := Lib.hid hm
          have HST := Lib.hid hst
          clear hk hq hm hst hcell
          have hi1 : (4 : Int) ≤ (c2 : Int) := by omega
          have hlc : (n2 : Int) ≤ (c2 : Int) := by omega
          by_cases hcm : c2 = 4
          · obtain rfl : n2 = 4 := by omega
            subst hcm
            have HR0 := Lib.hid (row_end HRW.out)
            go_wp2_with fail
            refine (HL.out).mono ?_
            rintro e w8 ⟨rfl, rfl⟩
            go_wp2_with fail
            refine (HL4.out).mono ?_
            rintro e w8 ⟨rfl, rfl⟩
            go_wp2_with fail
            refine (HQ.out _).mono ?_
            rintro e w8 ⟨rfl, rfl⟩
            have hm1 := HM1.out
            go_wp2
            exact ⟨⟨_, 0, 0, l2.drop 4, m1, rfl, rfl, HR0.out, HST.out⟩, by simp [lenOf33] <;> omega⟩
          · have hcm2 : ¬ (c2 : Int) = 4 := by omega
            obtain ⟨sp2, hadd, hsp⟩ := row_rest HRW.out (show 4 ≤ n2 by omega)
            obtain rfl : sp2 = none := by
              simp [Addr.add] at hadd
              first | exact hadd | exact hadd.symm
            have HR0 := Lib.hid hsp
            clear hsp hadd
            go_wp2_with fail
            refine (HL.out).mono ?_
            rintro e w8 ⟨rfl, rfl⟩
            go_wp2_with fail
            refine (HL4.out).mono ?_
            rintro e w8 ⟨rfl, rfl⟩
            go_wp2_with fail
            refine (HQ.out _).mono ?_
            rintro e w8 ⟨rfl, rfl⟩
            have hm1 := HM1.out
            go_wp2
            exact ⟨⟨_, (n2 - 4), (c2 - 4), l2.drop 4, m1, rfl, rfl, HR0.out, HST.out⟩, by simp [lenOf33] <;> omega⟩
        · have hst := (rest33_1 cur l2 (by omega) (by omega)).symm.trans HS.out
          have HL4 := Lib.hid (le32_no (some ⟨b, off, none⟩) n2 c2 0 w hmost (by omega) (by omega))
          have hck := hcell 0 (by omega)
          rw [Nat.add_zero] at hck
          unfold byt33 at hst
          obtain ⟨bb, hk⟩ : ∃ z, l2.getD 0 0 = z := ⟨_, rfl⟩
          rw [hk] at hck hst
          have HQ := Lib.hid (rot64_n (cur ^^^ bb.setWidth 64 * 2870177450012600261#64) 11 (by decide))
          obtain ⟨q, hq⟩ : ∃ z, (cur ^^^ bb.setWidth 64 * 2870177450012600261#64).rotateLeft 11 = z := ⟨_, rfl⟩
          rw [hq] at HQ hst
          obtain ⟨m1, hm⟩ : ∃ z, q * 11400714785074694791#64 = z := ⟨_, rfl⟩
          rw [hm] at hst
          have HM1 := Lib.hid hm
          have HST := Lib.hid hst
          clear hk hq hm hst hcell
          have hi1 : (1 : Int) ≤ (c2 : Int) := by omega
          have hlc : (n2 : Int) ≤ (c2 : Int) := by omega
          by_cases hcm : c2 = 1
          · obtain rfl : n2 = 1 := by omega
            subst hcm
            have HR0 := Lib.hid (row_end HRW.out)
            go_wp2_with fail
            refine (HL.out).mono ?_
            rintro e w8 ⟨rfl, rfl⟩
            go_wp2_with fail
            refine (HL4.out).mono ?_
            rintro e w8 ⟨rfl, rfl⟩
            go_wp2_with fail
            refine (HQ.out _).mono ?_
            rintro e w8 ⟨rfl, rfl⟩
            have hm1 := HM1.out
            go_wp2
            exact ⟨⟨_, 0, 0, l2.drop 1, m1, rfl, rfl, HR0.out, HST.out⟩, by simp [lenOf33] <;> omega⟩
          · have hcm2 : ¬ (c2 : Int) = 1 := by omega
            obtain ⟨sp2, hadd, hsp⟩ := row_rest HRW.out (show 1 ≤ n2 by omega)
            obtain rfl : sp2 = none := by
              simp [Addr.add] at hadd
              first | exact hadd | exact hadd.symm
            have HR0 := Lib.hid hsp
            clear hsp hadd
            go_wp2_with fail
            refine (HL.out).mono ?_
            rintro e w8 ⟨rfl, rfl⟩
            go_wp2_with fail
            refine (HL4.out).mono ?_
            rintro e w8 ⟨rfl, rfl⟩
            go_wp2_with fail
            refine (HQ.out _).mono ?_
            rintro e w8 ⟨rfl, rfl⟩
            have hm1 := HM1.out
            go_wp2
            exact ⟨⟨_, (n2 - 1), (c2 - 1), l2.drop 1, m1, rfl, rfl, HR0.out, HST.out⟩, by simp [lenOf33] <;> omega⟩
    · obtain rfl : n2 = 0 := by omega
      have hl0 : l2 = [] := List.eq_nil_of_length_eq_zero hlen
      subst hl0
      have hfin := HS.out
      rw [rest33_b cur [] (by simp)] at hfin
      have HFIN := Lib.hid (show cur = rest33 h0 l from hfin)
      clear hfin
      have HF2 := HFIN.out
      go_wp2_with fail
      first | go_ret | (rw [Exit.noGoto_ret]; go_ret)
      first | exact ⟨rfl, rfl⟩ | exact ⟨by rw [HF2], rfl⟩
end Go.Proofs.Ytfeeecmcaakpkaa
