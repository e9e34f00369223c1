/- Layer 1: the document's number of a text. -/
import Derived.Test.YtgekdcedijbmaaaDoorTxtF
import Derived.Test.YtgekdcedijbmaaaDoorTxtD
namespace Go.Bv
open Go Go.RowKit
theorem lenN_over {A : Nat} : ∀ n, A < 2 ^ n → ∀ m, m ≤ n → (lenN A n ≤ m ↔ A < 2 ^ m)
  | 0, h, m, hm => by
    obtain rfl : m = 0 := by omega
    exact ⟨fun _ => h, fun _ => Nat.le_refl _⟩
  | n + 1, h, m, hm => by
    show (if A / 2 ^ n % 2 = 1 then n + 1 else lenN A n) ≤ m ↔ _
    have e2 : 2 ^ (n + 1) = 2 ^ n * 2 := Nat.pow_succ _ _
    by_cases h1 : A / 2 ^ n % 2 = 1
    · rw [if_pos h1]
      have h3 : 2 ^ n ≤ A := by
        rcases Nat.lt_or_ge A (2 ^ n) with h4 | h4
        · rw [Nat.div_eq_of_lt h4] at h1; cases h1
        · exact h4
      refine ⟨fun h5 => ?_, fun h5 => ?_⟩
      · obtain rfl : m = n + 1 := by omega
        exact h
      · rcases Nat.lt_or_ge n m with h6 | h6
        · exact h6
        · have := Nat.pow_le_pow_right (show 0 < 2 by omega) h6
          omega
    · rw [if_neg h1]
      have h3 : A < 2 ^ n := by
        rcases Nat.lt_or_ge A (2 ^ n) with h4 | h4
        · exact h4
        · exfalso
          have h5 : A / 2 ^ n = 1 := Nat.div_eq_of_lt_le (by omega) (by omega)
          rw [h5] at h1
          exact h1 rfl
      rcases Nat.lt_or_ge n m with h6 | h6
      · obtain rfl : m = n + 1 := by omega
        exact ⟨fun _ => h, fun _ => Nat.le_trans (lenN_le A n) (Nat.le_succ n)⟩
      · exact lenN_over n h3 m h6
theorem dig_word2 (b : UInt8) (h : 48 ≤ b.toNat) : (BitVec.ofNat 64 b.toNat - 48#64).toNat = b.toNat - 48 := by
  have h2 : b.toNat < 256 := b.toBitVec.isLt
  rw [BitVec.toNat_sub, BitVec.toNat_ofNat, BitVec.toNat_ofNat]
  omega
set_option exponentiation.threshold 400 in
theorem room_300 {A d : Nat} (h : A < 2 ^ 256) (hd : d < 10) : A * 10 < 2 ^ 300 ∧ A * 10 + d < 2 ^ 300 := by
  have h1 : (2 : Nat) ^ 300 = 2 ^ 256 * 2 ^ 44 := Nat.pow_add 2 256 44
  have h2 : (2 : Nat) ^ 44 = 17592186044416 := by decide
  rw [h1, h2]
  generalize 2 ^ 256 = K at *
  omega
set_option exponentiation.threshold 400 in
theorem below_300 {A : Nat} (h : A < 2 ^ 256) : A < 2 ^ 300 := Nat.lt_of_lt_of_le h (Nat.pow_le_pow_right (Nat.succ_pos 1) (by decide : 256 ≤ 300))
theorem four_of (A : Nat) (h : A < 2 ^ 256) : four (BitVec.ofNat 64 A) (BitVec.ofNat 64 (A / 2 ^ 64)) (BitVec.ofNat 64 (A / 2 ^ 128)) (BitVec.ofNat 64 (A / 2 ^ 192)) = A := by
  unfold four
  rw [BitVec.toNat_ofNat, BitVec.toNat_ofNat, BitVec.toNat_ofNat, BitVec.toNat_ofNat]
  rw [show (2 : Nat) ^ 128 = 2 ^ 64 * 2 ^ 64 by decide, show (2 : Nat) ^ 192 = 2 ^ 64 * 2 ^ 64 * 2 ^ 64 by decide, ← Nat.div_div_eq_div_mul, ← Nat.div_div_eq_div_mul, ← Nat.div_div_eq_div_mul]
  have h1 : (2 : Nat) ^ 256 = 2 ^ 64 * (2 ^ 64 * (2 ^ 64 * 2 ^ 64)) := by decide
  rw [h1] at h
  rw [show (2 : Nat) ^ 64 = 18446744073709551616 by decide] at *
  omega
end Go.Bv
namespace Go.Proofs.YtgekdcedijbmaaaDoor
open Go.RowKit Go.Bv
set_option linter.unusedVariables false
set_option maxRecDepth 100000
set_option maxHeartbeats 8000000
theorem rvalue (s : ByteArray) (h0 : 0 < s.size) (hs : s.size ≤ 9223372036854775807) (h : plD s.data.toList = true) (w : World) : Calls Tryd.prog 10 #[.string s] w fun e w' => (∃ n0 n1 n2 n3 : BitVec 64, e = .returned (.tuple #[.agg #[.int .u64 (W64 n0), .int .u64 (W64 n1), .int .u64 (W64 n2), .int .u64 (W64 n3)], .bool (decide (rdE s = 0))]) ∧ four n0 n1 n2 n3 = rdV s) ∧ New w w' := by
  have HO0 := Lib.hid (fun w => of_own 0#64 300 300 (by omega) rfl w)
  rw [show W64 0#64 = 0 from by decide, show (0#64 : BitVec 64).toNat = 0 from rfl] at HO0
  have HO4 := Lib.hid (fun w => of_own 10#64 4 4 (by omega) rfl w)
  rw [show W64 10#64 = 10 from by decide, show (10#64 : BitVec 64).toNat = 10 from rfl] at HO4
  have HPL := Lib.hid h
  have H0 := Lib.hid h0
  have HB0 := Lib.hid (heap_alloc_new w (.cells #[.int .u64 0, .int .u64 0, .int .u64 0, .int .u64 0] 24))
  have HSZ : Hid (w.heap.size < (w.alloc (.cells #[.int .u64 0, .int .u64 0, .int .u64 0, .int .u64 0] 24)).heap.size) := Lib.hid (lt_of_block HB0.out)
  have HNA : Hid (New w (w.alloc (.cells #[.int .u64 0, .int .u64 0, .int .u64 0, .int .u64 0] 24))) := Lib.hid ((New.refl w).alloc _)
  clear h h0
  go_enter Tryd.func10, Tryd.ntmps10
  go_wp2_with fail
  refine (HO0.out _).mono ?_
  rintro e w1 ⟨v, rfl, hv, hn1⟩
  obtain ⟨ra0, ca0, rfl, hb0⟩ := own_bits hv (by omega)
  have HR0 := Lib.hid hb0
  have HN1 := Lib.hid hn1
  clear hv hb0 hn1 HO0
  go_wp2_with fail
  go_loopw [4, 5] (fun r c wr => ∃ (k : Nat) (ra : Option Addr) (ca : Nat), k ≤ s.size ∧ c = .int .i64 (k : Int) ∧ r = .slice ra 300 ca ∧ Hid (vD (s.data.toList.take k) < 2 ^ 256) ∧ Hid (ZRow wr ra 300 ca (bitsOf (vD (s.data.toList.take k)) 300)) ∧ Hid (New (w.alloc (.cells #[.int .u64 0, .int .u64 0, .int .u64 0, .int .u64 0] 24)) wr)) (fun _ c _ => s.size - (intOf c).toNat)
  case atStart => exact ⟨0, _, _, Nat.zero_le _, rfl, rfl, Lib.hid (by show (0 : Nat) < _; decide), HR0, HN1⟩
  case round =>
    obtain ⟨k, ra, ca, hk, rfl, rfl, HV, HR, HN⟩ := hrel
    clear HR0 HN1
    by_cases hlt : (k : Int) < (s.size : Int)
    · have hin : k < s.size := by omega
      obtain ⟨d48, d57⟩ := rd_low (rd_dig HPL.out k hin)
      have HTK := Lib.hid (rd_take s k hin)
      obtain ⟨c0, hc0⟩ : ∃ c0 : BitVec 64, c0 = BitVec.ofNat 64 s[k].toNat - 48#64 := ⟨_, rfl⟩
      have hc0n : c0.toNat = s[k].toNat - 48 := by rw [hc0]; exact dig_word2 _ d48
      have hc10 : c0.toNat < 10 := by omega
      rw [← hc0n] at HTK
      have HO6 := Lib.hid (fun w => of_own c0 64 64 (by omega) rfl w)
      have HC0 := Lib.hid hc0
      have hwr : wrap64 ((k : Int) + 1) = (k : Int) + 1 := by unfold wrap64; omega
      have HKS := Lib.hid hin
      generalize hA : vD (s.data.toList.take k) = A at *
      have HRM := Lib.hid (room_300 HV.out hc10)
      have HCS := Lib.hid c0.isLt
      clear hc0n hc10 d48 d57 hk
      go_wp2_with fail
      refine (HO4.out _).mono ?_
      rintro e w2 ⟨v, rfl, hv, hn2⟩
      obtain ⟨rb, cb, rfl, hb⟩ := own_bits hv (by omega)
      have HMU := Lib.hid (bmul_own A 10 300 4 ca cb ra rb 300 300 rfl (by omega) (by omega) w2 (HR.out.stay hn2) (below_300 HV.out) hb (by decide))
      have HN2 := Lib.hid (HN.out.trans hn2)
      clear hv hb hn2
      go_wp2_with fail
      refine HMU.out.mono ?_
      rintro e w3 ⟨v, rfl, hv, hn3⟩
      obtain ⟨rm, cm, rfl, hm⟩ := own_bits hv (by omega)
      have HM := Lib.hid hm
      have HN3 := Lib.hid (HN2.out.trans hn3)
      clear hv hm hn3 HMU HN2
      go_wp2_with fail
      rw [← hc0]
      refine (HO6.out _).mono ?_
      rintro e w4 ⟨v, rfl, hv, hn4⟩
      obtain ⟨rd, cd, rfl, hd⟩ := own_bits hv (by omega)
      have HAD := Lib.hid (badd_own (A * 10) c0.toNat 300 64 cm cd rm rd 300 300 rfl (by omega) w4 (HM.out.stay hn4) HRM.out.1 hd HCS.out)
      have HN4 := Lib.hid (HN3.out.trans hn4)
      clear hv hd hn4 HN3 HM
      go_wp2_with fail
      refine HAD.out.mono ?_
      rintro e w5 ⟨v, rfl, hv, hn5⟩
      obtain ⟨rs, cs, rfl, hsum⟩ := own_bits hv (by omega)
      have HS := Lib.hid hsum
      have HN5 := Lib.hid (HN4.out.trans hn5)
      have HLE := Lib.hid (blen_any (A * 10 + c0.toNat) 300 cs rs w5 hsum)
      have hov := lenN_over 300 HRM.out.2 256 (by omega)
      rw [← HTK.out] at HLE HS hov
      clear hv hsum hn5 HN4 HAD
      by_cases hbig : vD (s.data.toList.take (k + 1)) < 2 ^ 256
      · have hg := hov.2 hbig
        have hgd : decide ((256 : Int) < (lenN (vD (s.data.toList.take (k + 1))) 300 : Int)) = false := decide_eq_false (by omega)
        have HB2 := Lib.hid hbig
        clear hov hbig hg
        go_wp2_with fail
        refine HLE.out.mono ?_
        rintro e w6 ⟨rfl, rfl⟩
        go_wp2
        exact ⟨⟨k + 1, rs, cs, HKS.out, by rw [Int.natCast_add]; rfl, rfl, HB2, HS, HN5⟩, by have := HKS.out; simp [intOf]; omega⟩
      · have hg : ¬ lenN (vD (s.data.toList.take (k + 1))) 300 ≤ 256 := fun e => hbig (hov.1 e)
        have hgd : decide ((256 : Int) < (lenN (vD (s.data.toList.take (k + 1))) 300 : Int)) = true := decide_eq_true (by omega)
        have hbig2 : 2 ^ 256 ≤ vD s.data.toList := Nat.le_trans (Nat.not_lt.1 hbig) (vD_mono s.data.toList (k + 1))
        have HE : Hid (rdE s = 9) := Lib.hid (by unfold rdE; rw [if_neg (by have := H0.out; omega), if_neg (by rw [HPL.out]; decide), if_pos hbig2])
        have HVZ : Hid (rdV s = 0) := Lib.hid (by unfold rdV; rw [HE.out]; rfl)
        have HZ9 := Lib.hid ((HN5.out.block _ HSZ.out).trans HB0.out)
        have z0 := cell_of_row _ _ 0 _ _ _ HZ9.out
        have z1 := cell_of_row _ _ 1 _ _ _ HZ9.out
        have z2 := cell_of_row _ _ 2 _ _ _ HZ9.out
        have z3 := cell_of_row _ _ 3 _ _ _ HZ9.out
        have zf := fun j => frozen_of_row _ _ j _ _ HZ9.out
        have HF4 := Lib.hid (put4_factsT (.int .u64 0) (.int .u64 0) (.int .u64 0) (.int .u64 0) HZ9.out)
        clear hov hbig hg hbig2
        go_wp2_with fail
        refine HLE.out.mono ?_
        rintro e w6 ⟨rfl, rfl⟩
        go_wp2_with fail
        refine bodyPost_ret (by simp [results, Tryd.results10, go_sem, z0, z1, z2, z3]; try rfl) rfl ?_
        rw [HE.out, HVZ.out]
        exact ⟨⟨0#64, 0#64, 0#64, 0#64, rfl, rfl⟩, HF4.out w (HNA.out.trans HN5.out) (Nat.le_refl _)⟩
    · obtain rfl : k = s.size := by omega
      rw [rd_all] at HV HR
      have hsm : ¬ 2 ^ 256 ≤ vD s.data.toList := Nat.not_le.2 HV.out
      have HE : Hid (rdE s = 0) := Lib.hid (by unfold rdE; rw [if_neg (by have := H0.out; omega), if_neg (by rw [HPL.out]; decide), if_neg hsm])
      have HVV : Hid (vD s.data.toList = rdV s) := Lib.hid (by unfold rdV; rw [if_pos HE.out])
      have HT := Lib.hid (to4_any (vD s.data.toList) 300 ca ra wr HR.out (below_300 HV.out))
      have HFO := Lib.hid (four_of _ HV.out)
      clear hsm hlt hk
      generalize vD s.data.toList = A at *
      generalize BitVec.ofNat 64 A = m0 at *
      generalize BitVec.ofNat 64 (A / 2 ^ 64) = m1 at *
      generalize BitVec.ofNat 64 (A / 2 ^ 128) = m2 at *
      generalize BitVec.ofNat 64 (A / 2 ^ 192) = m3 at *
      go_wp2_with fail
      refine HT.out.mono ?_
      rintro e w2 ⟨rfl, hn2⟩
      have HN2 := Lib.hid (HN.out.trans hn2)
      have HZ9 := Lib.hid ((HN2.out.block _ HSZ.out).trans HB0.out)
      have z0 := cell_of_row _ _ 0 _ _ _ HZ9.out
      have z1 := cell_of_row _ _ 1 _ _ _ HZ9.out
      have z2 := cell_of_row _ _ 2 _ _ _ HZ9.out
      have z3 := cell_of_row _ _ 3 _ _ _ HZ9.out
      have zf := fun j => frozen_of_row _ _ j _ _ HZ9.out
      have HF4 := Lib.hid (put4_factsT (.int .u64 (W64 m0)) (.int .u64 (W64 m1)) (.int .u64 (W64 m2)) (.int .u64 (W64 m3)) HZ9.out)
      clear hn2
      go_wp2_with fail
      refine bodyPost_ret (by simp [results, Tryd.results10, go_sem, z0, z1, z2, z3]; try rfl) rfl ?_
      rw [HE.out]
      exact ⟨⟨m0, m1, m2, m3, rfl, HFO.out.trans HVV.out⟩, HF4.out w (HNA.out.trans HN2.out) (Nat.le_refl _)⟩
end Go.Proofs.YtgekdcedijbmaaaDoor
