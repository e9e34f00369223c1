/- Contracts of the document's own mixers, of mix.Fmix32 and mix.Unfmix32, and of the examples of chapter 7. -/
import Derived.Test.YtjmnhooenampkaaGreatDoorMixB
namespace Go.Proofs.YtjmnhooenampkaaGreatDoor
open Go.RowKit Go.Bv
set_option linter.unusedVariables false
theorem N64_cast (k : Nat) (h : k < 18446744073709551616) : N64 (BitVec.ofNat 64 k) = k := by
  unfold N64; rw [BitVec.toNat_ofNat, Nat.mod_eq_of_lt (by omega)]
theorem N64_sum (k : Nat) (c : Int) (d : BitVec 64) (hd : d = BitVec.ofInt 64 c) (h0 : 0 ≤ c) (h : (k : Int) + c < 18446744073709551616) : N64 (BitVec.ofNat 64 k + d) = k + c.toNat := by
  rw [hd, ← BitVec.ofInt_natCast, ← BitVec.ofInt_add, show (k : Int) + c = ((k + c.toNat : Nat) : Int) by omega, BitVec.ofInt_natCast]; exact N64_cast _ (by omega)
theorem bit_toNat (z : BitVec 64) (k : Nat) : (z >>> k % 2#64).toNat = (z.getLsbD k).toNat := by
  rw [BitVec.toNat_umod, BitVec.toNat_ushiftRight, Nat.shiftRight_eq_div_pow, BitVec.getLsbD, Nat.toNat_testBit]; rfl
theorem fold_bit1 (z : BitVec 64) (c k : Nat) (h : 64 ≤ c + k) : ((z >>> k % 2#64) % 2#64).toNat = ((F c z).getLsbD k).toNat := by
  rw [BitVec.toNat_umod, bit_toNat, F, BitVec.getLsbD_xor, BitVec.getLsbD_ushiftRight, BitVec.getLsbD_of_ge z (c + k) h]
  cases z.getLsbD k <;> rfl
theorem fold_bit2 (z : BitVec 64) (c k j : Nat) (h : j = c + k) : ((z >>> k % 2#64 + z >>> j % 2#64) % 2#64).toNat = ((F c z).getLsbD k).toNat := by
  rw [BitVec.toNat_umod, BitVec.toNat_add, bit_toNat, bit_toNat, F, BitVec.getLsbD_xor, BitVec.getLsbD_ushiftRight, h]
  cases z.getLsbD k <;> cases z.getLsbD (c + k) <;> rfl
theorem fold_put (y out b : BitVec 64) (k : Nat) (hk : k < 64) (ho : out.toNat = y.toNat % 2 ^ k) (hb : (b % 2#64).toNat = (y.getLsbD k).toNat) :
    (out + (b % 2#64) <<< k).toNat = y.toNat % 2 ^ (k + 1) := by
  have h1 : (2 : Nat) ^ (k + 1) ≤ 2 ^ 64 := Nat.pow_le_pow_right (by omega) (by omega)
  have h2 := Nat.mod_lt y.toNat (Nat.two_pow_pos k)
  have h3 : (y.getLsbD k).toNat ≤ 1 := by cases y.getLsbD k <;> decide
  have h4 : (y.getLsbD k).toNat * 2 ^ k ≤ 1 * 2 ^ k := Nat.mul_le_mul_right _ h3
  have h5 : (2 : Nat) ^ (k + 1) = 2 ^ k * 2 := Nat.pow_succ 2 k
  have h6 : y.toNat / 2 ^ k % 2 = (y.getLsbD k).toNat := by rw [BitVec.getLsbD, Nat.toNat_testBit]
  rw [BitVec.toNat_add, BitVec.toNat_shiftLeft, Nat.shiftLeft_eq, hb, ho, Nat.mod_eq_of_lt (a := (y.getLsbD k).toNat * 2 ^ k) (by omega), Nat.mod_eq_of_lt (by omega), Nat.mod_pow_succ, h6, Nat.mul_comm]
set_option maxHeartbeats 1000000 in
theorem fold_ref (z n : Int) (hz : 0 ≤ z ∧ z < 18446744073709551616) (w : World) :
    Calls Tryz.prog 123 #[.int .u64 z, .int .i64 n] w fun e w' => e = .returned (.int .u64 (W64 (F (sh n) (BitVec.ofInt 64 z)))) ∧ w' = w := by
  obtain ⟨z, rfl⟩ := ex64 z hz
  rw [ofInt_W64]
  by_cases c1 : n < 1
  · have hs : (sh n : Int) = 1 := by unfold sh; omega
    go_enter Tryz.func123, Tryz.ntmps123
    go_wp2
    go_loop [5, 6, 7] (fun t i b => ∃ (k : Nat) (o : BitVec 64), k ≤ 64 ∧ i = .int .i64 k ∧ t = .int .u64 (W64 o) ∧ Hid (o.toNat = (F (sh n) z).toNat % 2 ^ k)) (fun _ i _ => 64 - (intOf i).toNat)
    case atStart => exact ⟨0, 0#64, by omega, rfl, rfl, Lib.hid (by simp [Nat.mod_one])⟩
    case round =>
      obtain ⟨k, o, hk, rfl, rfl, H⟩ := hrel
      by_cases hlt : (k : Int) < 64
      · have hN : N64 (BitVec.ofNat 64 k) = k := N64_cast k (by omega)
        by_cases hlt2 : (k : Int) + 1 < 64
        · have hM : N64 (BitVec.ofNat 64 k + 1#64) = k + sh n := by
            rw [N64_sum k 1 1#64 rfl (by omega) (by omega)]; omega
          have hb := fold_put (F (sh n) z) o (z >>> k % 2#64 + z >>> (k + sh n) % 2#64) k (by omega) H.out (fold_bit2 z (sh n) k (k + sh n) (by omega))
          have HM := Lib.hid hM
          have HN := Lib.hid hN
          have HB := Lib.hid hb
          clear hM hN hb
          go_wp2
          exact ⟨⟨k + 1, _, by omega, by go_num, rfl, Lib.hid (by rw [HM.out, HN.out]; exact HB.out)⟩, by simp [intOf]; omega⟩
        · have hb := fold_put (F (sh n) z) o (z >>> k % 2#64) k (by omega) H.out (fold_bit1 z (sh n) k (by omega))
          have HN := Lib.hid hN
          have HB := Lib.hid hb
          clear hN hb
          go_wp2
          exact ⟨⟨k + 1, _, by omega, by go_num, rfl, Lib.hid (by rw [HN.out]; exact HB.out)⟩, by simp [intOf]; omega⟩
      · go_wp2
        go_ret
        refine ⟨ret64 (BitVec.eq_of_toNat_eq ?_), rfl⟩
        obtain rfl : k = 64 := by omega
        rw [H.out, Nat.mod_eq_of_lt (F (sh n) z).isLt]
  by_cases c2 : 63 < n
  · have hs : (sh n : Int) = 63 := by unfold sh; omega
    go_enter Tryz.func123, Tryz.ntmps123
    go_wp2
    go_loop [5, 6, 7] (fun t i b => ∃ (k : Nat) (o : BitVec 64), k ≤ 64 ∧ i = .int .i64 k ∧ t = .int .u64 (W64 o) ∧ Hid (o.toNat = (F (sh n) z).toNat % 2 ^ k)) (fun _ i _ => 64 - (intOf i).toNat)
    case atStart => exact ⟨0, 0#64, by omega, rfl, rfl, Lib.hid (by simp [Nat.mod_one])⟩
    case round =>
      obtain ⟨k, o, hk, rfl, rfl, H⟩ := hrel
      by_cases hlt : (k : Int) < 64
      · have hN : N64 (BitVec.ofNat 64 k) = k := N64_cast k (by omega)
        by_cases hlt2 : (k : Int) + 63 < 64
        · have hM : N64 (BitVec.ofNat 64 k + 63#64) = k + sh n := by
            rw [N64_sum k 63 63#64 rfl (by omega) (by omega)]; omega
          have hb := fold_put (F (sh n) z) o (z >>> k % 2#64 + z >>> (k + sh n) % 2#64) k (by omega) H.out (fold_bit2 z (sh n) k (k + sh n) (by omega))
          have HM := Lib.hid hM
          have HN := Lib.hid hN
          have HB := Lib.hid hb
          clear hM hN hb
          go_wp2
          exact ⟨⟨k + 1, _, by omega, by go_num, rfl, Lib.hid (by rw [HM.out, HN.out]; exact HB.out)⟩, by simp [intOf]; omega⟩
        · have hb := fold_put (F (sh n) z) o (z >>> k % 2#64) k (by omega) H.out (fold_bit1 z (sh n) k (by omega))
          have HN := Lib.hid hN
          have HB := Lib.hid hb
          clear hN hb
          go_wp2
          exact ⟨⟨k + 1, _, by omega, by go_num, rfl, Lib.hid (by rw [HN.out]; exact HB.out)⟩, by simp [intOf]; omega⟩
      · go_wp2
        go_ret
        refine ⟨ret64 (BitVec.eq_of_toNat_eq ?_), rfl⟩
        obtain rfl : k = 64 := by omega
        rw [H.out, Nat.mod_eq_of_lt (F (sh n) z).isLt]
  · have hs : (sh n : Int) = n := by unfold sh; omega
    have hs2 := Lib.hid hs
    clear hs
    go_enter Tryz.func123, Tryz.ntmps123
    go_wp2
    go_loop [5, 6, 7] (fun t i b => ∃ (k : Nat) (o : BitVec 64), k ≤ 64 ∧ i = .int .i64 k ∧ t = .int .u64 (W64 o) ∧ Hid (o.toNat = (F (sh n) z).toNat % 2 ^ k)) (fun _ i _ => 64 - (intOf i).toNat)
    case atStart => exact ⟨0, 0#64, by omega, rfl, rfl, Lib.hid (by simp [Nat.mod_one])⟩
    case round =>
      obtain ⟨k, o, hk, rfl, rfl, H⟩ := hrel
      by_cases hlt : (k : Int) < 64
      · have hN : N64 (BitVec.ofNat 64 k) = k := N64_cast k (by omega)
        by_cases hlt2 : (k : Int) + n < 64
        · have hM : N64 (BitVec.ofNat 64 k + BitVec.ofInt 64 n) = k + sh n := by
            have hs := hs2.out; rw [N64_sum k n _ rfl (by omega) (by omega)]; omega
          have hb := fold_put (F (sh n) z) o (z >>> k % 2#64 + z >>> (k + sh n) % 2#64) k (by omega) H.out (fold_bit2 z (sh n) k (k + sh n) (by omega))
          have HM := Lib.hid hM
          have HN := Lib.hid hN
          have HB := Lib.hid hb
          clear hM hN hb
          go_wp2
          exact ⟨⟨k + 1, _, by omega, by go_num, rfl, Lib.hid (by rw [HM.out, HN.out]; exact HB.out)⟩, by simp [intOf]; omega⟩
        · have hb := fold_put (F (sh n) z) o (z >>> k % 2#64) k (by omega) H.out (fold_bit1 z (sh n) k (by have hs := hs2.out; omega))
          have HN := Lib.hid hN
          have HB := Lib.hid hb
          clear hN hb
          go_wp2
          exact ⟨⟨k + 1, _, by omega, by go_num, rfl, Lib.hid (by rw [HN.out]; exact HB.out)⟩, by simp [intOf]; omega⟩
      · go_wp2
        go_ret
        refine ⟨ret64 (BitVec.eq_of_toNat_eq ?_), rfl⟩
        obtain rfl : k = 64 := by omega
        rw [H.out, Nat.mod_eq_of_lt (F (sh n) z).isLt]
theorem down_fold (k : Nat) (h : BitVec 32) : (F k (h.setWidth 64)).setWidth 32 = F k h := by
  show (F k (up h)).setWidth 32 = _
  rw [F_up, up_low]
set_option maxHeartbeats 400000 in
theorem fmix32_ref (z : Int) (hz : 0 ≤ z ∧ z < 4294967296) (w : World) :
    Calls Tryz.prog 67 #[.int .u32 z] w fun e w' => e = .returned (.int .u32 (W32 (fmix32 (BitVec.ofInt 32 z)))) ∧ w' = w := by
  obtain ⟨z, rfl⟩ := ex32 z hz
  rw [ofInt_W32]
  go_enter Tryz.func67, Tryz.ntmps67
  go_wp2_with (go_at_call 123; refine (fold_ref _ _ (b64 _) _).mono ?_; rintro e w' ⟨rfl, rfl⟩)
  go_ret
  refine ⟨ret32 ?_, rfl⟩
  rw [show sh 16 = 16 from rfl, show sh 13 = 13 from rfl, down_fold, down_fold, down_fold]; rfl
set_option maxHeartbeats 400000 in
theorem fmix32_any (z : Int) (hz : 0 ≤ z ∧ z < 4294967296) (W w : World) (hg : New W w) :
    Calls Tryz.prog 58 #[.int .u32 z] w fun e w' => e = .returned (.int .u32 (W32 (fmix32 (BitVec.ofInt 32 z)))) ∧ New W w' := by
  obtain ⟨z, rfl⟩ := ex32 z hz
  rw [ofInt_W32]
  go_enter Tryz.func58, Tryz.ntmps58
  go_wp2_with fail
  refine (run_any _ _ _ _ _ _ _ _ _ _ fmix321 fmix322 fmix323 fmix324 fmix325 (fun _ _ => by go_simp) (fun _ _ => by go_simp) (fun _ _ => by go_simp) (fun _ _ => by go_simp) (fun _ _ => by go_simp) _ (b64 _) W _ hg).mono ?_
  rintro e w' ⟨rfl, hg⟩
  go_wp2
  go_ret
  refine ⟨ret32 ?_, hg⟩
  simp only [chain, ofInt_W64]
  show (mid32 (up z)).setWidth 32 = _
  rw [mid32_up, up_low]
end Go.Proofs.YtjmnhooenampkaaGreatDoor
