/- Layer 32: rest. -/
import Derived.Test.YtfeeecmcaakpkaaM32A
import Derived.Defers
import Derived.Recover
import Derived.Laws.Pointers
import Derived.Handy
import Derived.Laws.EntriesVeiled
namespace Go.Proofs.Ytfeeecmcaakpkaa
open Go.RowKit Go.Bv
set_option linter.unusedVariables false
theorem rd_sub32 (l : List (BitVec 8)) (m : Nat) : rd ((l.drop m).take 4) 0 4 = rd l m 4 := by
  unfold rd
  have := num_sub l m 4
  simpa using this
set_option maxRecDepth 100000 in
set_option maxHeartbeats 2000000 in
theorem rest_32 (h0 : BitVec 32) (a : Option Addr) (n c : Nat) (l : List (BitVec 8)) (w : World) (h : BRow w a n c l) :
    Calls Try.prog 72 #[.int .u32 (W32 h0), .slice a n c] w fun e w' => e = .returned (.int .u32 (W32 (rest32 h0 l))) ∧ w' = w := by
  have hm := h.most
  have hle := h.le
  have hroom := h.room
  have hlen := h.len_eq
  have H := Lib.hid h
  have HLEN := Lib.hid hlen
  clear h hlen
  go_enter Try.func72, Try.ntmps72
  go_wp2_with fail
  go_step3
  go_wp2_with fail
  go_step3
  go_wp2_with fail
  go_loop [0, 5] (fun hv i => ∃ k : Nat, k * 4 ≤ n ∧ i = .int .i64 ((k * 4 : Nat) : Int) ∧ hv = .int .u32 (W32 (bFold 4 wst32 k h0 l))) (fun _ i => n + 1 - (intOf i).toNat)
  case atStart => exact ⟨0, by omega, by simp, rfl⟩
  case round =>
    obtain ⟨k, hk, rfl, rfl⟩ := hrel
    have hsucc := bFold_succ 4 wst32 k h0 l
    obtain ⟨m, hmk⟩ : ∃ m, k * 4 = m := ⟨_, rfl⟩
    rw [hmk] at hk hsucc ⊢
    obtain ⟨cur, hcur⟩ : ∃ z, bFold 4 wst32 k h0 l = z := ⟨_, rfl⟩
    rw [hcur] at hsucc ⊢
    have HCUR := Lib.hid hcur
    have HMK := Lib.hid hmk
    clear hcur hmk
    by_cases hlt : m + 4 ≤ n
    · obtain ⟨b, off, rfl, _⟩ := H.out.addr (by omega)
      have HL := Lib.hid (le32_yes b off n c m l w H.out hlt)
      have hwst : wst32 cur ((l.drop m).take 4) = (cur + (rd l m 4).setWidth 32 * 3266489917#32).rotateLeft 17 * 668265263#32 := by unfold wst32; rw [rd_sub32]
      rw [hwst] at hsucc
      clear hwst
      obtain ⟨kk, hkk⟩ : ∃ z, (rd l m 4).setWidth 32 = z := ⟨_, rfl⟩
      rw [hkk] at HL hsucc
      have HR := Lib.hid (rot32_n (cur + kk * 3266489917#32) 17 (by decide))
      obtain ⟨rr, hr⟩ : ∃ z, (cur + kk * 3266489917#32).rotateLeft 17 = z := ⟨_, rfl⟩
      rw [hr] at HR hsucc
      have HS := Lib.hid hsucc
      clear hkk hr hsucc
      go_wp2_with fail
      refine (HL.out).mono ?_
      rintro e w9 ⟨rfl, rfl⟩
      go_wp2_with fail
      refine (HR.out _).mono ?_
      rintro e w9 ⟨rfl, rfl⟩
      obtain ⟨hw2, hw2'⟩ := wrap_add m (4 : Int) (m + 4) (by rw [Int.natCast_add]; try rfl) (by omega)
      go_wp2
      exact ⟨⟨k + 1, by have := HMK.out; omega, by rw [show (k + 1) * 4 = m + 4 by have := HMK.out; omega]; go_num, by rw [HS.out]⟩, by simp [intOf]; omega⟩
    · have HL := Lib.hid (le32_no a n c m w hm (by omega) (by omega))
      have hkd : k = n / 4 := by have := HMK.out; omega
      have hst : bState 4 wst32 h0 l = cur := by unfold bState; rw [HLEN.out, ← hkd]; exact HCUR.out
      have htl : bTail 4 l = l.drop m := by unfold bTail; rw [HLEN.out, ← hkd, HMK.out]
      have HFIN := Lib.hid (show (l.drop m).foldl byt32 cur = rest32 h0 l by unfold rest32; rw [hst, htl])
      have hi0 : (0 : Int) ≤ (m : Int) := by omega
      have hi1 : (m : Int) ≤ (n : Int) := by omega
      have hlc : (n : Int) ≤ (c : Int) := by omega
      have hcs : (n : Int) - (m : Int) = ((n - m : Nat) : Int) := by omega
      clear hst htl hkd hsucc
      cases a with
      | none =>
        obtain ⟨rfl, rfl, rfl⟩ := brow_nil H.out
        obtain rfl : m = 0 := by omega
        have HRW := Lib.hid H.out
        rw [List.drop_zero] at HFIN
        go_wp2_with fail
        refine (HL.out).mono ?_
        rintro e w9 ⟨rfl, rfl⟩
        go_wp2_with fail
        go_loop [0, 30] (fun hv i => ∃ k : Nat, k ≤ 0 ∧ i = .int .i64 (k : Int) ∧ hv = .int .u32 (W32 ((([] : List (BitVec 8)).take k).foldl byt32 cur))) (fun _ i => 0 - (intOf i).toNat)
        case atStart => exact ⟨0, Nat.zero_le _, rfl, rfl⟩
        case round =>
          obtain ⟨k, hk2, rfl, rfl⟩ := hrel
          by_cases hlt2 : (k : Int) < ((0 : Nat) : Int)
          · omega
          · have hkn : k = 0 := by omega
            have htt : ([] : List (BitVec 8)).take k = ([] : List (BitVec 8)) := List.take_of_length_le (by rw [HRW.out.len_eq]; omega)
            rw [htt]
            clear htt
            have HF2 := HFIN.out
            obtain ⟨ff, hff⟩ : ∃ z, ([] : List (BitVec 8)).foldl byt32 cur = z := ⟨_, rfl⟩
            rw [hff] at HF2 ⊢
            clear hff
            subst hkn
            go_wp2_with fail
            first | go_ret | (rw [Exit.noGoto_ret]; go_ret)
            first | exact ⟨rfl, rfl⟩ | exact ⟨by rw [HF2], rfl⟩
      | some y =>
        obtain ⟨bk, off, sp⟩ := y
        by_cases hcm : c = m
        · obtain rfl : m = n := by omega
          obtain rfl : c = m := hcm
          have hsp := row_end H.out
          have HRW := Lib.hid hsp
          clear hsp hcs hi1 hlc
          have hcs : ((c - c : Nat) : Int) = 0 := by omega
          go_wp2_with fail
          refine (HL.out).mono ?_
          rintro e w9 ⟨rfl, rfl⟩
          go_wp2_with fail
          go_loop [0, 30] (fun hv i => ∃ k : Nat, k ≤ 0 ∧ i = .int .i64 (k : Int) ∧ hv = .int .u32 (W32 (((l.drop c).take k).foldl byt32 cur))) (fun _ i => 0 - (intOf i).toNat)
          case atStart => exact ⟨0, Nat.zero_le _, rfl, rfl⟩
          case round =>
            obtain ⟨k, hk2, rfl, rfl⟩ := hrel
            by_cases hlt2 : (k : Int) < ((0 : Nat) : Int)
            · omega
            · have hkn : k = 0 := by omega
              have htt : (l.drop c).take k = (l.drop c) := List.take_of_length_le (by rw [HRW.out.len_eq]; omega)
              rw [htt]
              clear htt
              have HF2 := HFIN.out
              obtain ⟨ff, hff⟩ : ∃ z, (l.drop c).foldl byt32 cur = z := ⟨_, rfl⟩
              rw [hff] at HF2 ⊢
              clear hff
              subst hkn
              go_wp2_with fail
              first | go_ret | (rw [Exit.noGoto_ret]; go_ret)
              first | exact ⟨rfl, rfl⟩ | exact ⟨by rw [HF2], rfl⟩
        · have hcm2 : ¬ (c : Int) = (m : Int) := by omega
          obtain ⟨sp2, hadd, hsp⟩ := row_rest H.out (show m ≤ n by omega)
          have HRW := Lib.hid hsp
          clear hsp
          go_wp2_with fail
          refine (HL.out).mono ?_
          rintro e w9 ⟨rfl, rfl⟩
          go_wp2_with fail
          go_loop [0, 30] (fun hv i => ∃ k : Nat, k ≤ (n - m) ∧ i = .int .i64 (k : Int) ∧ hv = .int .u32 (W32 (((l.drop m).take k).foldl byt32 cur))) (fun _ i => (n - m) - (intOf i).toNat)
          case atStart => exact ⟨0, Nat.zero_le _, rfl, rfl⟩
          case round =>
            obtain ⟨k, hk2, rfl, rfl⟩ := hrel
            by_cases hlt2 : (k : Int) < (((n - m) : Nat) : Int)
            · obtain ⟨b2, off2, e2, hcell⟩ := HRW.out.addr (by omega)
              cases e2
              have hck := hcell k (by omega)
              have hk0 : (0 : Int) ≤ (k : Int) := by omega
              have hft := foldl_take byt32 cur (l.drop m) 0#8 k (by have := HRW.out.len_eq; omega)
              obtain ⟨g0, hg⟩ : ∃ z, ((l.drop m).take k).foldl byt32 cur = z := ⟨_, rfl⟩
              rw [hg] at hft ⊢
              unfold byt32 at hft
              obtain ⟨bb, hbb⟩ : ∃ z, (l.drop m).getD k 0#8 = z := ⟨_, rfl⟩
              rw [hbb] at hft
              rw [show (l.drop m).getD k 0 = bb from hbb] at hck
              have HRB := Lib.hid (rot32_n (g0 + bb.setWidth 32 * 374761393#32) 11 (by decide))
              obtain ⟨rb, hrb⟩ : ∃ z, (g0 + bb.setWidth 32 * 374761393#32).rotateLeft 11 = z := ⟨_, rfl⟩
              rw [hrb] at HRB hft
              have HFT := Lib.hid hft
              clear hg hbb hrb hft hcell
              go_wp2_with fail
              refine (HRB.out _).mono ?_
              rintro e w9 ⟨rfl, rfl⟩
              go_wp2
              exact ⟨⟨k + 1, by omega, by go_num, by unfold byt32; rw [HFT.out]⟩, by simp [intOf]; omega⟩
            · have hkn : k = (n - m) := by omega
              have htt : (l.drop m).take k = (l.drop m) := List.take_of_length_le (by rw [HRW.out.len_eq]; omega)
              rw [htt]
              clear htt
              have HF2 := HFIN.out
              obtain ⟨ff, hff⟩ : ∃ z, (l.drop m).foldl byt32 cur = z := ⟨_, rfl⟩
              rw [hff] at HF2 ⊢
              clear hff
              subst hkn
              go_wp2_with fail
              first | go_ret | (rw [Exit.noGoto_ret]; go_ret)
              first | exact ⟨rfl, rfl⟩ | exact ⟨by rw [HF2], rfl⟩
end Go.Proofs.Ytfeeecmcaakpkaa
