/- Layer 16: Sum and Seal, and the document's own. -/
import Derived.Test.YtjmnhooenampkaaGreatDoorSeaM
import Derived.Test.YtjmnhooenampkaaGreatDoorMixC
import Derived.Test.YtjmnhooenampkaaGreatDoorBoth
namespace Go.Proofs.YtjmnhooenampkaaGreatDoor
open Go.RowKit Go.Bv
set_option linter.unusedVariables false
theorem fmix16r (y : BitVec 32) (w : World) : Calls Tryz.prog 67 #[.int .u32 (W32 y)] w fun e w' => e = .returned (.int .u32 (W32 (fmix32 y))) ∧ New w w' := by
  have h := fmix32_ref (W32 y) (b32 _) w
  rw [ofInt_W32] at h
  refine h.mono ?_
  rintro e w' ⟨h1, rfl⟩
  exact ⟨h1, New.refl _⟩
theorem fmix16 (y : BitVec 32) (w : World) : Calls Tryz.prog 58 #[.int .u32 (W32 y)] w fun e w' => e = .returned (.int .u32 (W32 (fmix32 y))) ∧ New w w' := by
  have h := fmix32_any (W32 y) (b32 _) w w (New.refl w)
  rw [ofInt_W32] at h
  exact h
set_option maxRecDepth 100000 in
set_option maxHeartbeats 1000000 in
theorem sum_16 (a : Option Addr) (n c : Nat) (l : List (BitVec 8)) (w : World) (h : BRow w a n c l) :
    Calls Tryz.prog 41 #[.slice a n c] w fun e w' => e = .returned (.int .u32 (W32 (sum16 l))) ∧ New w w' := by
  have hm := h.most
  have hle := h.le
  have hlen := h.len_eq
  have H := Lib.hid h
  have hw32 : BitVec.ofInt 32 (n : Int) = BitVec.ofNat 32 n := by simp
  have hw64 : (BitVec.ofNat 64 n % 4294967296#64).setWidth 32 = BitVec.ofNat 32 n := by
    apply BitVec.eq_of_toNat_eq
    rw [BitVec.toNat_setWidth, BitVec.toNat_umod, BitVec.toNat_ofNat, BitVec.toNat_ofNat, BitVec.toNat_ofNat]
    have e1 : (2 : Nat) ^ 64 = 18446744073709551616 := by decide
    have e2 : (2 : Nat) ^ 32 = 4294967296 := by decide
    rw [e1, e2, show 4294967296 % 18446744073709551616 = 4294967296 by decide]
    omega
  unfold sum16
  rw [hlen]
  obtain ⟨h0, hh0⟩ : ∃ z, BitVec.ofNat 32 n = z := ⟨_, rfl⟩
  rw [hh0] at hw32 hw64 ⊢
  have HLEN := Lib.hid hlen
  clear h hlen
  go_enter Tryz.func41, Tryz.ntmps41
  go_wp2_with fail
  first | rw [hw64] | rw [hw32] | skip
  try clear hw64 hw32 hh0
  go_loopw [3, 11] (fun hv i wr => ∃ k : Nat, k ≤ n ∧ i = .int .i64 (k : Int) ∧ hv = .int .u32 (W32 ((l.take k).foldl stp16 h0)) ∧ New w wr) (fun _ i _ => n - (intOf i).toNat)
  case atStart => exact ⟨0, Nat.zero_le _, rfl, rfl, New.refl w⟩
  case round =>
    obtain ⟨k, hk, rfl, rfl, hn⟩ := hrel
    have HN := Lib.hid hn
    clear hn
    by_cases hlt : (k : Int) < (n : Int)
    · obtain ⟨b, off, rfl, hcell⟩ := (H.out.stay HN.out).addr (by omega)
      have hck := hcell k (by omega)
      have hk0 : (0 : Int) ≤ (k : Int) := by omega
      have hft := fold_tk16 h0 l k (by have := HLEN.out; omega)
      obtain ⟨g0, hg⟩ : ∃ z, (l.take k).foldl stp16 h0 = z := ⟨_, rfl⟩
      rw [hg] at hft ⊢
      unfold stp16 at hft
      obtain ⟨bb, hbb⟩ : ∃ z, l.getD k 0#8 = z := ⟨_, rfl⟩
      rw [show l.getD k 0 = bb from hbb] at hck hft
      have HRB := Lib.hid (fmix16 (g0 ^^^ bb.setWidth 32))
      obtain ⟨rb, hrb⟩ : ∃ z, fmix32 (g0 ^^^ bb.setWidth 32) = z := ⟨_, rfl⟩
      rw [hrb] at HRB hft
      have HFT := Lib.hid hft
      clear hg hbb hrb hft hcell
      go_wp2_with fail
      refine (HRB.out _).mono ?_
      rintro e w9 ⟨rfl, hn⟩
      replace HN := Lib.hid (HN.out.trans hn)
      clear hn
      go_wp2
      exact ⟨⟨k + 1, by omega, by go_num, by unfold stp16; rw [HFT.out], HN.out⟩, by simp [intOf]; omega⟩
    · have hkn : k = n := by omega
      have htt : l.take k = l := List.take_of_length_le (by rw [HLEN.out]; omega)
      rw [htt]
      clear htt
      subst hkn
      obtain ⟨ff, hff⟩ : ∃ z, l.foldl stp16 h0 = z := ⟨_, rfl⟩
      rw [hff]
      have HFF := Lib.hid hff
      clear hff
      go_wp2
      go_ret
      exact ⟨by rw [HFF.out]; rfl, HN.out⟩
set_option maxRecDepth 100000 in
set_option maxHeartbeats 1000000 in
theorem sum_ref16 (a : Option Addr) (n c : Nat) (l : List (BitVec 8)) (w : World) (h : BRow w a n c l) :
    Calls Tryz.prog 52 #[.slice a n c] w fun e w' => e = .returned (.int .u32 (W32 (sum16 l))) ∧ New w w' := by
  have hm := h.most
  have hle := h.le
  have hlen := h.len_eq
  have H := Lib.hid h
  have hw32 : BitVec.ofInt 32 (n : Int) = BitVec.ofNat 32 n := by simp
  have hw64 : (BitVec.ofNat 64 n % 4294967296#64).setWidth 32 = BitVec.ofNat 32 n := by
    apply BitVec.eq_of_toNat_eq
    rw [BitVec.toNat_setWidth, BitVec.toNat_umod, BitVec.toNat_ofNat, BitVec.toNat_ofNat, BitVec.toNat_ofNat]
    have e1 : (2 : Nat) ^ 64 = 18446744073709551616 := by decide
    have e2 : (2 : Nat) ^ 32 = 4294967296 := by decide
    rw [e1, e2, show 4294967296 % 18446744073709551616 = 4294967296 by decide]
    omega
  unfold sum16
  rw [hlen]
  obtain ⟨h0, hh0⟩ : ∃ z, BitVec.ofNat 32 n = z := ⟨_, rfl⟩
  rw [hh0] at hw32 hw64 ⊢
  have HLEN := Lib.hid hlen
  clear h hlen
  go_enter Tryz.func52, Tryz.ntmps52
  go_wp2_with fail
  first | rw [hw64] | rw [hw32] | skip
  try clear hw64 hw32 hh0
  go_loopw [3, 13] (fun hv i wr => ∃ k : Nat, k ≤ n ∧ i = .int .i64 (k : Int) ∧ hv = .int .u32 (W32 ((l.take k).foldl stp16 h0)) ∧ New w wr) (fun _ i _ => n - (intOf i).toNat)
  case atStart => exact ⟨0, Nat.zero_le _, rfl, rfl, New.refl w⟩
  case round =>
    obtain ⟨k, hk, rfl, rfl, hn⟩ := hrel
    have HN := Lib.hid hn
    clear hn
    by_cases hlt : (k : Int) < (n : Int)
    · obtain ⟨b, off, rfl, hcell⟩ := (H.out.stay HN.out).addr (by omega)
      have hck := hcell k (by omega)
      have hk0 : (0 : Int) ≤ (k : Int) := by omega
      have hft := fold_tk16 h0 l k (by have := HLEN.out; omega)
      obtain ⟨g0, hg⟩ : ∃ z, (l.take k).foldl stp16 h0 = z := ⟨_, rfl⟩
      rw [hg] at hft ⊢
      unfold stp16 at hft
      obtain ⟨bb, hbb⟩ : ∃ z, l.getD k 0#8 = z := ⟨_, rfl⟩
      rw [show l.getD k 0 = bb from hbb] at hck hft
      have HRB := Lib.hid (fmix16r (g0 ^^^ bb.setWidth 32))
      obtain ⟨rb, hrb⟩ : ∃ z, fmix32 (g0 ^^^ bb.setWidth 32) = z := ⟨_, rfl⟩
      rw [hrb] at HRB hft
      have HFT := Lib.hid hft
      clear hg hbb hrb hft hcell
      go_wp2_with fail
      refine (HRB.out _).mono ?_
      rintro e w9 ⟨rfl, hn⟩
      replace HN := Lib.hid (HN.out.trans hn)
      clear hn
      go_wp2
      exact ⟨⟨k + 1, by omega, by go_num, by unfold stp16; rw [HFT.out], HN.out⟩, by simp [intOf]; omega⟩
    · have hkn : k = n := by omega
      have htt : l.take k = l := List.take_of_length_le (by rw [HLEN.out]; omega)
      rw [htt]
      clear htt
      subst hkn
      obtain ⟨ff, hff⟩ : ∃ z, l.foldl stp16 h0 = z := ⟨_, rfl⟩
      rw [hff]
      have HFF := Lib.hid hff
      clear hff
      go_wp2
      go_ret
      exact ⟨by rw [HFF.out]; rfl, HN.out⟩
set_option maxHeartbeats 1000000 in
theorem seal_16 (a : Option Addr) (n c : Nat) (l : List (BitVec 8)) (w : World) (h : BRow w a n c l) (hb : n + 4 ≤ 140737488355328) :
    Calls Tryz.prog 23 #[.slice a n c] w fun e w' => ∃ a' c', e = .returned (.slice a' (n + 4 : Nat) c') ∧ BRow w' a' (n + 4) c' (seal16 l) ∧ New w w' := by
  have HS := Lib.hid (sum_16 a n c l w h)
  have HP := Lib.hid (fun w' (hn : New w w') => put32_any a n c l (W32 (sum16 l)) (b32 _) w w' (h.stay hn) hb hn)
  rw [ofInt_W32] at HP
  have e1 : l ++ bytes ((sum16 l).setWidth 64) 4 = seal16 l := rfl
  rw [e1] at HP
  obtain ⟨sl, hs⟩ : ∃ z, seal16 l = z := ⟨_, rfl⟩
  rw [hs] at HP
  rw [hs]
  obtain ⟨sm, hm⟩ : ∃ z, sum16 l = z := ⟨_, rfl⟩
  rw [hm] at HP HS
  clear h e1 hs hm
  go_enter Tryz.func23, Tryz.ntmps23
  go_wp2_with fail
  refine HS.out.mono ?_
  rintro e w9 ⟨rfl, hn⟩
  have HN := Lib.hid hn
  clear hn HS
  go_wp2_with fail
  refine (HP.out _ HN.out).mono ?_
  rintro e w9 ⟨a', c', rfl, hr, hn, hn2⟩
  have HR := Lib.hid hr
  have HN2 := Lib.hid hn2
  clear hr hn hn2 HP HN
  go_wp2
  go_ret
  exact ⟨a', c', rfl, HR.out, HN2.out⟩
set_option maxHeartbeats 1000000 in
theorem seal_ref16 (a : Option Addr) (n c : Nat) (l : List (BitVec 8)) (w : World) (h : BRow w a n c l) (hb : n + 4 ≤ 140737488355328) :
    Calls Tryz.prog 36 #[.slice a n c] w fun e w' => ∃ a' c', e = .returned (.slice a' (n + 4 : Nat) c') ∧ BRow w' a' (n + 4) c' (seal16 l) ∧ New w w' := by
  have HS := Lib.hid (sum_ref16 a n c l w h)
  have HP := Lib.hid (fun w' (hn : New w w') => bytes_ref (W64 ((sum16 l).setWidth 64)) (b64 _) 4 (by omega) w w' hn)
  rw [ofInt_W64] at HP
  have HB := Lib.hid (fun w' (hn : New w w') b c2 (hr : BRow w' b 4 c2 (bytes ((sum16 l).setWidth 64) 4)) => both_ref a b n c 4 c2 l _ w w' (h.stay hn) hr hb hn)
  have e1 : l ++ bytes ((sum16 l).setWidth 64) 4 = seal16 l := rfl
  rw [e1] at HB
  obtain ⟨sl, hs⟩ : ∃ z, seal16 l = z := ⟨_, rfl⟩
  rw [hs] at HB
  rw [hs]
  obtain ⟨sm, hm⟩ : ∃ z, sum16 l = z := ⟨_, rfl⟩
  rw [hm] at HP HS HB
  clear h e1 hs hm
  go_enter Tryz.func36, Tryz.ntmps36
  go_wp2_with fail
  refine HS.out.mono ?_
  rintro e w9 ⟨rfl, hn⟩
  have HN := Lib.hid hn
  clear hn HS
  go_wp2_with fail
  refine (HP.out _ HN.out).mono ?_
  rintro e w9 ⟨b, c2, rfl, hr, hn, hn2⟩
  have HR := Lib.hid hr
  have HN2 := Lib.hid hn2
  clear hr hn hn2 HP HN
  go_wp2_with fail
  refine (HB.out _ HN2.out _ _ HR.out).mono ?_
  rintro e w9 ⟨a', c', rfl, hr, hn, hn2⟩
  have HR3 := Lib.hid hr
  have HN3 := Lib.hid hn2
  clear hr hn hn2 HB HN2 HR
  go_wp2
  go_ret
  exact ⟨a', c', rfl, HR3.out, HN3.out⟩
end Go.Proofs.YtjmnhooenampkaaGreatDoor
