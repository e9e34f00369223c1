import Derived.Test.YthkmcnlciefnfaaGreatZ5Row
import Derived.Laws.AppendOwnNone
import Derived.Test.YthkmcnlciefnfaaGreatProg
import Derived.Test.YthkmcnlciefnfaaGreatZ5RowQ
import Derived.Deep.OwnRows
import Derived.OneCell
import Derived.Deep.AppendLies
import Derived.Handy
import Derived.BigRegion
import Derived.Deep.QuietTactic
import Derived.BigQuiet
import Derived.Test.YthkmcnlciefnfaaGreatZ5Frame
import Derived.Deep.Strs
import Derived.SizedLaws
section
/- Layer 16: the mathematics of sums. -/
namespace Go.Proofs.YthkmcnlciefnfaaGreat
open Go.RowKit Go.Bv
set_option linter.unusedVariables false
/-- a byte into the sum -/
def stp16 (h : BitVec 32) (c : BitVec 8) : BitVec 32 := fmix32 (h ^^^ c.setWidth 32) + 1#32
def sum16 (l : List (BitVec 8)) : BitVec 32 := l.foldl stp16 (BitVec.ofNat 32 l.length)
/-- bytes with their sum -/
def seal16 (l : List (BitVec 8)) : List (BitVec 8) := l ++ bytes ((sum16 l).setWidth 64) 4
/-- whether the last four bytes are the sum of those before -/
def ok16 (l : List (BitVec 8)) : Bool := (rd l (l.length - 4) 4).setWidth 32 == sum16 (l.take (l.length - 4))
theorem fold_tk16 (h : BitVec 32) (l : List (BitVec 8)) (k : Nat) (hk : k < l.length) : (l.take (k + 1)).foldl stp16 h = stp16 ((l.take k).foldl stp16 h) (l.getD k 0) := by
  rw [List.take_succ_eq_append_getElem hk, List.foldl_append]
  simp [List.getD_eq_getElem?_getD, List.getElem?_eq_getElem hk]
end Go.Proofs.YthkmcnlciefnfaaGreat
end
section
/- Contracts of package mix and of modn.Odd, on: the steps, the mixers and their inverses. -/
namespace Go.Proofs.YthkmcnlciefnfaaGreat
open Go.RowKit Go.Bv
set_option linter.unusedVariables false
set_option maxHeartbeats 400000 in
theorem short_any (a : Int) (w : World) :
    Calls Tryz.prog 64 #[.int .u64 a] w fun e w' => e = .returned (.int .u64 (W64 (low (BitVec.ofInt 64 a)))) ∧ w' = w := by
  go_enter Tryz.func64, Tryz.ntmps64
  go_wp2
  go_ret
  exact ⟨ret64 rfl, rfl⟩
set_option maxHeartbeats 400000 in
theorem fmix321 : Step64 61 (fun x => F 16 (BitVec.ofInt 64 x)) := by
  intro x w hx
  obtain ⟨x, rfl⟩ := ex64 x hx
  simp only [ofInt_W64]
  go_enter Tryz.func61, Tryz.ntmps61
  go_wp2_with (first | (go_at_call 62; refine (fold_anyX _ _ (b64 _) _).mono ?_; rintro e w' ⟨rfl, rfl⟩))
  go_ret
  exact ⟨ret64 rfl, rfl⟩
set_option maxHeartbeats 400000 in
theorem fmix322 : Step64 63 (fun x => low (BitVec.ofInt 64 x * S1)) := by
  intro x w hx
  obtain ⟨x, rfl⟩ := ex64 x hx
  simp only [ofInt_W64]
  go_enter Tryz.func63, Tryz.ntmps63
  go_wp2_with (first | (go_at_call 64; refine (short_any _ _).mono ?_; rintro e w' ⟨rfl, rfl⟩))
  go_ret
  exact ⟨ret64 rfl, rfl⟩
set_option maxHeartbeats 400000 in
theorem fmix323 : Step64 65 (fun x => F 13 (BitVec.ofInt 64 x)) := by
  intro x w hx
  obtain ⟨x, rfl⟩ := ex64 x hx
  simp only [ofInt_W64]
  go_enter Tryz.func65, Tryz.ntmps65
  go_wp2_with (first | (go_at_call 62; refine (fold_anyX _ _ (b64 _) _).mono ?_; rintro e w' ⟨rfl, rfl⟩))
  go_ret
  exact ⟨ret64 rfl, rfl⟩
set_option maxHeartbeats 400000 in
theorem fmix324 : Step64 66 (fun x => low (BitVec.ofInt 64 x * S2)) := by
  intro x w hx
  obtain ⟨x, rfl⟩ := ex64 x hx
  simp only [ofInt_W64]
  go_enter Tryz.func66, Tryz.ntmps66
  go_wp2_with (first | (go_at_call 64; refine (short_any _ _).mono ?_; rintro e w' ⟨rfl, rfl⟩))
  go_ret
  exact ⟨ret64 rfl, rfl⟩
set_option maxHeartbeats 400000 in
theorem fmix325 : Step64 67 (fun x => F 16 (BitVec.ofInt 64 x)) := by
  intro x w hx
  obtain ⟨x, rfl⟩ := ex64 x hx
  simp only [ofInt_W64]
  go_enter Tryz.func67, Tryz.ntmps67
  go_wp2_with (first | (go_at_call 62; refine (fold_anyX _ _ (b64 _) _).mono ?_; rintro e w' ⟨rfl, rfl⟩))
  go_ret
  exact ⟨ret64 rfl, rfl⟩
end Go.Proofs.YthkmcnlciefnfaaGreat
end
section
/- Contracts of the document's own mixers, of mix.Fmix32 and mix.Unfmix32, and of the examples of chapter 7. -/
namespace Go.Proofs.YthkmcnlciefnfaaGreat
open Go.RowKit Go.Bv
set_option linter.unusedVariables false
theorem N64_cast (k : Nat) (h : k < 18446744073709551616) : N64 (BitVec.ofNat 64 k) = k := by
  unfold N64; rw [BitVec.toNat_ofNat, Nat.mod_eq_of_lt (by omega)]
theorem N64_sum (k : Nat) (c : Int) (d : BitVec 64) (hd : d = BitVec.ofInt 64 c) (h0 : 0 ≤ c) (h : (k : Int) + c < 18446744073709551616) : N64 (BitVec.ofNat 64 k + d) = k + c.toNat := by
  rw [hd, ← BitVec.ofInt_natCast, ← BitVec.ofInt_add, show (k : Int) + c = ((k + c.toNat : Nat) : Int) by omega, BitVec.ofInt_natCast]; exact N64_cast _ (by omega)
theorem bit_toNat (z : BitVec 64) (k : Nat) : (z >>> k % 2#64).toNat = (z.getLsbD k).toNat := by
  rw [BitVec.toNat_umod, BitVec.toNat_ushiftRight, Nat.shiftRight_eq_div_pow, BitVec.getLsbD, Nat.toNat_testBit]; rfl
theorem fold_bit1 (z : BitVec 64) (c k : Nat) (h : 64 ≤ c + k) : ((z >>> k % 2#64) % 2#64).toNat = ((F c z).getLsbD k).toNat := by
  rw [BitVec.toNat_umod, bit_toNat, F, BitVec.getLsbD_xor, BitVec.getLsbD_ushiftRight, BitVec.getLsbD_of_ge z (c + k) h]
  cases z.getLsbD k <;> rfl
theorem fold_bit2 (z : BitVec 64) (c k j : Nat) (h : j = c + k) : ((z >>> k % 2#64 + z >>> j % 2#64) % 2#64).toNat = ((F c z).getLsbD k).toNat := by
  rw [BitVec.toNat_umod, BitVec.toNat_add, bit_toNat, bit_toNat, F, BitVec.getLsbD_xor, BitVec.getLsbD_ushiftRight, h]
  cases z.getLsbD k <;> cases z.getLsbD (c + k) <;> rfl
theorem fold_put (y out b : BitVec 64) (k : Nat) (hk : k < 64) (ho : out.toNat = y.toNat % 2 ^ k) (hb : (b % 2#64).toNat = (y.getLsbD k).toNat) :
    (out + (b % 2#64) <<< k).toNat = y.toNat % 2 ^ (k + 1) := by
  have h1 : (2 : Nat) ^ (k + 1) ≤ 2 ^ 64 := Nat.pow_le_pow_right (by omega) (by omega)
  have h2 := Nat.mod_lt y.toNat (Nat.two_pow_pos k)
  have h3 : (y.getLsbD k).toNat ≤ 1 := by cases y.getLsbD k <;> decide
  have h4 : (y.getLsbD k).toNat * 2 ^ k ≤ 1 * 2 ^ k := Nat.mul_le_mul_right _ h3
  have h5 : (2 : Nat) ^ (k + 1) = 2 ^ k * 2 := Nat.pow_succ 2 k
  have h6 : y.toNat / 2 ^ k % 2 = (y.getLsbD k).toNat := by rw [BitVec.getLsbD, Nat.toNat_testBit]
  rw [BitVec.toNat_add, BitVec.toNat_shiftLeft, Nat.shiftLeft_eq, hb, ho, Nat.mod_eq_of_lt (a := (y.getLsbD k).toNat * 2 ^ k) (by omega), Nat.mod_eq_of_lt (by omega), Nat.mod_pow_succ, h6, Nat.mul_comm]
set_option maxHeartbeats 1000000 in
theorem fold_ref (z n : Int) (hz : 0 ≤ z ∧ z < 18446744073709551616) (w : World) :
    Calls Tryz.prog 73 #[.int .u64 z, .int .i64 n] w fun e w' => e = .returned (.int .u64 (W64 (F (sh n) (BitVec.ofInt 64 z)))) ∧ w' = w := by
  obtain ⟨z, rfl⟩ := ex64 z hz
  rw [ofInt_W64]
  by_cases c1 : n < 1
  · have hs : (sh n : Int) = 1 := by unfold sh; omega
    go_enter Tryz.func73, Tryz.ntmps73
    go_wp2
    go_loop [5, 6, 7] (fun t i b => ∃ (k : Nat) (o : BitVec 64), k ≤ 64 ∧ i = .int .i64 k ∧ t = .int .u64 (W64 o) ∧ Hid (o.toNat = (F (sh n) z).toNat % 2 ^ k)) (fun _ i _ => 64 - (intOf i).toNat)
    case atStart => exact ⟨0, 0#64, by omega, rfl, rfl, Lib.hid (by simp [Nat.mod_one])⟩
    case round =>
      obtain ⟨k, o, hk, rfl, rfl, H⟩ := hrel
      by_cases hlt : (k : Int) < 64
      · have hN : N64 (BitVec.ofNat 64 k) = k := N64_cast k (by omega)
        by_cases hlt2 : (k : Int) + 1 < 64
        · have hM : N64 (BitVec.ofNat 64 k + 1#64) = k + sh n := by
            rw [N64_sum k 1 1#64 rfl (by omega) (by omega)]; omega
          have hb := fold_put (F (sh n) z) o (z >>> k % 2#64 + z >>> (k + sh n) % 2#64) k (by omega) H.out (fold_bit2 z (sh n) k (k + sh n) (by omega))
          have HM := Lib.hid hM
          have HN := Lib.hid hN
          have HB := Lib.hid hb
          clear hM hN hb
          go_wp2
          exact ⟨⟨k + 1, _, by omega, by go_num, rfl, Lib.hid (by rw [HM.out, HN.out]; exact HB.out)⟩, by simp [intOf]; omega⟩
        · have hb := fold_put (F (sh n) z) o (z >>> k % 2#64) k (by omega) H.out (fold_bit1 z (sh n) k (by omega))
          have HN := Lib.hid hN
          have HB := Lib.hid hb
          clear hN hb
          go_wp2
          exact ⟨⟨k + 1, _, by omega, by go_num, rfl, Lib.hid (by rw [HN.out]; exact HB.out)⟩, by simp [intOf]; omega⟩
      · go_wp2
        go_ret
        refine ⟨ret64 (BitVec.eq_of_toNat_eq ?_), rfl⟩
        obtain rfl : k = 64 := by omega
        rw [H.out, Nat.mod_eq_of_lt (F (sh n) z).isLt]
  by_cases c2 : 63 < n
  · have hs : (sh n : Int) = 63 := by unfold sh; omega
    go_enter Tryz.func73, Tryz.ntmps73
    go_wp2
    go_loop [5, 6, 7] (fun t i b => ∃ (k : Nat) (o : BitVec 64), k ≤ 64 ∧ i = .int .i64 k ∧ t = .int .u64 (W64 o) ∧ Hid (o.toNat = (F (sh n) z).toNat % 2 ^ k)) (fun _ i _ => 64 - (intOf i).toNat)
    case atStart => exact ⟨0, 0#64, by omega, rfl, rfl, Lib.hid (by simp [Nat.mod_one])⟩
    case round =>
      obtain ⟨k, o, hk, rfl, rfl, H⟩ := hrel
      by_cases hlt : (k : Int) < 64
      · have hN : N64 (BitVec.ofNat 64 k) = k := N64_cast k (by omega)
        by_cases hlt2 : (k : Int) + 63 < 64
        · have hM : N64 (BitVec.ofNat 64 k + 63#64) = k + sh n := by
            rw [N64_sum k 63 63#64 rfl (by omega) (by omega)]; omega
          have hb := fold_put (F (sh n) z) o (z >>> k % 2#64 + z >>> (k + sh n) % 2#64) k (by omega) H.out (fold_bit2 z (sh n) k (k + sh n) (by omega))
          have HM := Lib.hid hM
          have HN := Lib.hid hN
          have HB := Lib.hid hb
          clear hM hN hb
          go_wp2
          exact ⟨⟨k + 1, _, by omega, by go_num, rfl, Lib.hid (by rw [HM.out, HN.out]; exact HB.out)⟩, by simp [intOf]; omega⟩
        · have hb := fold_put (F (sh n) z) o (z >>> k % 2#64) k (by omega) H.out (fold_bit1 z (sh n) k (by omega))
          have HN := Lib.hid hN
          have HB := Lib.hid hb
          clear hN hb
          go_wp2
          exact ⟨⟨k + 1, _, by omega, by go_num, rfl, Lib.hid (by rw [HN.out]; exact HB.out)⟩, by simp [intOf]; omega⟩
      · go_wp2
        go_ret
        refine ⟨ret64 (BitVec.eq_of_toNat_eq ?_), rfl⟩
        obtain rfl : k = 64 := by omega
        rw [H.out, Nat.mod_eq_of_lt (F (sh n) z).isLt]
  · have hs : (sh n : Int) = n := by unfold sh; omega
    have hs2 := Lib.hid hs
    clear hs
    go_enter Tryz.func73, Tryz.ntmps73
    go_wp2
    go_loop [5, 6, 7] (fun t i b => ∃ (k : Nat) (o : BitVec 64), k ≤ 64 ∧ i = .int .i64 k ∧ t = .int .u64 (W64 o) ∧ Hid (o.toNat = (F (sh n) z).toNat % 2 ^ k)) (fun _ i _ => 64 - (intOf i).toNat)
    case atStart => exact ⟨0, 0#64, by omega, rfl, rfl, Lib.hid (by simp [Nat.mod_one])⟩
    case round =>
      obtain ⟨k, o, hk, rfl, rfl, H⟩ := hrel
      by_cases hlt : (k : Int) < 64
      · have hN : N64 (BitVec.ofNat 64 k) = k := N64_cast k (by omega)
        by_cases hlt2 : (k : Int) + n < 64
        · have hM : N64 (BitVec.ofNat 64 k + BitVec.ofInt 64 n) = k + sh n := by
            have hs := hs2.out; rw [N64_sum k n _ rfl (by omega) (by omega)]; omega
          have hb := fold_put (F (sh n) z) o (z >>> k % 2#64 + z >>> (k + sh n) % 2#64) k (by omega) H.out (fold_bit2 z (sh n) k (k + sh n) (by omega))
          have HM := Lib.hid hM
          have HN := Lib.hid hN
          have HB := Lib.hid hb
          clear hM hN hb
          go_wp2
          exact ⟨⟨k + 1, _, by omega, by go_num, rfl, Lib.hid (by rw [HM.out, HN.out]; exact HB.out)⟩, by simp [intOf]; omega⟩
        · have hb := fold_put (F (sh n) z) o (z >>> k % 2#64) k (by omega) H.out (fold_bit1 z (sh n) k (by have hs := hs2.out; omega))
          have HN := Lib.hid hN
          have HB := Lib.hid hb
          clear hN hb
          go_wp2
          exact ⟨⟨k + 1, _, by omega, by go_num, rfl, Lib.hid (by rw [HN.out]; exact HB.out)⟩, by simp [intOf]; omega⟩
      · go_wp2
        go_ret
        refine ⟨ret64 (BitVec.eq_of_toNat_eq ?_), rfl⟩
        obtain rfl : k = 64 := by omega
        rw [H.out, Nat.mod_eq_of_lt (F (sh n) z).isLt]
theorem down_fold (k : Nat) (h : BitVec 32) : (F k (h.setWidth 64)).setWidth 32 = F k h := by
  show (F k (up h)).setWidth 32 = _
  rw [F_up, up_low]
set_option maxHeartbeats 400000 in
theorem fmix32_ref (z : Int) (hz : 0 ≤ z ∧ z < 4294967296) (w : World) :
    Calls Tryz.prog 54 #[.int .u32 z] w fun e w' => e = .returned (.int .u32 (W32 (fmix32 (BitVec.ofInt 32 z)))) ∧ w' = w := by
  obtain ⟨z, rfl⟩ := ex32 z hz
  rw [ofInt_W32]
  go_enter Tryz.func54, Tryz.ntmps54
  go_wp2_with (go_at_call 73; refine (fold_ref _ _ (b64 _) _).mono ?_; rintro e w' ⟨rfl, rfl⟩)
  go_ret
  refine ⟨ret32 ?_, rfl⟩
  rw [show sh 16 = 16 from rfl, show sh 13 = 13 from rfl, down_fold, down_fold, down_fold]; rfl
set_option maxHeartbeats 400000 in
theorem fmix32_any (z : Int) (hz : 0 ≤ z ∧ z < 4294967296) (W w : World) (hg : New W w) :
    Calls Tryz.prog 49 #[.int .u32 z] w fun e w' => e = .returned (.int .u32 (W32 (fmix32 (BitVec.ofInt 32 z)))) ∧ New W w' := by
  obtain ⟨z, rfl⟩ := ex32 z hz
  rw [ofInt_W32]
  go_enter Tryz.func49, Tryz.ntmps49
  go_wp2_with fail
  refine (run_any _ _ _ _ _ _ _ _ _ _ fmix321 fmix322 fmix323 fmix324 fmix325 (fun _ _ => by go_simp) (fun _ _ => by go_simp) (fun _ _ => by go_simp) (fun _ _ => by go_simp) (fun _ _ => by go_simp) _ (b64 _) W _ hg).mono ?_
  rintro e w' ⟨rfl, hg⟩
  go_wp2
  go_ret
  refine ⟨ret32 ?_, hg⟩
  simp only [chain, ofInt_W64]
  show (mid32 (up z)).setWidth 32 = _
  rw [mid32_up, up_low]
end Go.Proofs.YthkmcnlciefnfaaGreat
end
section
/- Contracts of the document's own Both and Same: for all bytes. -/
namespace Go.Proofs.YthkmcnlciefnfaaGreat
open Go.RowKit Go.Bv
set_option linter.unusedVariables false
/-- bytes as a string -/
def bstr (l : List (BitVec 8)) : ByteArray := strOfNums (l.map W8)
theorem u8_of (x : BitVec 8) : UInt8.ofNat (W8 x).toNat = ⟨x⟩ := by
  rw [toNat_W8]; unfold N8; apply UInt8.toNat_inj.1
  have := x.isLt
  simp
theorem bstr_toList (l : List (BitVec 8)) : (bstr l).data.toList = l.map fun x => (⟨x⟩ : UInt8) := by
  unfold bstr; rw [strOfNums_data, List.map_map]; exact List.map_congr_left (fun x _ => u8_of x)
theorem bstr_inj {a b : List (BitVec 8)} (h : (bstr a).data.toList = (bstr b).data.toList) : a = b := by
  rw [bstr_toList, bstr_toList] at h
  have := congrArg (List.map UInt8.toBitVec) h
  simpa [List.map_map, Function.comp_def] using this
/-- the conversion of a slice of bytes into a string -/
theorem conv_row {w : World} {a : Option Addr} {len cap : Nat} {l : List (BitVec 8)} (h : BRow w a len cap l) :
    (convert 29 9 (.slice a len cap)).run Tryz.prog w = .ok (.string (bstr l)) w := by
  cases a with
  | none =>
    have h0 := (h.none rfl).1
    have hl : l = [] := List.eq_nil_of_length_eq_zero (by rw [h.len_eq, h0])
    rw [run_convert_bytes_nil (P := Tryz.prog) w 29 5 Tryz.underlying29 Tryz.underlying5 len cap 9 Tryz.underlying9, hl]; rfl
  | some x =>
    obtain ⟨b, off, sp⟩ := x
    by_cases h0 : 0 < len
    · obtain rfl : sp = Option.none := h.spot _ rfl h0
      exact run_convert_bytes_arg (P := Tryz.prog) w 29 5 Tryz.underlying29 Tryz.underlying5 b off len cap (l.map W8) (by rw [List.length_map, h.len_eq])
        (fun i hi => by
          rw [h.cell b off rfl i hi]
          have hl : i < l.length := by rw [h.len_eq]; exact hi
          rw [List.getD_eq_getElem?_getD, List.getD_eq_getElem?_getD, List.getElem?_map, List.getElem?_eq_getElem hl]; rfl) 9 Tryz.underlying9
    · obtain rfl : len = 0 := by omega
      have hl : l = [] := List.eq_nil_of_length_eq_zero h.len_eq
      subst hl
      rw [run_convert_bytes_string (P := Tryz.prog) w 29 9 5 _ 0 cap Tryz.underlying29 Tryz.underlying5 Tryz.underlying9, run_bytesToString (P := Tryz.prog) w ⟨b, off, sp⟩ 0 cap [] (by kernel_rfl)]
      rfl
set_option maxHeartbeats 1000000 in
theorem same_any (a b : Option Addr) (na ca nb cb : Nat) (la lb : List (BitVec 8)) (w : World) (ha : BRow w a na ca la) (hb : BRow w b nb cb lb) :
    Calls Tryz.prog 12 #[.slice a na ca, .slice b nb cb] w fun e w' => e = .returned (.bool (la == lb)) ∧ w' = w := by
  have h1 := conv_row ha
  have h2 := conv_row hb
  go_enter Tryz.func12, Tryz.ntmps12
  go_wp2
  go_ret
  refine ⟨retB ?_, rfl⟩
  rw [Bool.eq_iff_iff, beq_iff_eq, beq_iff_eq]
  exact ⟨fun h => bstr_inj (by rw [← Lib.toList_data, ← Lib.toList_data]; exact h), fun h => by rw [h]⟩
theorem row_one (l : List (BitVec 8)) : ∀ u ∈ l.map (fun y => Value.int .u8 (W8 y)), u.oneCell' = true := by
  intro u hu; obtain ⟨y, _, rfl⟩ := List.mem_map.1 hu; rfl
theorem row_len {w : World} {a : Option Addr} {n c : Nat} {l : List (BitVec 8)} (h : BRow w a n c l) : (l.map fun y => Value.int .u8 (W8 y)).length = n * 1 := by
  rw [List.length_map, h.len_eq, Nat.mul_one]
theorem brow_nil {w : World} {n c : Nat} {l : List (BitVec 8)} (h : BRow w none n c l) : n = 0 ∧ c = 0 ∧ l = [] :=
  ⟨(h.none rfl).1, (h.none rfl).2, List.eq_nil_of_length_eq_zero (by rw [h.len_eq]; exact (h.none rfl).1)⟩
set_option maxHeartbeats 1000000 in
theorem both_ref (a b : Option Addr) (na ca nb cb : Nat) (la lb : List (BitVec 8)) (W w : World) (ha : BRow w a na ca la) (hb : BRow w b nb cb lb) (hs : na + nb ≤ 140737488355328) (hg : New W w) :
    Calls Tryz.prog 29 #[.slice a na ca, .slice b nb cb] w fun e w' =>
      ∃ r cap, e = .returned (.slice r (na + nb) cap) ∧ BRow w' r (na + nb) cap (la ++ lb) ∧ New w w' ∧ New W w' := by
  obtain ⟨i0, hi, hz0, hz1, hz2⟩ := info_parts info_u8
  cases a with
  | none =>
    obtain ⟨rfl, rfl, rfl⟩ := brow_nil ha
    cases b with
    | none =>
      obtain ⟨rfl, rfl, rfl⟩ := brow_nil hb
      go_enter Tryz.func29, Tryz.ntmps29
      go_wp2_with (first | (at_builtin; refine wpList_append_own_none rfl (.tmp 6) (.tmp 7) 29 rfl w.heap.size 5 i0 1 Tryz.underlying29 hi _ 0 [] rfl (World.ownsRow_nil w _ _ 1) rfl ?_) | (at_builtin; refine wpList_append_own_none rfl (.tmp 9) (.tmp 10) 29 rfl w.heap.size 5 i0 1 Tryz.underlying29 hi _ 0 [] rfl (World.ownsRow_nil w _ _ 1) rfl ?_))
      go_ret
      exact ⟨none, 0, rfl, ha, New.refl w, hg⟩
    | some y =>
      go_enter Tryz.func29, Tryz.ntmps29
      go_wp2_with (first | (at_builtin; refine wpList_append_own_none rfl (.tmp 6) (.tmp 7) 29 rfl w.heap.size 5 i0 1 Tryz.underlying29 hi _ 0 [] rfl (World.ownsRow_nil w _ _ 1) rfl ?_) | (at_builtin; refine wpList_append_own _ rfl (.tmp 9) (.tmp 10) 29 rfl w.heap.size 5 i0 (.int .u8 0) 1 1 Tryz.underlying29 hi hz0 hz1 hz2 rfl (by decide) _ 0 [] rfl (World.ownsRow_nil w _ _ 1) y nb cb (lb.map fun y => .int .u8 (W8 y)) rfl (row_len hb) (hb.olds y rfl) (row_one lb) (by unfold maxLen; omega) (by omega) (Nat.le_refl _) ?_; intro v2 w2 how2 hgr2 _))
      obtain ⟨r, cap, rfl, hrow⟩ := BRow.of_owns (l := lb) (by simpa using how2) (by omega)
      go_ret
      exact ⟨r, cap, by rw [Nat.zero_add]; rfl, by rw [Nat.zero_add]; exact hrow, (New.refl w).grown hgr2, hg.grown hgr2⟩
  | some x =>
    cases b with
    | none =>
      obtain ⟨rfl, rfl, rfl⟩ := brow_nil hb
      go_enter Tryz.func29, Tryz.ntmps29
      go_wp2_with (first | (at_builtin; refine wpList_append_own _ rfl (.tmp 6) (.tmp 7) 29 rfl w.heap.size 5 i0 (.int .u8 0) 1 1 Tryz.underlying29 hi hz0 hz1 hz2 rfl (by decide) _ 0 [] rfl (World.ownsRow_nil w _ _ 1) x na ca (la.map fun y => .int .u8 (W8 y)) rfl (row_len ha) (ha.olds x rfl) (row_one la) (by unfold maxLen; omega) (by omega) (Nat.le_refl _) ?_; intro v1 w1 how1 hgr1 _) | (at_builtin; refine wpList_append_own_none rfl (.tmp 9) (.tmp 10) 29 rfl w.heap.size 5 i0 1 Tryz.underlying29 hi _ _ _ rfl how1 rfl ?_))
      obtain ⟨r, cap, rfl, hrow⟩ := BRow.of_owns (l := la) (by simpa using how1) (by omega)
      go_ret
      exact ⟨r, cap, rfl, by rw [List.append_nil]; exact hrow, (New.refl w).grown hgr1, hg.grown hgr1⟩
    | some y =>
      go_enter Tryz.func29, Tryz.ntmps29
      go_wp2_with (first | (at_builtin; refine wpList_append_own _ rfl (.tmp 6) (.tmp 7) 29 rfl w.heap.size 5 i0 (.int .u8 0) 1 1 Tryz.underlying29 hi hz0 hz1 hz2 rfl (by decide) _ 0 [] rfl (World.ownsRow_nil w _ _ 1) x na ca (la.map fun y => .int .u8 (W8 y)) rfl (row_len ha) (ha.olds x rfl) (row_one la) (by unfold maxLen; omega) (by omega) (Nat.le_refl _) ?_; intro v1 w1 how1 hgr1 _; have hn1 : New w w1 := (New.refl w).grown hgr1; have hb1 := hb.stay hn1; have hle1 := hn1.le) | (at_builtin; refine wpList_append_own _ rfl (.tmp 9) (.tmp 10) 29 rfl w.heap.size 5 i0 (.int .u8 0) 1 1 Tryz.underlying29 hi hz0 hz1 hz2 rfl (by decide) _ _ _ rfl how1 y nb cb (lb.map fun y => .int .u8 (W8 y)) rfl (row_len hb) (hb1.olds y rfl) (row_one lb) (by unfold maxLen; omega) (by omega) hle1 ?_; intro v2 w2 how2 hgr2 _))
      have hn2 : New w w2 := hn1.grown' hgr2 (own_base how1)
      obtain ⟨r, cap, rfl, hrow⟩ := BRow.of_owns (l := la ++ lb) (by rw [List.map_append]; simpa using how2) (by omega)
      go_ret
      exact ⟨r, cap, by simp, by simpa using hrow, hn2, hg.trans hn2⟩
end Go.Proofs.YthkmcnlciefnfaaGreat
end
section
/- Layer 16: Sum and Seal, and the document's own. -/
namespace Go.Proofs.YthkmcnlciefnfaaGreat
open Go.RowKit Go.Bv
set_option linter.unusedVariables false
theorem fmix16r (y : BitVec 32) (w : World) : Calls Tryz.prog 54 #[.int .u32 (W32 y)] w fun e w' => e = .returned (.int .u32 (W32 (fmix32 y))) ∧ New w w' := by
  have h := fmix32_ref (W32 y) (b32 _) w
  rw [ofInt_W32] at h
  refine h.mono ?_
  rintro e w' ⟨h1, rfl⟩
  exact ⟨h1, New.refl _⟩
theorem fmix16 (y : BitVec 32) (w : World) : Calls Tryz.prog 49 #[.int .u32 (W32 y)] w fun e w' => e = .returned (.int .u32 (W32 (fmix32 y))) ∧ New w w' := by
  have h := fmix32_any (W32 y) (b32 _) w w (New.refl w)
  rw [ofInt_W32] at h
  exact h
set_option maxRecDepth 100000 in
set_option maxHeartbeats 1000000 in
theorem sum_16 (a : Option Addr) (n c : Nat) (l : List (BitVec 8)) (w : World) (h : BRow w a n c l) :
    Calls Tryz.prog 36 #[.slice a n c] w fun e w' => e = .returned (.int .u32 (W32 (sum16 l))) ∧ New w w' := by
  have hm := h.most
  have hle := h.le
  have hlen := h.len_eq
  have H := Lib.hid h
  have hw32 : BitVec.ofInt 32 (n : Int) = BitVec.ofNat 32 n := by simp
  have hw64 : (BitVec.ofNat 64 n % 4294967296#64).setWidth 32 = BitVec.ofNat 32 n := by
    apply BitVec.eq_of_toNat_eq
    rw [BitVec.toNat_setWidth, BitVec.toNat_umod, BitVec.toNat_ofNat, BitVec.toNat_ofNat, BitVec.toNat_ofNat]
    have e1 : (2 : Nat) ^ 64 = 18446744073709551616 := by decide
    have e2 : (2 : Nat) ^ 32 = 4294967296 := by decide
    rw [e1, e2, show 4294967296 % 18446744073709551616 = 4294967296 by decide]
    omega
  unfold sum16
  rw [hlen]
  obtain ⟨h0, hh0⟩ : ∃ z, BitVec.ofNat 32 n = z := ⟨_, rfl⟩
  rw [hh0] at hw32 hw64 ⊢
  have HLEN := Lib.hid hlen
  clear h hlen
  go_enter Tryz.func36, Tryz.ntmps36
  go_wp2_with fail
  first | rw [hw64] | rw [hw32] | skip
  try clear hw64 hw32 hh0
  go_loopw [3, 11] (fun hv i wr => ∃ k : Nat, k ≤ n ∧ i = .int .i64 (k : Int) ∧ hv = .int .u32 (W32 ((l.take k).foldl stp16 h0)) ∧ New w wr) (fun _ i _ => n - (intOf i).toNat)
  case atStart => exact ⟨0, Nat.zero_le _, rfl, rfl, New.refl w⟩
  case round =>
    obtain ⟨k, hk, rfl, rfl, hn⟩ := hrel
    have HN := Lib.hid hn
    clear hn
    by_cases hlt : (k : Int) < (n : Int)
    · obtain ⟨b, off, rfl, hcell⟩ := (H.out.stay HN.out).addr (by omega)
      have hck := hcell k (by omega)
      have hk0 : (0 : Int) ≤ (k : Int) := by omega
      have hft := fold_tk16 h0 l k (by have := HLEN.out; omega)
      obtain ⟨g0, hg⟩ : ∃ z, (l.take k).foldl stp16 h0 = z := ⟨_, rfl⟩
      rw [hg] at hft ⊢
      unfold stp16 at hft
      obtain ⟨bb, hbb⟩ : ∃ z, l.getD k 0#8 = z := ⟨_, rfl⟩
      rw [show l.getD k 0 = bb from hbb] at hck hft
      have HRB := Lib.hid (fmix16 (g0 ^^^ bb.setWidth 32))
      obtain ⟨rb, hrb⟩ : ∃ z, fmix32 (g0 ^^^ bb.setWidth 32) = z := ⟨_, rfl⟩
      rw [hrb] at HRB hft
      have HFT := Lib.hid hft
      clear hg hbb hrb hft hcell
      go_wp2_with fail
      refine (HRB.out _).mono ?_
      rintro e w9 ⟨rfl, hn⟩
      replace HN := Lib.hid (HN.out.trans hn)
      clear hn
      go_wp2
      exact ⟨⟨k + 1, by omega, by go_num, by unfold stp16; rw [HFT.out], HN.out⟩, by simp [intOf]; omega⟩
    · have hkn : k = n := by omega
      have htt : l.take k = l := List.take_of_length_le (by rw [HLEN.out]; omega)
      rw [htt]
      clear htt
      subst hkn
      obtain ⟨ff, hff⟩ : ∃ z, l.foldl stp16 h0 = z := ⟨_, rfl⟩
      rw [hff]
      have HFF := Lib.hid hff
      clear hff
      go_wp2
      go_ret
      exact ⟨by rw [HFF.out]; rfl, HN.out⟩
set_option maxRecDepth 100000 in
set_option maxHeartbeats 1000000 in
theorem sum_ref16 (a : Option Addr) (n c : Nat) (l : List (BitVec 8)) (w : World) (h : BRow w a n c l) :
    Calls Tryz.prog 47 #[.slice a n c] w fun e w' => e = .returned (.int .u32 (W32 (sum16 l))) ∧ New w w' := by
  have hm := h.most
  have hle := h.le
  have hlen := h.len_eq
  have H := Lib.hid h
  have hw32 : BitVec.ofInt 32 (n : Int) = BitVec.ofNat 32 n := by simp
  have hw64 : (BitVec.ofNat 64 n % 4294967296#64).setWidth 32 = BitVec.ofNat 32 n := by
    apply BitVec.eq_of_toNat_eq
    rw [BitVec.toNat_setWidth, BitVec.toNat_umod, BitVec.toNat_ofNat, BitVec.toNat_ofNat, BitVec.toNat_ofNat]
    have e1 : (2 : Nat) ^ 64 = 18446744073709551616 := by decide
    have e2 : (2 : Nat) ^ 32 = 4294967296 := by decide
    rw [e1, e2, show 4294967296 % 18446744073709551616 = 4294967296 by decide]
    omega
  unfold sum16
  rw [hlen]
  obtain ⟨h0, hh0⟩ : ∃ z, BitVec.ofNat 32 n = z := ⟨_, rfl⟩
  rw [hh0] at hw32 hw64 ⊢
  have HLEN := Lib.hid hlen
  clear h hlen
  go_enter Tryz.func47, Tryz.ntmps47
  go_wp2_with fail
  first | rw [hw64] | rw [hw32] | skip
  try clear hw64 hw32 hh0
  go_loopw [3, 13] (fun hv i wr => ∃ k : Nat, k ≤ n ∧ i = .int .i64 (k : Int) ∧ hv = .int .u32 (W32 ((l.take k).foldl stp16 h0)) ∧ New w wr) (fun _ i _ => n - (intOf i).toNat)
  case atStart => exact ⟨0, Nat.zero_le _, rfl, rfl, New.refl w⟩
  case round =>
    obtain ⟨k, hk, rfl, rfl, hn⟩ := hrel
    have HN := Lib.hid hn
    clear hn
    by_cases hlt : (k : Int) < (n : Int)
    · obtain ⟨b, off, rfl, hcell⟩ := (H.out.stay HN.out).addr (by omega)
      have hck := hcell k (by omega)
      have hk0 : (0 : Int) ≤ (k : Int) := by omega
      have hft := fold_tk16 h0 l k (by have := HLEN.out; omega)
      obtain ⟨g0, hg⟩ : ∃ z, (l.take k).foldl stp16 h0 = z := ⟨_, rfl⟩
      rw [hg] at hft ⊢
      unfold stp16 at hft
      obtain ⟨bb, hbb⟩ : ∃ z, l.getD k 0#8 = z := ⟨_, rfl⟩
      rw [show l.getD k 0 = bb from hbb] at hck hft
      have HRB := Lib.hid (fmix16r (g0 ^^^ bb.setWidth 32))
      obtain ⟨rb, hrb⟩ : ∃ z, fmix32 (g0 ^^^ bb.setWidth 32) = z := ⟨_, rfl⟩
      rw [hrb] at HRB hft
      have HFT := Lib.hid hft
      clear hg hbb hrb hft hcell
      go_wp2_with fail
      refine (HRB.out _).mono ?_
      rintro e w9 ⟨rfl, hn⟩
      replace HN := Lib.hid (HN.out.trans hn)
      clear hn
      go_wp2
      exact ⟨⟨k + 1, by omega, by go_num, by unfold stp16; rw [HFT.out], HN.out⟩, by simp [intOf]; omega⟩
    · have hkn : k = n := by omega
      have htt : l.take k = l := List.take_of_length_le (by rw [HLEN.out]; omega)
      rw [htt]
      clear htt
      subst hkn
      obtain ⟨ff, hff⟩ : ∃ z, l.foldl stp16 h0 = z := ⟨_, rfl⟩
      rw [hff]
      have HFF := Lib.hid hff
      clear hff
      go_wp2
      go_ret
      exact ⟨by rw [HFF.out]; rfl, HN.out⟩
set_option maxHeartbeats 1000000 in
theorem seal_16 (a : Option Addr) (n c : Nat) (l : List (BitVec 8)) (w : World) (h : BRow w a n c l) (hb : n + 4 ≤ 140737488355328) :
    Calls Tryz.prog 20 #[.slice a n c] w fun e w' => ∃ a' c', e = .returned (.slice a' (n + 4 : Nat) c') ∧ BRow w' a' (n + 4) c' (seal16 l) ∧ New w w' := by
  have HS := Lib.hid (sum_16 a n c l w h)
  have HP := Lib.hid (fun w' (hn : New w w') => put32_any a n c l (W32 (sum16 l)) (b32 _) w w' (h.stay hn) hb hn)
  rw [ofInt_W32] at HP
  have e1 : l ++ bytes ((sum16 l).setWidth 64) 4 = seal16 l := rfl
  rw [e1] at HP
  obtain ⟨sl, hs⟩ : ∃ z, seal16 l = z := ⟨_, rfl⟩
  rw [hs] at HP
  rw [hs]
  obtain ⟨sm, hm⟩ : ∃ z, sum16 l = z := ⟨_, rfl⟩
  rw [hm] at HP HS
  clear h e1 hs hm
  go_enter Tryz.func20, Tryz.ntmps20
  go_wp2_with fail
  refine HS.out.mono ?_
  rintro e w9 ⟨rfl, hn⟩
  have HN := Lib.hid hn
  clear hn HS
  go_wp2_with fail
  refine (HP.out _ HN.out).mono ?_
  rintro e w9 ⟨a', c', rfl, hr, hn, hn2⟩
  have HR := Lib.hid hr
  have HN2 := Lib.hid hn2
  clear hr hn hn2 HP HN
  go_wp2
  go_ret
  exact ⟨a', c', rfl, HR.out, HN2.out⟩
set_option maxHeartbeats 1000000 in
theorem seal_ref16 (a : Option Addr) (n c : Nat) (l : List (BitVec 8)) (w : World) (h : BRow w a n c l) (hb : n + 4 ≤ 140737488355328) :
    Calls Tryz.prog 31 #[.slice a n c] w fun e w' => ∃ a' c', e = .returned (.slice a' (n + 4 : Nat) c') ∧ BRow w' a' (n + 4) c' (seal16 l) ∧ New w w' := by
  have HS := Lib.hid (sum_ref16 a n c l w h)
  have HP := Lib.hid (fun w' (hn : New w w') => bytes_ref (W64 ((sum16 l).setWidth 64)) (b64 _) 4 (by omega) w w' hn)
  rw [ofInt_W64] at HP
  have HB := Lib.hid (fun w' (hn : New w w') b c2 (hr : BRow w' b 4 c2 (bytes ((sum16 l).setWidth 64) 4)) => both_ref a b n c 4 c2 l _ w w' (h.stay hn) hr hb hn)
  have e1 : l ++ bytes ((sum16 l).setWidth 64) 4 = seal16 l := rfl
  rw [e1] at HB
  obtain ⟨sl, hs⟩ : ∃ z, seal16 l = z := ⟨_, rfl⟩
  rw [hs] at HB
  rw [hs]
  obtain ⟨sm, hm⟩ : ∃ z, sum16 l = z := ⟨_, rfl⟩
  rw [hm] at HP HS HB
  clear h e1 hs hm
  go_enter Tryz.func31, Tryz.ntmps31
  go_wp2_with fail
  refine HS.out.mono ?_
  rintro e w9 ⟨rfl, hn⟩
  have HN := Lib.hid hn
  clear hn HS
  go_wp2_with fail
  refine (HP.out _ HN.out).mono ?_
  rintro e w9 ⟨b, c2, rfl, hr, hn, hn2⟩
  have HR := Lib.hid hr
  have HN2 := Lib.hid hn2
  clear hr hn hn2 HP HN
  go_wp2_with fail
  refine (HB.out _ HN2.out _ _ HR.out).mono ?_
  rintro e w9 ⟨a', c', rfl, hr, hn, hn2⟩
  have HR3 := Lib.hid hr
  have HN3 := Lib.hid hn2
  clear hr hn hn2 HB HN2 HR
  go_wp2
  go_ret
  exact ⟨a', c', rfl, HR3.out, HN3.out⟩
end Go.Proofs.YthkmcnlciefnfaaGreat
end
section
/- slices.Clone of words. -/
namespace Go.Proofs.YthkmcnlciefnfaaGreat
open Go Go.RowKit Go.Bv
set_option linter.unusedVariables false
end Go.Proofs.YthkmcnlciefnfaaGreat
end
section
/- Contract of the document's own Words: whether two lists of words are alike. -/
namespace Go.Proofs.YthkmcnlciefnfaaGreat
open Go.RowKit Go.Bv
set_option linter.unusedVariables false
end Go.Proofs.YthkmcnlciefnfaaGreat
end
section
/- A seed that came in: its datum opened. -/
namespace Go.Proofs.YthkmcnlciefnfaaGreat
open Go Go.RowKit Go.Bv Go.Deep Go.ChangeShapes
set_option linter.unusedVariables false
set_option maxRecDepth 100000
section
variable {H : Type} {enc : TypeId × Value → H} {P : Program} {w : World} {base : Nat} {held : Bool}
end
end Go.Proofs.YthkmcnlciefnfaaGreat
end
section
/- A config that came in: its datum opened. -/
namespace Go.Proofs.YthkmcnlciefnfaaGreat
open Go Go.RowKit Go.Bv Go.Deep Go.ChangeShapes
set_option linter.unusedVariables false
set_option maxRecDepth 100000
section
variable {H : Type} {enc : TypeId × Value → H} {P : Program} {w : World} {base : Nat} {held : Bool}
end
end Go.Proofs.YthkmcnlciefnfaaGreat
end
