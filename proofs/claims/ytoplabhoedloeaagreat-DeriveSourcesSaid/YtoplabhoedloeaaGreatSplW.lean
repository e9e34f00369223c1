/- Contracts of mix.Split, of split.Next and split.Words, and of the document's own Split, Out and Words. -/
import Derived.Test.YtoplabhoedloeaaGreatMixA
import Derived.Test.YtoplabhoedloeaaGreatMixM
import Derived.Test.YtoplabhoedloeaaGreatRowQ
import Derived.Deep.OwnRows
import Derived.OneCell
namespace Go.Proofs.YtoplabhoedloeaaGreat
open Go.RowKit Go.Bv
set_option linter.unusedVariables false
theorem sh_eq (n : Int) (h : 1 ≤ n ∧ n ≤ 63) : sh n = n.toNat := by unfold sh; congr 1; omega
set_option maxHeartbeats 400000 in
theorem split1 : Step64 123 (fun x => F 30 (BitVec.ofInt 64 x)) := by
  intro x w hx
  obtain ⟨x, rfl⟩ := ex64 x hx
  simp only [ofInt_W64]
  go_enter Tryz.func123, Tryz.ntmps123
  go_wp2_with (first | (go_at_call 124; refine (fold_any _ _ (b64 _) _).mono ?_; rintro e w' ⟨rfl, rfl⟩))
  go_ret
  exact ⟨ret64 rfl, rfl⟩
set_option maxHeartbeats 400000 in
theorem split2 : Step64 125 (fun x => BitVec.ofInt 64 x * C1) := by
  intro x w hx
  obtain ⟨x, rfl⟩ := ex64 x hx
  simp only [ofInt_W64]
  go_enter Tryz.func125, Tryz.ntmps125
  go_wp2_with (first | fail)
  go_ret
  exact ⟨ret64 rfl, rfl⟩
set_option maxHeartbeats 400000 in
theorem split3 : Step64 126 (fun x => F 27 (BitVec.ofInt 64 x)) := by
  intro x w hx
  obtain ⟨x, rfl⟩ := ex64 x hx
  simp only [ofInt_W64]
  go_enter Tryz.func126, Tryz.ntmps126
  go_wp2_with (first | (go_at_call 124; refine (fold_any _ _ (b64 _) _).mono ?_; rintro e w' ⟨rfl, rfl⟩))
  go_ret
  exact ⟨ret64 rfl, rfl⟩
set_option maxHeartbeats 400000 in
theorem split4 : Step64 127 (fun x => BitVec.ofInt 64 x * C2) := by
  intro x w hx
  obtain ⟨x, rfl⟩ := ex64 x hx
  simp only [ofInt_W64]
  go_enter Tryz.func127, Tryz.ntmps127
  go_wp2_with (first | fail)
  go_ret
  exact ⟨ret64 rfl, rfl⟩
set_option maxHeartbeats 400000 in
theorem split5 : Step64 128 (fun x => F 31 (BitVec.ofInt 64 x)) := by
  intro x w hx
  obtain ⟨x, rfl⟩ := ex64 x hx
  simp only [ofInt_W64]
  go_enter Tryz.func128, Tryz.ntmps128
  go_wp2_with (first | (go_at_call 124; refine (fold_any _ _ (b64 _) _).mono ?_; rintro e w' ⟨rfl, rfl⟩))
  go_ret
  exact ⟨ret64 rfl, rfl⟩
set_option maxHeartbeats 400000 in
theorem split_any (z : Int) (hz : 0 ≤ z ∧ z < 18446744073709551616) (W w : World) (hg : New W w) :
    Calls Tryz.prog 93 #[.int .u64 z] w fun e w' => e = .returned (.int .u64 (W64 (split (BitVec.ofInt 64 z)))) ∧ New W w' := by
  obtain ⟨z, rfl⟩ := ex64 z hz
  simp only [ofInt_W64]
  go_enter Tryz.func93, Tryz.ntmps93
  go_wp2_with fail
  refine (run_any _ _ _ _ _ _ _ _ _ _ split1 split2 split3 split4 split5 (fun _ _ => by go_simp) (fun _ _ => by go_simp) (fun _ _ => by go_simp) (fun _ _ => by go_simp) (fun _ _ => by go_simp) _ (b64 _) W _ hg).mono ?_
  rintro e w' ⟨rfl, hg⟩
  go_wp2
  go_ret
  exact ⟨ret64 (by simp only [chain, ofInt_W64]; rfl), hg⟩
theorem N64_cast (k : Nat) (h : k < 18446744073709551616) : N64 (BitVec.ofNat 64 k) = k := by
  unfold N64; rw [BitVec.toNat_ofNat, Nat.mod_eq_of_lt (by omega)]
theorem N64_sum (k : Nat) (c : Int) (d : BitVec 64) (hd : d = BitVec.ofInt 64 c) (h0 : 0 ≤ c) (h : (k : Int) + c < 18446744073709551616) : N64 (BitVec.ofNat 64 k + d) = k + c.toNat := by
  rw [hd, ← BitVec.ofInt_natCast, ← BitVec.ofInt_add, show (k : Int) + c = ((k + c.toNat : Nat) : Int) by omega, BitVec.ofInt_natCast]; exact N64_cast _ (by omega)
theorem bit_toNat (z : BitVec 64) (k : Nat) : (z >>> k % 2#64).toNat = (z.getLsbD k).toNat := by
  rw [BitVec.toNat_umod, BitVec.toNat_ushiftRight, Nat.shiftRight_eq_div_pow, BitVec.getLsbD, Nat.toNat_testBit]; rfl
theorem fold_bit1 (z : BitVec 64) (c k : Nat) (h : 64 ≤ c + k) : ((z >>> k % 2#64) % 2#64).toNat = ((F c z).getLsbD k).toNat := by
  rw [BitVec.toNat_umod, bit_toNat, F, BitVec.getLsbD_xor, BitVec.getLsbD_ushiftRight, BitVec.getLsbD_of_ge z (c + k) h]
  cases z.getLsbD k <;> rfl
theorem fold_bit2 (z : BitVec 64) (c k j : Nat) (h : j = c + k) : ((z >>> k % 2#64 + z >>> j % 2#64) % 2#64).toNat = ((F c z).getLsbD k).toNat := by
  rw [BitVec.toNat_umod, BitVec.toNat_add, bit_toNat, bit_toNat, F, BitVec.getLsbD_xor, BitVec.getLsbD_ushiftRight, h]
  cases z.getLsbD k <;> cases z.getLsbD (c + k) <;> rfl
theorem fold_put (y out b : BitVec 64) (k : Nat) (hk : k < 64) (ho : out.toNat = y.toNat % 2 ^ k) (hb : (b % 2#64).toNat = (y.getLsbD k).toNat) :
    (out + (b % 2#64) <<< k).toNat = y.toNat % 2 ^ (k + 1) := by
  have h1 : (2 : Nat) ^ (k + 1) ≤ 2 ^ 64 := Nat.pow_le_pow_right (by omega) (by omega)
  have h2 := Nat.mod_lt y.toNat (Nat.two_pow_pos k)
  have h3 : (y.getLsbD k).toNat ≤ 1 := by cases y.getLsbD k <;> decide
  have h4 : (y.getLsbD k).toNat * 2 ^ k ≤ 1 * 2 ^ k := Nat.mul_le_mul_right _ h3
  have h5 : (2 : Nat) ^ (k + 1) = 2 ^ k * 2 := Nat.pow_succ 2 k
  have h6 : y.toNat / 2 ^ k % 2 = (y.getLsbD k).toNat := by rw [BitVec.getLsbD, Nat.toNat_testBit]
  rw [BitVec.toNat_add, BitVec.toNat_shiftLeft, Nat.shiftLeft_eq, hb, ho, Nat.mod_eq_of_lt (a := (y.getLsbD k).toNat * 2 ^ k) (by omega), Nat.mod_eq_of_lt (by omega), Nat.mod_pow_succ, h6, Nat.mul_comm]
set_option maxHeartbeats 1000000 in
theorem fold_ref (z n : Int) (hz : 0 ≤ z ∧ z < 18446744073709551616) (w : World) :
    Calls Tryz.prog 115 #[.int .u64 z, .int .i64 n] w fun e w' => e = .returned (.int .u64 (W64 (F (sh n) (BitVec.ofInt 64 z)))) ∧ w' = w := by
  obtain ⟨z, rfl⟩ := ex64 z hz
  rw [ofInt_W64]
  by_cases c1 : n < 1
  · have hs : (sh n : Int) = 1 := by unfold sh; omega
    go_enter Tryz.func115, Tryz.ntmps115
    go_wp2
    go_loop [5, 6, 7] (fun t i b => ∃ (k : Nat) (o : BitVec 64), k ≤ 64 ∧ i = .int .i64 k ∧ t = .int .u64 (W64 o) ∧ Hid (o.toNat = (F (sh n) z).toNat % 2 ^ k)) (fun _ i _ => 64 - (intOf i).toNat)
    case atStart => exact ⟨0, 0#64, by omega, rfl, rfl, Lib.hid (by simp [Nat.mod_one])⟩
    case round =>
      obtain ⟨k, o, hk, rfl, rfl, H⟩ := hrel
      by_cases hlt : (k : Int) < 64
      · have hN : N64 (BitVec.ofNat 64 k) = k := N64_cast k (by omega)
        by_cases hlt2 : (k : Int) + 1 < 64
        · have hM : N64 (BitVec.ofNat 64 k + 1#64) = k + sh n := by
            rw [N64_sum k 1 1#64 rfl (by omega) (by omega)]; omega
          have hb := fold_put (F (sh n) z) o (z >>> k % 2#64 + z >>> (k + sh n) % 2#64) k (by omega) H.out (fold_bit2 z (sh n) k (k + sh n) (by omega))
          have HM := Lib.hid hM
          have HN := Lib.hid hN
          have HB := Lib.hid hb
          clear hM hN hb
          go_wp2
          exact ⟨⟨k + 1, _, by omega, by go_num, rfl, Lib.hid (by rw [HM.out, HN.out]; exact HB.out)⟩, by simp [intOf]; omega⟩
        · have hb := fold_put (F (sh n) z) o (z >>> k % 2#64) k (by omega) H.out (fold_bit1 z (sh n) k (by omega))
          have HN := Lib.hid hN
          have HB := Lib.hid hb
          clear hN hb
          go_wp2
          exact ⟨⟨k + 1, _, by omega, by go_num, rfl, Lib.hid (by rw [HN.out]; exact HB.out)⟩, by simp [intOf]; omega⟩
      · go_wp2
        go_ret
        refine ⟨ret64 (BitVec.eq_of_toNat_eq ?_), rfl⟩
        obtain rfl : k = 64 := by omega
        rw [H.out, Nat.mod_eq_of_lt (F (sh n) z).isLt]
  by_cases c2 : 63 < n
  · have hs : (sh n : Int) = 63 := by unfold sh; omega
    go_enter Tryz.func115, Tryz.ntmps115
    go_wp2
    go_loop [5, 6, 7] (fun t i b => ∃ (k : Nat) (o : BitVec 64), k ≤ 64 ∧ i = .int .i64 k ∧ t = .int .u64 (W64 o) ∧ Hid (o.toNat = (F (sh n) z).toNat % 2 ^ k)) (fun _ i _ => 64 - (intOf i).toNat)
    case atStart => exact ⟨0, 0#64, by omega, rfl, rfl, Lib.hid (by simp [Nat.mod_one])⟩
    case round =>
      obtain ⟨k, o, hk, rfl, rfl, H⟩ := hrel
      by_cases hlt : (k : Int) < 64
      · have hN : N64 (BitVec.ofNat 64 k) = k := N64_cast k (by omega)
        by_cases hlt2 : (k : Int) + 63 < 64
        · have hM : N64 (BitVec.ofNat 64 k + 63#64) = k + sh n := by
            rw [N64_sum k 63 63#64 rfl (by omega) (by omega)]; omega
          have hb := fold_put (F (sh n) z) o (z >>> k % 2#64 + z >>> (k + sh n) % 2#64) k (by omega) H.out (fold_bit2 z (sh n) k (k + sh n) (by omega))
          have HM := Lib.hid hM
          have HN := Lib.hid hN
          have HB := Lib.hid hb
          clear hM hN hb
          go_wp2
          exact ⟨⟨k + 1, _, by omega, by go_num, rfl, Lib.hid (by rw [HM.out, HN.out]; exact HB.out)⟩, by simp [intOf]; omega⟩
        · have hb := fold_put (F (sh n) z) o (z >>> k % 2#64) k (by omega) H.out (fold_bit1 z (sh n) k (by omega))
          have HN := Lib.hid hN
          have HB := Lib.hid hb
          clear hN hb
          go_wp2
          exact ⟨⟨k + 1, _, by omega, by go_num, rfl, Lib.hid (by rw [HN.out]; exact HB.out)⟩, by simp [intOf]; omega⟩
      · go_wp2
        go_ret
        refine ⟨ret64 (BitVec.eq_of_toNat_eq ?_), rfl⟩
        obtain rfl : k = 64 := by omega
        rw [H.out, Nat.mod_eq_of_lt (F (sh n) z).isLt]
  · have hs : (sh n : Int) = n := by unfold sh; omega
    have hs2 := Lib.hid hs
    clear hs
    go_enter Tryz.func115, Tryz.ntmps115
    go_wp2
    go_loop [5, 6, 7] (fun t i b => ∃ (k : Nat) (o : BitVec 64), k ≤ 64 ∧ i = .int .i64 k ∧ t = .int .u64 (W64 o) ∧ Hid (o.toNat = (F (sh n) z).toNat % 2 ^ k)) (fun _ i _ => 64 - (intOf i).toNat)
    case atStart => exact ⟨0, 0#64, by omega, rfl, rfl, Lib.hid (by simp [Nat.mod_one])⟩
    case round =>
      obtain ⟨k, o, hk, rfl, rfl, H⟩ := hrel
      by_cases hlt : (k : Int) < 64
      · have hN : N64 (BitVec.ofNat 64 k) = k := N64_cast k (by omega)
        by_cases hlt2 : (k : Int) + n < 64
        · have hM : N64 (BitVec.ofNat 64 k + BitVec.ofInt 64 n) = k + sh n := by
            have hs := hs2.out; rw [N64_sum k n _ rfl (by omega) (by omega)]; omega
          have hb := fold_put (F (sh n) z) o (z >>> k % 2#64 + z >>> (k + sh n) % 2#64) k (by omega) H.out (fold_bit2 z (sh n) k (k + sh n) (by omega))
          have HM := Lib.hid hM
          have HN := Lib.hid hN
          have HB := Lib.hid hb
          clear hM hN hb
          go_wp2
          exact ⟨⟨k + 1, _, by omega, by go_num, rfl, Lib.hid (by rw [HM.out, HN.out]; exact HB.out)⟩, by simp [intOf]; omega⟩
        · have hb := fold_put (F (sh n) z) o (z >>> k % 2#64) k (by omega) H.out (fold_bit1 z (sh n) k (by have hs := hs2.out; omega))
          have HN := Lib.hid hN
          have HB := Lib.hid hb
          clear hN hb
          go_wp2
          exact ⟨⟨k + 1, _, by omega, by go_num, rfl, Lib.hid (by rw [HN.out]; exact HB.out)⟩, by simp [intOf]; omega⟩
      · go_wp2
        go_ret
        refine ⟨ret64 (BitVec.eq_of_toNat_eq ?_), rfl⟩
        obtain rfl : k = 64 := by omega
        rw [H.out, Nat.mod_eq_of_lt (F (sh n) z).isLt]
set_option maxHeartbeats 400000 in
theorem split_ref (z : Int) (hz : 0 ≤ z ∧ z < 18446744073709551616) (w : World) :
    Calls Tryz.prog 80 #[.int .u64 z] w fun e w' => e = .returned (.int .u64 (W64 (split (BitVec.ofInt 64 z)))) ∧ w' = w := by
  obtain ⟨z, rfl⟩ := ex64 z hz
  rw [ofInt_W64]
  go_enter Tryz.func80, Tryz.ntmps80
  go_wp2_with (go_at_call 115; refine (fold_ref _ _ (b64 _) _).mono ?_; rintro e w' ⟨rfl, rfl⟩)
  go_ret
  exact ⟨ret64 rfl, rfl⟩
def Gm : BitVec 64 := 0x9e3779b97f4a7c15#64
set_option maxHeartbeats 400000 in
theorem next_any (s : Int) (W w : World) (hg : New W w) :
    Calls Tryz.prog 39 #[.int .u64 s] w fun e w' => e = .returned (.tuple #[.int .u64 (W64 (split (BitVec.ofInt 64 s + Gm))), .int .u64 (W64 (BitVec.ofInt 64 s + Gm))]) ∧ New W w' := by
  go_enter Tryz.func39, Tryz.ntmps39
  go_wp2_with (first | (go_at_call 93; refine (split_any _ (b64 _) _ _ hg).mono ?_; clear hg; rintro e w' ⟨rfl, hg⟩))
  go_ret2
  exact ⟨rfl, hg⟩
set_option maxHeartbeats 400000 in
theorem out8_ref (s : Int) (n : Int) (w : World) :
    Calls Tryz.prog 27 #[.int .u64 s, .int .u64 n] w fun e w' => e = .returned (.int .u64 (W64 (split (BitVec.ofInt 64 s + BitVec.ofInt 64 n * Gm)))) ∧ w' = w := by
  go_enter Tryz.func27, Tryz.ntmps27
  go_wp2_with (first | (go_at_call 80; refine (split_ref _ (b64 _) _).mono ?_; rintro e w' ⟨rfl, rfl⟩))
  go_ret
  exact ⟨ret64 rfl, rfl⟩
theorem info8_u64 : (Tryz.prog.info? 22).map (fun i => (i.zero, i.size, i.bytes)) = some (some (.int .u64 0), 1, 8) := by kernel_rfl
/-- what so many steps tell -/
def told8 (s : BitVec 64) (m : Nat) : List (BitVec 64) := (List.range m).map fun i => split (s + BitVec.ofNat 64 (i + 1) * Gm)
theorem told8_len (s : BitVec 64) (m : Nat) : (told8 s m).length = m := by simp [told8]
theorem told8_at (s : BitVec 64) (m i : Nat) (h : i < m) : (told8 s m).getD i 0 = split (s + BitVec.ofNat 64 (i + 1) * Gm) := by
  unfold told8; rw [List.getD_eq_getElem?_getD, List.getElem?_map, List.getElem?_range h]; rfl
theorem told8_succ (s : BitVec 64) (m : Nat) : told8 s (m + 1) = told8 s m ++ [split (s + BitVec.ofNat 64 (m + 1) * Gm)] := by
  unfold told8; rw [List.range_succ, List.map_append]; rfl
theorem gm_next (s : BitVec 64) (k : Nat) : s + BitVec.ofNat 64 k * Gm + Gm = s + BitVec.ofNat 64 (k + 1) * Gm := by
  rw [show BitVec.ofNat 64 (k + 1) = BitVec.ofNat 64 k + 1#64 from by rw [BitVec.ofNat_add]]; grind
set_option maxHeartbeats 400000 in
theorem source1_any (b : Nat) (s : BitVec 64) (t : TypeId) (w : World) (hb : w.heap[b]? = some (.cells #[.int .u64 (W64 s)] t (0, 0))) :
    Calls Tryz.prog 143 #[.pointer (some ⟨b, 0, none⟩)] w fun e w' => ∃ w1, e = .returned (.int .u64 (W64 (split (s + Gm)))) ∧ New w w1 ∧ w' = w1.setCell ⟨b, 0, none⟩ (.int .u64 (W64 (s + Gm))) := by
  have hc := cell_of_one hb
  have hf := free_of_one hb
  go_enter Tryz.func143, Tryz.ntmps143
  go_wp2_with fail
  refine (next_any _ w w (New.refl w)).mono ?_
  rintro e w1 ⟨rfl, hn⟩
  have hf1 : w1.frozen? ⟨b, 0, none⟩ = false := by rw [hn.frozen (a := ⟨b, 0, none⟩) (lt_of_block hb)]; exact hf
  have hc1 : w1.cell? ⟨b, 0, none⟩ = some (.int .u64 (W64 s)) := by rw [hn.cell (a := ⟨b, 0, none⟩) (lt_of_block hb)]; exact hc
  rw [ofInt_W64]
  go_wp2
  go_ret
  exact ⟨w1, rfl, hn, rfl⟩
set_option maxHeartbeats 400000 in
theorem source_any (s : Int) (w : World) :
    Calls Tryz.prog 101 #[.int .u64 s] w fun e w' => e = .returned (.func (.func 143) #[] #[.pointer (some ⟨w.heap.size, 0, none⟩)]) ∧ w' = w.alloc (.cells #[.int .u64 s] 22) := by
  go_enter Tryz.func101, Tryz.ntmps101
  go_wp2
  go_ret
  exact ⟨rfl, rfl⟩
theorem made64 (m : Nat) (f : Nat → BitVec 64) : (madeCells #[Value.int .u64 0] m).size = m ∧ ∀ j, j < m → (madeCells #[Value.int .u64 0] m)[j]? = some (.int .u64 (W64 (if j < 0 then f j else 0#64))) := by
  refine ⟨size_madeCells _ _, fun j hj => ?_⟩
  rw [if_neg (by omega), ← Array.getElem?_toList, toList_madeCells_one, List.getElem?_replicate, if_pos hj]
  rfl
set_option maxHeartbeats 1000000 in
theorem words_at (s n : Int) (m : Nat) (hm : m ≤ 4096) (hnm : (n < 0 ∧ m = 0) ∨ n = (m : Int)) (hs : 0 ≤ s ∧ s < 18446744073709551616) (W w : World) (hg : New W w) :
    Calls Tryz.prog 66 #[.int .u64 s, .int .i64 n] w fun e w' =>
      ∃ a cap, e = .returned (.slice a m cap) ∧ QRow w' a m cap (told8 (BitVec.ofInt 64 s) m) ∧ New w w' ∧ New W w' := by
  obtain ⟨s, rfl⟩ := ex64 s hs
  rw [ofInt_W64]
  obtain ⟨i0, hi, hz0, hz1, hz2⟩ := info_parts info8_u64
  have hmk := run_make_row (P := Tryz.prog) 54 22 i0 (.int .u64 0) Tryz.underlying54 hi hz0 hz1 rfl .i64 .i64 m (by rw [hz2]; omega) (by omega) (w.alloc (.cells #[.int .u64 (W64 s)] 22))
  have hsz : (w.alloc (.cells #[.int .u64 (W64 s)] 22)).heap.size = w.heap.size + 1 := by simp
  have HM := Lib.hid (made64 m (fun i => (told8 s m).getD i 0))
  rcases hnm with ⟨hn, rfl⟩ | rfl
  · have hmk0 : (Instr.makeSlice 54 (.int .i64 0) (.int .i64 0)).run Tryz.prog (w.alloc (.cells #[.int .u64 (W64 s)] 22)) = .ok (.slice (some ⟨w.heap.size + 1, 0, none⟩) 0 0) ((w.alloc (.cells #[.int .u64 (W64 s)] 22)).alloc (.cells (madeCells #[.int .u64 0] 0) 22)) := by rw [← hsz]; exact hmk
    clear hmk hsz
    have hn2 : ¬ (0 : Int) < n := by omega
    go_enter Tryz.func66, Tryz.ntmps66
    go_wp2_with (go_at_call 101; refine (source_any _ _).mono ?_; rintro e w' ⟨rfl, rfl⟩)
    go_loopw [16] (fun i wr => i = .int .i64 0 ∧ New w wr) (fun i _ => 0)
    case atStart => exact ⟨rfl, ((New.refl w).alloc _).alloc _⟩
    case round =>
      obtain ⟨rfl, hn⟩ := hrel
      go_wp2
      go_ret
      exact ⟨_, _, rfl, ⟨by simp [told8], by omega, by omega, by omega, (fun e => by cases e), (fun b off e i h => by omega), (fun x e h => by omega), (fun x e h => by omega)⟩, hn, hg.trans hn⟩
  · have hmk0 : (Instr.makeSlice 54 (.int .i64 m) (.int .i64 m)).run Tryz.prog (w.alloc (.cells #[.int .u64 (W64 s)] 22)) = .ok (.slice (some ⟨w.heap.size + 1, 0, none⟩) m m) ((w.alloc (.cells #[.int .u64 (W64 s)] 22)).alloc (.cells (madeCells #[.int .u64 0] m) 22)) := by rw [← hsz]; exact hmk
    clear hmk hsz
    have h4096 : ¬ (4096 : Int) < m := by omega
    have h0 : ¬ (m : Int) < 0 := by omega
    go_enter Tryz.func66, Tryz.ntmps66
    go_wp2_with (go_at_call 101; refine (source_any _ _).mono ?_; rintro e w' ⟨rfl, rfl⟩)
    go_loopw [16] (fun i wr => ∃ (k : Nat) (cs : Array Value), k ≤ m ∧ i = .int .i64 k ∧ wr.heap[w.heap.size]? = some (.cells #[.int .u64 (W64 (s + BitVec.ofNat 64 k * Gm))] 22 (0, 0)) ∧ wr.heap[w.heap.size + 1]? = some (.cells cs 22 (0, 0)) ∧ Hid (cs.size = m ∧ ∀ j, j < m → cs[j]? = some (.int .u64 (W64 (if j < k then (told8 s m).getD j 0 else 0#64)))) ∧ New w wr) (fun i _ => m - (intOf i).toNat)
    case atStart => exact ⟨0, _, by omega, rfl, by rw [heap_alloc2_old]; simp, heap_alloc2_new _ _ _, HM, ((New.refl w).alloc _).alloc _⟩
    case round =>
      obtain ⟨k, cs, hk, rfl, hb0, hb1, H, hn⟩ := hrel
      by_cases hlt : (k : Int) < m
      · go_wp2_with fail
        refine (source1_any w.heap.size _ _ wr hb0).mono ?_
        rintro e w' ⟨w2, rfl, hn2, rfl⟩
        have hlt0 := lt_of_block hb0
        have hlt1 := lt_of_block hb1
        have hb0' : w2.heap[w.heap.size]? = some (.cells #[.int .u64 (W64 (s + BitVec.ofNat 64 k * Gm))] 22 (0, 0)) := by rw [hn2.block _ hlt0]; exact hb0
        have hb1' : w2.heap[w.heap.size + 1]? = some (.cells cs 22 (0, 0)) := by rw [hn2.block _ hlt1]; exact hb1
        have hc0 := one_setCell (u := .int .u64 (W64 (s + BitVec.ofNat 64 k * Gm + Gm))) hb0'
        have hc1 : (w2.setCell ⟨w.heap.size, 0, none⟩ (.int .u64 (W64 (s + BitVec.ofNat 64 k * Gm + Gm)))).heap[w.heap.size + 1]? = some (.cells cs 22 (0, 0)) := by
          rw [heap_setCell_other _ _ _ _ (by show w.heap.size + 1 ≠ w.heap.size; omega)]; exact hb1'
        have hn3 : New w (w2.setCell ⟨w.heap.size, 0, none⟩ (.int .u64 (W64 (s + BitVec.ofNat 64 k * Gm + Gm)))) := (hn.trans hn2).setCell (Nat.le_refl _) _
        clear hb0' hb1' hn2 hb0 hb1 hn
        generalize w2.setCell ⟨w.heap.size, 0, none⟩ (.int .u64 (W64 (s + BitVec.ofNat 64 k * Gm + Gm))) = w3 at *
        rw [gm_next] at hc0 ⊢
        have hcell : w3.cell? ⟨w.heap.size + 1, k, none⟩ = some (.int .u64 (W64 (if k < k then (told8 s m).getD k 0 else 0#64))) := by
          rw [cell_of_row _ _ _ _ _ _ hc1]; exact H.out.2 k (by omega)
        have hfree := frozen_of_row w3 (w.heap.size + 1) k cs _ hc1
        have hd := heap_setCell_same w3 (w.heap.size + 1) k cs _ (.int .u64 (W64 (split (s + BitVec.ofNat 64 (k + 1) * Gm)))) hc1
        have he : (w3.setCell ⟨w.heap.size + 1, k, none⟩ (.int .u64 (W64 (split (s + BitVec.ofNat 64 (k + 1) * Gm))))).heap[w.heap.size]? = some (.cells #[.int .u64 (W64 (s + BitVec.ofNat 64 (k + 1) * Gm))] 22 (0, 0)) := by
          rw [heap_setCell_other _ _ _ _ (by show w.heap.size ≠ w.heap.size + 1; omega)]; exact hc0
        have HE := Lib.hid he
        have HD := Lib.hid hd
        clear hd he hc0 hc1
        go_wp2
        refine ⟨⟨k + 1, _, by omega, by go_num, HE.out, HD.out, Lib.hid ⟨by rw [Array.size_setIfInBounds]; exact H.out.1, ?_⟩, hn3.setCell (by show _ ≤ w.heap.size + 1; omega) _⟩, by simp [intOf]; omega⟩
        intro j hj
        have hs := H.out.1
        rw [Array.getElem?_setIfInBounds]
        by_cases e : k = j
        · subst e
          rw [if_pos rfl, if_pos (by omega), if_pos (by omega), told8_at _ _ _ hj]
        · rw [if_neg e, H.out.2 j hj]
          refine congrArg (fun d => some (Value.int .u64 (W64 d))) ?_
          by_cases e2 : j < k
          · rw [if_pos e2, if_pos (by omega)]
          · rw [if_neg e2, if_neg (by omega)]
      · obtain rfl : k = m := by omega
        go_wp2
        go_ret
        refine ⟨_, _, rfl, ⟨told8_len _ _, Nat.le_refl _, by omega, by omega, (fun e => by cases e), ?_, ?_, ?_⟩, hn, hg.trans hn⟩
        · intro b off e i hi
          cases e
          rw [Nat.zero_add, cell_of_row _ _ _ _ _ _ hb1, H.out.2 i hi, if_pos hi]
        · intro x e h; cases e; rfl
        · intro x e h; cases e; exact lt_of_block hb1
theorem new_cells8 (w : World) (cs : Array Value) (t : TypeId) : ∀ j u, cs.toList[j]? = some u → (w.alloc (.cells cs t)).cell? ((⟨w.heap.size, 0, none⟩ : Addr).add j) = some u := by
  intro j u h
  rw [add_plain, Nat.zero_add, World.cell?_alloc_new]
  simpa using h
set_option maxHeartbeats 1000000 in
theorem words8_ref (s : Int) (n : Int) (m : Nat) (hm : m ≤ 4096) (hnm : (n < 0 ∧ m = 0) ∨ n = (m : Int)) (hs : 0 ≤ s ∧ s < 18446744073709551616) (W w : World) (hg : New W w) :
    Calls Tryz.prog 15 #[.int .u64 s, .int .i64 n] w fun e w' =>
      ∃ a cap, e = .returned (.slice a m cap) ∧ QRow w' a m cap (told8 (BitVec.ofInt 64 s) m) ∧ New w w' ∧ New W w' := by
  obtain ⟨s, rfl⟩ := ex64 s hs
  obtain ⟨i0, hi, hz0, hz1, hz2⟩ := info_parts info8_u64
  rw [ofInt_W64]
  go_enter Tryz.func15, Tryz.ntmps15
  go_wp2
  go_loopw [5, 6] (fun v i wr => ∃ k : Nat, k ≤ m ∧ i = .int .i64 k ∧ wr.ownsRow w.heap.size 22 1 v k ((told8 s k).map fun y => .int .u64 (W64 y)) ∧ New w wr) (fun _ i _ => m - (intOf i).toNat)
  case atStart => exact ⟨0, by omega, rfl, World.ownsRow_nil w _ _ 1, New.refl w⟩
  case round =>
    obtain ⟨k, hk, rfl, hown, hnew⟩ := hrel
    by_cases hlt : (k : Int) < n
    · have hlt2 : (k : Int) < 4096 := by omega
      go_wp2_with fail
      refine (out8_ref _ _ _).mono ?_
      rintro e w' ⟨rfl, rfl⟩
      rw [ofInt_W64, ofInt_W64]
      go_wp2_with (at_builtin; refine wpList_append_own _ rfl _ _ 54 rfl w.heap.size 22 i0 (.int .u64 0) 1 8 Tryz.underlying54 hi hz0 hz1 hz2 rfl (by decide) _ k _ rfl (hown.alloc _) ⟨w'.heap.size, 0, none⟩ 1 1 [.int .u64 (W64 (split (s + (BitVec.ofNat 64 k + 1#64) * Gm)))] rfl rfl ?c1 ?c2 ?c3 ?c4 ?c5 ?_)
      case c1 => exact new_cells8 w' _ _
      case c2 => intro u hu; simp at hu; subst hu; rfl
      case c3 => unfold maxLen; omega
      case c4 => omega
      case c5 => simp; have := hnew.le; omega
      intro v' w1 how hgr _
      have how2 : w1.ownsRow w.heap.size 22 1 v' (k + 1) ((told8 s (k + 1)).map fun y => .int .u64 (W64 y)) := by
        rw [told8_succ, List.map_append, BitVec.ofNat_add]; exact how
      have hn1 : New w w1 := (hnew.alloc _).grown' hgr (own_base hown)
      clear how hgr
      go_wp2
      exact ⟨⟨k + 1, by omega, by go_num, how2, hn1⟩, by simp [intOf]; omega⟩
    · obtain rfl : k = m := by omega
      obtain ⟨a', cap', rfl, hrow⟩ := QRow.of_owns hown (by omega)
      go_wp2
      go_ret
      exact ⟨a', cap', rfl, hrow, hnew, hg.trans hnew⟩
end Go.Proofs.YtoplabhoedloeaaGreat
