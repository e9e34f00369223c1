/- wide.Bit4; the document's Of4. -/
import Derived.Test.YtppmpledcaonkaaFouB
namespace Go.Proofs.Ytppmpledcaonkaa
open Go.RowKit Go.Bv
set_option linter.unusedVariables false
theorem bit_word (x : BitVec 64) (r : Nat) : (x >>> r &&& 1#64 == 1#64) = x.getLsbD r := by
  have h : x >>> r &&& 1#64 = if x.getLsbD r then 1#64 else 0#64 := by
    apply BitVec.eq_of_getLsbD_eq
    intro i hi
    rw [BitVec.getLsbD_and, BitVec.getLsbD_ushiftRight]
    by_cases h0 : i = 0
    · subst h0
      rw [Nat.add_zero]
      cases x.getLsbD r <;> rfl
    · have e1 : (1#64).getLsbD i = false := by rw [BitVec.getLsbD_one]; simp [h0]
      rw [e1, Bool.and_false]
      cases x.getLsbD r
      · simp
      · simp [e1]
  rw [h]
  cases x.getLsbD r <;> rfl
set_option maxRecDepth 100000 in
set_option maxHeartbeats 2000000 in
theorem wbit4_in (a0 a1 a2 a3 : BitVec 64) (q r m : Nat) (hq : q < 4) (hr : r < 64) (hm : m = 64 * q + r) (w : World) :
    Calls Try.prog 63 #[.agg #[.int .u64 (W64 a0), .int .u64 (W64 a1), .int .u64 (W64 a2), .int .u64 (W64 a3)], .int .i64 (m : Int)] w fun e w' => e = .returned (.bool ((four a0 a1 a2 a3).testBit m)) ∧ New w w' := by
  have HBX := Lib.hid (heap_alloc_new w (.cells #[.int .u64 (W64 a0), .int .u64 (W64 a1), .int .u64 (W64 a2), .int .u64 (W64 a3)] 45))
  have HN0 := Lib.hid ((New.refl w).alloc (.cells #[.int .u64 (W64 a0), .int .u64 (W64 a1), .int .u64 (W64 a2), .int .u64 (W64 a3)] 45))
  have h1 : Int.tdiv (m : Int) 64 = (q : Int) := by rw [Int.tdiv_eq_ediv_of_nonneg (by omega)]; omega
  have h2 : Int.tmod (m : Int) 64 = (r : Int) := by rw [Int.tmod_eq_emod_of_nonneg (by omega)]; omega
  have h3 : (m : Int) / 64 = (q : Int) := by omega
  have h4 : (m : Int) % 64 = (r : Int) := by omega
  have hlt : (m : Int) < 256 := by omega
  have hge : (0 : Int) ≤ (m : Int) := by omega
  have hr0 : (0 : Int) ≤ (r : Int) := by omega
  have hrm : (r : Int) < 64 := by omega
  have HT := Lib.hid (four_bit a0 a1 a2 a3 m)
  have HR := Lib.hid (And.intro hr hm)
  rcases (show q = 0 ∨ q = 1 ∨ q = 2 ∨ q = 3 by omega) with rfl | rfl | rfl | rfl
  · have HE : Hid ((four a0 a1 a2 a3).testBit m = (a0 >>> r &&& 1#64 == 1#64)) := Lib.hid (by rw [bit_word, HT.out, if_pos (by have := HR.out; omega)]; rw [show m = r by have := HR.out; omega])
    have hA : (w.alloc (.cells #[.int .u64 (W64 a0), .int .u64 (W64 a1), .int .u64 (W64 a2), .int .u64 (W64 a3)] 45)).cell? ⟨w.heap.size, 0, none⟩ = some (.int .u64 (W64 a0)) := by rw [cell_of_row _ _ _ _ _ _ HBX.out]; rfl
    clear hq hr hm
    go_enter Try.func63, Try.ntmps63
    go_wp2
    go_ret
    rw [HE.out]
    exact ⟨rfl, HN0.out⟩
  · have HE : Hid ((four a0 a1 a2 a3).testBit m = (a1 >>> r &&& 1#64 == 1#64)) := Lib.hid (by rw [bit_word, HT.out, if_neg (by have := HR.out; omega), if_pos (by have := HR.out; omega)]; rw [show m - 64 = r by have := HR.out; omega])
    have hA : (w.alloc (.cells #[.int .u64 (W64 a0), .int .u64 (W64 a1), .int .u64 (W64 a2), .int .u64 (W64 a3)] 45)).cell? ⟨w.heap.size, 1, none⟩ = some (.int .u64 (W64 a1)) := by rw [cell_of_row _ _ _ _ _ _ HBX.out]; rfl
    clear hq hr hm
    go_enter Try.func63, Try.ntmps63
    go_wp2
    go_ret
    rw [HE.out]
    exact ⟨rfl, HN0.out⟩
  · have HE : Hid ((four a0 a1 a2 a3).testBit m = (a2 >>> r &&& 1#64 == 1#64)) := Lib.hid (by rw [bit_word, HT.out, if_neg (by have := HR.out; omega), if_neg (by have := HR.out; omega), if_pos (by have := HR.out; omega)]; rw [show m - 128 = r by have := HR.out; omega])
    have hA : (w.alloc (.cells #[.int .u64 (W64 a0), .int .u64 (W64 a1), .int .u64 (W64 a2), .int .u64 (W64 a3)] 45)).cell? ⟨w.heap.size, 2, none⟩ = some (.int .u64 (W64 a2)) := by rw [cell_of_row _ _ _ _ _ _ HBX.out]; rfl
    clear hq hr hm
    go_enter Try.func63, Try.ntmps63
    go_wp2
    go_ret
    rw [HE.out]
    exact ⟨rfl, HN0.out⟩
  · have HE : Hid ((four a0 a1 a2 a3).testBit m = (a3 >>> r &&& 1#64 == 1#64)) := Lib.hid (by rw [bit_word, HT.out, if_neg (by have := HR.out; omega), if_neg (by have := HR.out; omega), if_neg (by have := HR.out; omega)]; rw [show m - 192 = r by have := HR.out; omega])
    have hA : (w.alloc (.cells #[.int .u64 (W64 a0), .int .u64 (W64 a1), .int .u64 (W64 a2), .int .u64 (W64 a3)] 45)).cell? ⟨w.heap.size, 3, none⟩ = some (.int .u64 (W64 a3)) := by rw [cell_of_row _ _ _ _ _ _ HBX.out]; rfl
    clear hq hr hm
    go_enter Try.func63, Try.ntmps63
    go_wp2
    go_ret
    rw [HE.out]
    exact ⟨rfl, HN0.out⟩
set_option maxHeartbeats 2000000 in
theorem wbit4 (a0 a1 a2 a3 : BitVec 64) (n : Int) (w : World) :
    Calls Try.prog 63 #[.agg #[.int .u64 (W64 a0), .int .u64 (W64 a1), .int .u64 (W64 a2), .int .u64 (W64 a3)], .int .i64 n] w fun e w' => e = .returned (.bool (decide (0 ≤ n ∧ n < 256) && (four a0 a1 a2 a3).testBit n.toNat)) ∧ New w w' := by
  by_cases h0 : n < 0
  · rw [decide_eq_false (by omega), Bool.false_and]
    go_enter Try.func63, Try.ntmps63
    go_wp2
    go_ret
    exact ⟨rfl, (New.refl _).alloc _⟩
  · by_cases h1 : 256 ≤ n
    · rw [decide_eq_false (by omega), Bool.false_and]
      go_enter Try.func63, Try.ntmps63
      go_wp2
      go_ret
      exact ⟨rfl, (New.refl _).alloc _⟩
    · obtain ⟨m, rfl⟩ : ∃ m : Nat, n = (m : Int) := ⟨n.toNat, by omega⟩
      rw [decide_eq_true (by omega), Bool.true_and, Int.toNat_natCast]
      exact wbit4_in a0 a1 a2 a3 (m / 64) (m % 64) m (by omega) (by omega) (by omega) w
theorem bits_join (L s : Nat) (x : BitVec 64) (hL : L < 2 ^ s) : bitsOf L s ++ bitsOf x.toNat 64 = bitsOf (L + 2 ^ s * x.toNat) (s + 64) := by
  apply ints_eq (n := s + 64)
  · rw [List.length_append, bitsOf_len, bitsOf_len]
  · rw [bitsOf_len]
  · intro j hj
    rw [bitsOf_at hj]
    by_cases h : j < s
    · rw [List.getD_eq_getElem?_getD, List.getElem?_append_left (by rw [bitsOf_len]; exact h), ← List.getD_eq_getElem?_getD, bitsOf_at h]
      unfold bt
      congr 1
      obtain ⟨d, rfl⟩ : ∃ d, s = j + (d + 1) := ⟨s - j - 1, by omega⟩
      rw [show L + 2 ^ (j + (d + 1)) * x.toNat = L + 2 ^ j * (2 * (2 ^ d * x.toNat)) by rw [Nat.pow_add, Nat.pow_succ]; grind, Nat.add_mul_div_left _ _ (Nat.two_pow_pos j)]
      omega
    · rw [List.getD_eq_getElem?_getD, List.getElem?_append_right (by rw [bitsOf_len]; omega), ← List.getD_eq_getElem?_getD, bitsOf_len, bitsOf_at (by omega)]
      unfold bt
      congr 1
      obtain ⟨d, rfl⟩ : ∃ d, j = s + d := ⟨j - s, by omega⟩
      rw [show s + d - s = d by omega, Nat.pow_add, ← Nat.div_div_eq_div_mul, Nat.add_mul_div_left _ _ (Nat.two_pow_pos s), Nat.div_eq_of_lt hL, Nat.zero_add]
end Go.Proofs.Ytppmpledcaonkaa
