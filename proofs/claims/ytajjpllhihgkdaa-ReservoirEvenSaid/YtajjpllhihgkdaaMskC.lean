/- Contracts of the document's own layer 39: Bits, Tells, Takes. -/
import Derived.Test.YtajjpllhihgkdaaMskD
import Derived.Test.YtajjpllhihgkdaaBitS
import Derived.Deep.RegionWith
namespace Go.Bv
open Go Go.RowKit
theorem lenN_bounds (A : Nat) : ∀ n, A < 2 ^ n → A ≠ 0 → 1 ≤ lenN A n ∧ 2 ^ (lenN A n - 1) ≤ A ∧ A < 2 ^ lenN A n
  | 0, h, h0 => by rw [Nat.pow_zero] at h; omega
  | k + 1, h, h0 => by
    unfold lenN
    by_cases h1 : A / 2 ^ k % 2 = 1
    · rw [if_pos h1]
      refine ⟨by omega, ?_, h⟩
      rw [Nat.add_sub_cancel]
      rcases Nat.lt_or_ge A (2 ^ k) with h2 | h2
      · rw [Nat.div_eq_of_lt h2] at h1; omega
      · exact h2
    · rw [if_neg h1]
      refine lenN_bounds A k ?_ h0
      rcases Nat.lt_or_ge A (2 ^ k) with h2 | h2
      · exact h2
      · exfalso
        apply h1
        have h3 : A / 2 ^ k = 1 := by
          rw [Nat.pow_succ] at h
          exact Nat.div_eq_of_lt_le (by omega) (by omega)
        rw [h3]
theorem lenN_zero_arg : ∀ n, lenN 0 n = 0
  | 0 => rfl
  | k + 1 => by unfold lenN; rw [Nat.zero_div, if_neg (by omega)]; exact lenN_zero_arg k
theorem pow_between {s t A : Nat} (a1 : 1 ≤ s) (a2 : 2 ^ (s - 1) ≤ A) (a3 : A < 2 ^ s) (b1 : 1 ≤ t) (b2 : 2 ^ (t - 1) ≤ A) (b3 : A < 2 ^ t) : s = t := by
  have h1 := (Nat.pow_lt_pow_iff_right (by omega : 1 < 2)).1 (Nat.lt_of_le_of_lt a2 b3)
  have h2 := (Nat.pow_lt_pow_iff_right (by omega : 1 < 2)).1 (Nat.lt_of_le_of_lt b2 a3)
  omega
theorem lenN_len (x : Nat) (h : x < 2 ^ 64) : lenN x 64 = Lib.bitLen x := by
  by_cases h0 : x = 0
  · subst h0; rw [lenN_zero_arg, (bitLen_up 0 h).2.2 rfl]
  · obtain ⟨a, b, c⟩ := lenN_bounds x 64 h h0
    obtain ⟨_, d, _⟩ := bitLen_up x h
    obtain ⟨d, e, f⟩ := d h0
    exact pow_between a b c d e f
theorem bt_mod {N i s : Nat} (h : i < s) : bt (N % 2 ^ s) i = bt N i := by
  have e := Nat.testBit_mod_two_pow N s i
  rw [Nat.testBit_eq_decide_div_mod_eq, Nat.testBit_eq_decide_div_mod_eq, decide_eq_true h, Bool.true_and] at e
  have e2 := decide_eq_decide.1 e
  unfold bt
  omega
theorem bits_low {N s : Nat} (hs : s ≤ 64) : (bitsOf N 64).take s = bitsOf (N % 2 ^ s) s := by
  apply List.ext_getElem (by simp [bitsOf]; omega)
  intro i h1 h2
  simp only [bitsOf, List.getElem_take, List.getElem_map, List.getElem_range]
  rw [bitsOf_len] at h2
  exact (bt_mod h2).symm
theorem bits_high {N s : Nat} : (bitsOf N 64).drop s = bitsOf (N / 2 ^ s) (64 - s) := by
  apply List.ext_getElem (by simp [bitsOf])
  intro i h1 h2
  simp only [bitsOf, List.getElem_drop, List.getElem_map, List.getElem_range]
  unfold bt
  rw [Nat.div_div_eq_div_mul, ← Nat.pow_add]
end Go.Bv
namespace Go.Proofs.Ytajjpllhihgkdaa
open Go.RowKit Go.Bv
set_option linter.unusedVariables false
theorem ZRow.low {w : World} {b off len cap : Nat} {l : List Int} (h : ZRow w (some ⟨b, off, none⟩) len cap l) (k : Nat) (hk : k ≤ len) : ZRow w (some ⟨b, off, none⟩) k cap (l.take k) where
  len_eq := by rw [List.length_take, h.len_eq]; omega
  le := by have := h.le; omega
  most := by have := h.most; omega
  room := h.room
  none := fun e => by cases e
  cell := fun b off e i hi => by
    rw [h.cell b off e i (by omega), List.getD_eq_getElem?_getD, List.getD_eq_getElem?_getD, List.getElem?_take, if_pos hi]
  spot := fun x e h0 => by cases e; rfl
  old := fun x e h0 => h.old x e (by omega)
  wf := fun n hn => h.wf n (List.mem_of_mem_take hn)
theorem ZRow.high {w : World} {b off len cap : Nat} {l : List Int} (h : ZRow w (some ⟨b, off, none⟩) len cap l) (k : Nat) (hk : k ≤ len) : ZRow w (some ⟨b, off + k, none⟩) (len - k) (cap - k) (l.drop k) where
  len_eq := by rw [List.length_drop, h.len_eq]
  le := by have := h.le; omega
  most := by have := h.most; omega
  room := by have := h.room; omega
  none := fun e => by cases e
  cell := fun b2 off2 e i hi => by
    cases e
    rw [Nat.add_assoc, h.cell b off rfl (k + i) (by omega), List.getD_eq_getElem?_getD, List.getD_eq_getElem?_getD, List.getElem?_drop]
  spot := fun x e h0 => by cases e; rfl
  old := fun x e h0 => by cases e; have := h.old ⟨b, off, Option.none⟩ rfl (by omega); exact this
  wf := fun n hn => h.wf n (List.mem_of_mem_drop hn)
theorem tel_low (x n : BitVec 64) : telM x n = BitVec.ofNat 64 (x.toNat % 2 ^ bitsM n) := by
  have hs := bitsM_le n
  unfold telM
  generalize bitsM n = s at *
  apply BitVec.eq_of_toNat_eq
  rw [BitVec.toNat_and, BitVec.toNat_ofNat]
  have hx : x.toNat % 2 ^ s < 2 ^ 64 := Nat.lt_of_le_of_lt (Nat.mod_le _ _) x.isLt
  rw [Nat.mod_eq_of_lt hx]
  have e : (1#64 <<< s - 1#64).toNat = 2 ^ s - 1 := by
    rcases Nat.lt_or_ge s 64 with h | h
    · have h2 : 2 ^ s < 2 ^ 64 := (Nat.pow_lt_pow_iff_right (by omega)).2 h
      have h3 : (1#64 <<< s).toNat = 2 ^ s := by
        rw [BitVec.toNat_shiftLeft, Nat.shiftLeft_eq]
        show 1 * 2 ^ s % 2 ^ 64 = 2 ^ s
        rw [Nat.one_mul, Nat.mod_eq_of_lt h2]
      have h4 := Nat.two_pow_pos s
      rw [BitVec.toNat_sub_of_le (by rw [BitVec.le_def, h3]; show 1 ≤ 2 ^ s; omega), h3]; rfl
    · obtain rfl : s = 64 := by omega
      rfl
  rw [e, Nat.and_two_pow_sub_one_eq_mod]
theorem ZRow.void (w : World) (a : Addr) : ZRow w (some a) 0 0 [] where
  len_eq := rfl
  le := Nat.le_refl _
  most := by omega
  room := by omega
  none := fun e => by cases e
  cell := fun b off e i hi => by omega
  spot := fun x e h0 => by omega
  old := fun x e h0 => by omega
  wf := fun n hn => by cases hn
end Go.Proofs.Ytajjpllhihgkdaa
