import Derived.Test.YtdjlbpgjbgepdaaGreatTapQ
import Derived.Test.YtdjlbpgjbgepdaaGreatLemQ
import Derived.Test.YtdjlbpgjbgepdaaGreatYBitA
import Derived.Deep.RegionWith
import Derived.Test.YtdjlbpgjbgepdaaGreatWidQ
import Derived.Deep.RegionHeld3
import Derived.Test.YtdjlbpgjbgepdaaGreatClass
/- Contracts of layer 39: Bits, yields and the function that it hands back. · Contract of layer 39: Take: the first word that is taken. · Layer 39: the law's own check that the program is there; the law MaskHalf. · Contracts of the document's own layer 39: Bits, Tells, Takes. · Contracts of layer 39: Each, of the program and of the document. · Contracts of layer 39: Takes, Rank. · Contracts of the document's own layer 39: Takes, Take. · The law MaskWords, walked. · The law MaskTakes, walked. -/
namespace Go.Bv
open Go Go.RowKit
/-- how many bits a limit less 1 has -/
def bitsM (n : BitVec 64) : Nat := if n = 0#64 then 0 else Lib.bitLen (n - 1#64).toNat
/-- what a word tells -/
def telM (x n : BitVec 64) : BitVec 64 := x &&& (1#64 <<< bitsM n - 1#64)
/-- whether a word is taken -/
def takM (x n : BitVec 64) : Bool := decide (W64 (telM x n) < W64 n)
theorem bitLen_up (x : Nat) (h : x < 2 ^ 64) : Lib.bitLen x ≤ 64 ∧ (x ≠ 0 → 1 ≤ Lib.bitLen x ∧ 2 ^ (Lib.bitLen x - 1) ≤ x ∧ x < 2 ^ Lib.bitLen x) ∧ (x = 0 → Lib.bitLen x = 0) := by
  refine ⟨?_, fun h0 => Lib.bitLenAux_bounds 64 x h h0, fun h0 => by subst h0; exact Lib.bitLenAux_zero 64⟩
  by_cases h0 : x = 0
  · subst h0; unfold Lib.bitLen; rw [Lib.bitLenAux_zero]; omega
  · obtain ⟨h1, h2, h3⟩ := Lib.bitLenAux_bounds 64 x h h0
    have h4 : 2 ^ (Lib.bitLenAux 64 x - 1) < 2 ^ 64 := Nat.lt_of_le_of_lt h2 h
    have h5 := (Nat.pow_lt_pow_iff_right (by omega : 1 < 2)).1 h4
    unfold Lib.bitLen; omega
theorem bitsM_le (n : BitVec 64) : bitsM n ≤ 64 := by
  unfold bitsM; split
  · omega
  · exact (bitLen_up _ (n - 1#64).isLt).1
end Go.Bv
namespace Go.Proofs.YtdjlbpgjbgepdaaGreat
open Go.RowKit Go.Bv
set_option linter.unusedVariables false
end Go.Proofs.YtdjlbpgjbgepdaaGreat
namespace Go.Proofs.YtdjlbpgjbgepdaaGreat
open Go.RowKit Go.Bv
set_option linter.unusedVariables false
/-- the rank of a word -/
def rnkM (x n : BitVec 64) : BitVec 64 := x >>> bitsM n
end Go.Proofs.YtdjlbpgjbgepdaaGreat
namespace Go.Bv
open Go Go.RowKit
theorem takm_a : takM 7#64 5#64 = false := by decide +kernel
theorem takm_b : takM 12#64 5#64 = true := by decide +kernel
theorem telm_b : W64 (telM 12#64 5#64) = 4 := by decide +kernel
theorem bits_5 : bitsM 5#64 = 3 := by decide +kernel
theorem bits_above (n : BitVec 64) (h : 2 ≤ n.toNat) : ∃ t, bitsM n = t + 1 ∧ t ≤ 63 ∧ 2 ^ t < n.toNat ∧ n.toNat ≤ 2 ^ (t + 1) := by
  have h0 : ¬ n = 0#64 := fun e => by rw [e] at h; exact absurd h (by decide)
  have h1 : (n - 1#64).toNat = n.toNat - 1 := by
    rw [BitVec.toNat_sub_of_le (by rw [BitVec.le_def]; show 1 ≤ n.toNat; omega)]; rfl
  unfold bitsM
  rw [if_neg h0, h1]
  obtain ⟨a, b, _⟩ := bitLen_up (n.toNat - 1) (by have := n.isLt; omega)
  obtain ⟨c, d, e⟩ := b (by omega)
  refine ⟨Lib.bitLen (n.toNat - 1) - 1, by omega, by omega, by omega, ?_⟩
  rw [show Lib.bitLen (n.toNat - 1) - 1 + 1 = Lib.bitLen (n.toNat - 1) by omega]; omega
theorem shr_oneM (n : BitVec 64) (t : Nat) (h : 2 ^ t < n.toNat) : decide (1 ≤ W64 (n >>> t)) = true := by
  rw [decide_eq_true_eq]
  unfold W64
  rw [BitVec.toNat_ushiftRight, Nat.shiftRight_eq_div_pow]
  have := (Nat.one_le_div_iff (Nat.two_pow_pos t)).2 (Nat.le_of_lt h)
  omega
theorem shl_up (n : BitVec 64) (t : Nat) (ht : t + 1 < 64) (h : n.toNat ≤ 2 ^ (t + 1)) : decide (W64 n ≤ W64 (1#64 <<< (t + 1))) = true := by
  rw [decide_eq_true_eq]
  unfold W64
  rw [BitVec.toNat_shiftLeft, Nat.shiftLeft_eq]
  show (n.toNat : Int) ≤ ((1 * 2 ^ (t + 1) % 2 ^ 64 : Nat) : Int)
  rw [Nat.one_mul, Nat.mod_eq_of_lt ((Nat.pow_lt_pow_iff_right (by omega)).2 ht)]
  omega
end Go.Bv
namespace Go.Proofs.YtdjlbpgjbgepdaaGreat
open Go.RowKit Go.Bv
set_option linter.unusedVariables false
end Go.Proofs.YtdjlbpgjbgepdaaGreat
namespace Go.Bv
open Go Go.RowKit
theorem lenN_bounds (A : Nat) : ∀ n, A < 2 ^ n → A ≠ 0 → 1 ≤ lenN A n ∧ 2 ^ (lenN A n - 1) ≤ A ∧ A < 2 ^ lenN A n
  | 0, h, h0 => by rw [Nat.pow_zero] at h; omega
  | k + 1, h, h0 => by
    unfold lenN
    by_cases h1 : A / 2 ^ k % 2 = 1
    · rw [if_pos h1]
      refine ⟨by omega, ?_, h⟩
      rw [Nat.add_sub_cancel]
      rcases Nat.lt_or_ge A (2 ^ k) with h2 | h2
      · rw [Nat.div_eq_of_lt h2] at h1; omega
      · exact h2
    · rw [if_neg h1]
      refine lenN_bounds A k ?_ h0
      rcases Nat.lt_or_ge A (2 ^ k) with h2 | h2
      · exact h2
      · exfalso
        apply h1
        have h3 : A / 2 ^ k = 1 := by
          rw [Nat.pow_succ] at h
          exact Nat.div_eq_of_lt_le (by omega) (by omega)
        rw [h3]
theorem lenN_zero_arg : ∀ n, lenN 0 n = 0
  | 0 => rfl
  | k + 1 => by unfold lenN; rw [Nat.zero_div, if_neg (by omega)]; exact lenN_zero_arg k
theorem pow_between {s t A : Nat} (a1 : 1 ≤ s) (a2 : 2 ^ (s - 1) ≤ A) (a3 : A < 2 ^ s) (b1 : 1 ≤ t) (b2 : 2 ^ (t - 1) ≤ A) (b3 : A < 2 ^ t) : s = t := by
  have h1 := (Nat.pow_lt_pow_iff_right (by omega : 1 < 2)).1 (Nat.lt_of_le_of_lt a2 b3)
  have h2 := (Nat.pow_lt_pow_iff_right (by omega : 1 < 2)).1 (Nat.lt_of_le_of_lt b2 a3)
  omega
theorem lenN_len (x : Nat) (h : x < 2 ^ 64) : lenN x 64 = Lib.bitLen x := by
  by_cases h0 : x = 0
  · subst h0; rw [lenN_zero_arg, (bitLen_up 0 h).2.2 rfl]
  · obtain ⟨a, b, c⟩ := lenN_bounds x 64 h h0
    obtain ⟨_, d, _⟩ := bitLen_up x h
    obtain ⟨d, e, f⟩ := d h0
    exact pow_between a b c d e f
theorem bt_mod {N i s : Nat} (h : i < s) : bt (N % 2 ^ s) i = bt N i := by
  have e := Nat.testBit_mod_two_pow N s i
  rw [Nat.testBit_eq_decide_div_mod_eq, Nat.testBit_eq_decide_div_mod_eq, decide_eq_true h, Bool.true_and] at e
  have e2 := decide_eq_decide.1 e
  unfold bt
  omega
theorem bits_low {N s : Nat} (hs : s ≤ 64) : (bitsOf N 64).take s = bitsOf (N % 2 ^ s) s := by
  apply List.ext_getElem (by simp [bitsOf]; omega)
  intro i h1 h2
  simp only [bitsOf, List.getElem_take, List.getElem_map, List.getElem_range]
  rw [bitsOf_len] at h2
  exact (bt_mod h2).symm
theorem bits_high {N s : Nat} : (bitsOf N 64).drop s = bitsOf (N / 2 ^ s) (64 - s) := by
  apply List.ext_getElem (by simp [bitsOf])
  intro i h1 h2
  simp only [bitsOf, List.getElem_drop, List.getElem_map, List.getElem_range]
  unfold bt
  rw [Nat.div_div_eq_div_mul, ← Nat.pow_add]
end Go.Bv
namespace Go.Proofs.YtdjlbpgjbgepdaaGreat
open Go.RowKit Go.Bv
set_option linter.unusedVariables false
theorem ZRow.low {w : World} {b off len cap : Nat} {l : List Int} (h : ZRow w (some ⟨b, off, none⟩) len cap l) (k : Nat) (hk : k ≤ len) : ZRow w (some ⟨b, off, none⟩) k cap (l.take k) where
  len_eq := by rw [List.length_take, h.len_eq]; omega
  le := by have := h.le; omega
  most := by have := h.most; omega
  room := h.room
  none := fun e => by cases e
  cell := fun b off e i hi => by
    rw [h.cell b off e i (by omega), List.getD_eq_getElem?_getD, List.getD_eq_getElem?_getD, List.getElem?_take, if_pos hi]
  spot := fun x e h0 => by cases e; rfl
  old := fun x e h0 => h.old x e (by omega)
  wf := fun n hn => h.wf n (List.mem_of_mem_take hn)
theorem ZRow.high {w : World} {b off len cap : Nat} {l : List Int} (h : ZRow w (some ⟨b, off, none⟩) len cap l) (k : Nat) (hk : k ≤ len) : ZRow w (some ⟨b, off + k, none⟩) (len - k) (cap - k) (l.drop k) where
  len_eq := by rw [List.length_drop, h.len_eq]
  le := by have := h.le; omega
  most := by have := h.most; omega
  room := by have := h.room; omega
  none := fun e => by cases e
  cell := fun b2 off2 e i hi => by
    cases e
    rw [Nat.add_assoc, h.cell b off rfl (k + i) (by omega), List.getD_eq_getElem?_getD, List.getD_eq_getElem?_getD, List.getElem?_drop]
  spot := fun x e h0 => by cases e; rfl
  old := fun x e h0 => by cases e; have := h.old ⟨b, off, Option.none⟩ rfl (by omega); exact this
  wf := fun n hn => h.wf n (List.mem_of_mem_drop hn)
theorem tel_low (x n : BitVec 64) : telM x n = BitVec.ofNat 64 (x.toNat % 2 ^ bitsM n) := by
  have hs := bitsM_le n
  unfold telM
  generalize bitsM n = s at *
  apply BitVec.eq_of_toNat_eq
  rw [BitVec.toNat_and, BitVec.toNat_ofNat]
  have hx : x.toNat % 2 ^ s < 2 ^ 64 := Nat.lt_of_le_of_lt (Nat.mod_le _ _) x.isLt
  rw [Nat.mod_eq_of_lt hx]
  have e : (1#64 <<< s - 1#64).toNat = 2 ^ s - 1 := by
    rcases Nat.lt_or_ge s 64 with h | h
    · have h2 : 2 ^ s < 2 ^ 64 := (Nat.pow_lt_pow_iff_right (by omega)).2 h
      have h3 : (1#64 <<< s).toNat = 2 ^ s := by
        rw [BitVec.toNat_shiftLeft, Nat.shiftLeft_eq]
        show 1 * 2 ^ s % 2 ^ 64 = 2 ^ s
        rw [Nat.one_mul, Nat.mod_eq_of_lt h2]
      have h4 := Nat.two_pow_pos s
      rw [BitVec.toNat_sub_of_le (by rw [BitVec.le_def, h3]; show 1 ≤ 2 ^ s; omega), h3]; rfl
    · obtain rfl : s = 64 := by omega
      rfl
  rw [e, Nat.and_two_pow_sub_one_eq_mod]
theorem ZRow.void (w : World) (a : Addr) : ZRow w (some a) 0 0 [] where
  len_eq := rfl
  le := Nat.le_refl _
  most := by omega
  room := by omega
  none := fun e => by cases e
  cell := fun b off e i hi => by omega
  spot := fun x e h0 => by omega
  old := fun x e h0 => by omega
  wf := fun n hn => by cases hn
end Go.Proofs.YtdjlbpgjbgepdaaGreat
namespace Go.Bv
open Go Go.RowKit
/-- how many words are taken for each number, and its two halves -/
def eachM (n : BitVec 64) : Nat := if n = 0#64 then 0 else 1 * 2 ^ (64 - bitsM n)
def eachHi (n : BitVec 64) : BitVec 64 := BitVec.ofNat 64 (eachM n / 2 ^ 64)
def eachLo (n : BitVec 64) : BitVec 64 := BitVec.ofNat 64 (eachM n)
theorem eachM_lt (n : BitVec 64) : eachM n < 2 ^ 128 := by
  unfold eachM
  split
  · exact Nat.two_pow_pos 128
  · rw [Nat.one_mul]; exact (Nat.pow_lt_pow_iff_right (by omega)).2 (by omega)
theorem two_each (n : BitVec 64) : two (eachHi n) (eachLo n) = eachM n := by
  have h := eachM_lt n
  unfold two eachHi eachLo
  rw [BitVec.toNat_ofNat, BitVec.toNat_ofNat]
  omega
theorem each_zero : eachHi 0#64 = 0#64 ∧ eachLo 0#64 = 0#64 := by
  unfold eachHi eachLo eachM; rw [if_pos rfl]; exact ⟨rfl, rfl⟩
theorem two_unit : two 0#64 1#64 = 1 := by unfold two; rfl
end Go.Bv
namespace Go.Proofs.YtdjlbpgjbgepdaaGreat
open Go.RowKit Go.Bv
set_option linter.unusedVariables false
theorem one_bit (w : World) : ZRow (w.alloc (.cells #[.int .i64 1] 3)) (some ⟨w.heap.size, 0, none⟩) 1 1 (bitsOf 1 1) where
  len_eq := rfl
  le := Nat.le_refl _
  most := by omega
  room := by omega
  none := fun e => by cases e
  cell := fun b off e i hi => by
    cases e
    obtain rfl : i = 0 := by omega
    exact cell_of_row _ _ 0 _ _ _ (heap_alloc_new w _)
  spot := fun x e h0 => by cases e; rfl
  old := fun x e h0 => by cases e; simp
  wf := bitsOf_wf _ _
end Go.Proofs.YtdjlbpgjbgepdaaGreat
namespace Go.Proofs.YtdjlbpgjbgepdaaGreat
open Go.RowKit Go.Bv
set_option linter.unusedVariables false
end Go.Proofs.YtdjlbpgjbgepdaaGreat
namespace Go.Proofs.YtdjlbpgjbgepdaaGreat
open Go.RowKit Go.Bv
set_option linter.unusedVariables false
end Go.Proofs.YtdjlbpgjbgepdaaGreat
namespace Go.Bv
open Go Go.RowKit
theorem two_low (r : BitVec 64) : two 0#64 r = r.toNat := by unfold two; simp
theorem tak_zero (x : BitVec 64) : takM x 0#64 = false := by
  unfold takM
  rw [decide_eq_false_iff_not, show W64 0#64 = 0 by decide]
  unfold W64
  omega
/-- a contract that changes nothing, as one that makes memory -/
theorem calls_new {P : Program} {F : FuncId} {args : Array Value} {v : Value} (h : ∀ w, Calls P F args w fun e w' => e = .returned v ∧ w' = w) (w : World) : Calls P F args w fun e w' => e = .returned v ∧ New w w' :=
  (h w).mono fun _ _ ⟨a, b⟩ => ⟨a, b ▸ New.refl w⟩
end Go.Bv
namespace Go.Proofs.YtdjlbpgjbgepdaaGreat
open Go.RowKit Go.Bv
set_option linter.unusedVariables false
theorem rnk_lt (x n : BitVec 64) (h : ¬ n = 0#64) : (rnkM x n).toNat < eachM n := by
  have hb := bitsM_le n
  have hx := x.isLt
  unfold rnkM eachM
  rw [if_neg h, Nat.one_mul, BitVec.toNat_ushiftRight, Nat.shiftRight_eq_div_pow, Nat.div_lt_iff_lt_mul (Nat.two_pow_pos _), ← Nat.pow_add, show 64 - bitsM n + bitsM n = 64 by omega]
  exact hx
end Go.Proofs.YtdjlbpgjbgepdaaGreat
namespace Go.Bv
theorem first_same {p : Nat → Bool} {i j : Nat} (h1 : ∀ k, k < i → p k = false) (h2 : p i = true) (h3 : ∀ k, k < j → p k = false) (h4 : p j = true) : i = j := by
  rcases Nat.lt_trichotomy i j with h | h | h
  · rw [h3 i h] at h2; cases h2
  · exact h
  · rw [h1 j h] at h4; cases h4
end Go.Bv
namespace Go.Proofs.YtdjlbpgjbgepdaaGreat
open Go.RowKit Go.Bv
set_option linter.unusedVariables false
/-- a draw's box -/
theorem draw_box (w : World) (x y z : Value) : (w.alloc (.cells #[x, y, z] 53)).cell? ⟨w.heap.size, 0, none⟩ = some x ∧ (w.alloc (.cells #[x, y, z] 53)).cell? ⟨w.heap.size, 1, none⟩ = some y ∧ (w.alloc (.cells #[x, y, z] 53)).cell? ⟨w.heap.size, 2, none⟩ = some z :=
  ⟨cell_of_row _ _ 0 _ _ _ (heap_alloc_new _ _), cell_of_row _ _ 1 _ _ _ (heap_alloc_new _ _), cell_of_row _ _ 2 _ _ _ (heap_alloc_new _ _)⟩
end Go.Proofs.YtdjlbpgjbgepdaaGreat
