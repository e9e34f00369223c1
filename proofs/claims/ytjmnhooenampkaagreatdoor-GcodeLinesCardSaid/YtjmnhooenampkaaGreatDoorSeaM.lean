/- Layer 16: the mathematics of sums. -/
import Derived.Test.YtjmnhooenampkaaGreatDoorPutA
import Derived.Test.YtjmnhooenampkaaGreatDoorMixM
namespace Go.Proofs.YtjmnhooenampkaaGreatDoor
open Go.RowKit Go.Bv
set_option linter.unusedVariables false
/-- a byte into the sum -/
def stp16 (h : BitVec 32) (c : BitVec 8) : BitVec 32 := fmix32 (h ^^^ c.setWidth 32) + 1#32
def sum16 (l : List (BitVec 8)) : BitVec 32 := l.foldl stp16 (BitVec.ofNat 32 l.length)
/-- bytes with their sum -/
def seal16 (l : List (BitVec 8)) : List (BitVec 8) := l ++ bytes ((sum16 l).setWidth 64) 4
/-- whether the last four bytes are the sum of those before -/
def ok16 (l : List (BitVec 8)) : Bool := (rd l (l.length - 4) 4).setWidth 32 == sum16 (l.take (l.length - 4))
theorem fold_tk16 (h : BitVec 32) (l : List (BitVec 8)) (k : Nat) (hk : k < l.length) : (l.take (k + 1)).foldl stp16 h = stp16 ((l.take k).foldl stp16 h) (l.getD k 0) := by
  rw [List.take_succ_eq_append_getElem hk, List.foldl_append]
  simp [List.getD_eq_getElem?_getD, List.getElem?_eq_getElem hk]
theorem bytes_at16 (x : BitVec 64) (n i : Nat) (h : i < n) : (bytes x n).getD i 0 = byt x i := by
  unfold bytes; rw [List.getD_eq_getElem?_getD, List.getElem?_map, List.getElem?_range h]; rfl
theorem behind_at16 (l : List (BitVec 8)) (x : BitVec 64) (n i : Nat) (h : i < n) : (l ++ bytes x n).getD (l.length + i) 0 = byt x i := by
  rw [List.getD_eq_getElem?_getD, List.getElem?_append_right (by omega), show l.length + i - l.length = i by omega, ← List.getD_eq_getElem?_getD, bytes_at16 x n i h]
theorem rd_beh16 (l : List (BitVec 8)) (x : BitVec 64) (n : Nat) : rd (l ++ bytes x n) l.length n = num (byt x) n := by
  unfold rd
  exact num_congr n (fun i hi => behind_at16 l x n i hi)
theorem num4_16 (w : BitVec 32) : (num (byt (w.setWidth 64)) 4).setWidth 32 = w := by
  have h : num (byt (w.setWidth 64)) 4 = num (byt (w.setWidth 64)) 8 := (num_short _ 4 8 (by omega) (fun i h1 h2 => by
    unfold byt
    apply BitVec.eq_of_getLsbD_eq; intro b hb
    simp [hb]; intro _; rw [BitVec.getLsbD_of_ge w _ (by omega)])).symm
  rw [h, num_byt]
  apply BitVec.eq_of_getLsbD_eq; intro i hi; simp [hi]
theorem seal_len (l : List (BitVec 8)) : (seal16 l).length = l.length + 4 := by unfold seal16; rw [List.length_append, bytes_len]
theorem seal_ok (l : List (BitVec 8)) : ok16 (seal16 l) = true := by
  unfold ok16
  rw [seal_len, Nat.add_sub_cancel]
  have e : (seal16 l).take l.length = l := by unfold seal16; rw [List.take_left]
  rw [e]
  unfold seal16
  rw [rd_beh16, num4_16, beq_self_eq_true]
theorem seal_take (l : List (BitVec 8)) : (seal16 l).take l.length = l := by unfold seal16; rw [List.take_left]
theorem stp_inj_h (h h' : BitVec 32) (c : BitVec 8) (e : stp16 h c = stp16 h' c) : h = h' := by
  unfold stp16 at e
  have e1 : fmix32 (h ^^^ c.setWidth 32) = fmix32 (h' ^^^ c.setWidth 32) := by
    have := congrArg (fun z => z - 1#32) e
    simpa using this
  have e2 : h ^^^ c.setWidth 32 = h' ^^^ c.setWidth 32 := by rw [← unfmix32_fmix32 (h ^^^ c.setWidth 32), e1, unfmix32_fmix32]
  have := congrArg (fun z => z ^^^ c.setWidth 32) e2
  simpa [BitVec.xor_assoc] using this
theorem stp_inj_c (h : BitVec 32) (c d : BitVec 8) (e : stp16 h c = stp16 h d) : c = d := by
  unfold stp16 at e
  have e1 : fmix32 (h ^^^ c.setWidth 32) = fmix32 (h ^^^ d.setWidth 32) := by
    have := congrArg (fun z => z - 1#32) e
    simpa using this
  have e2 : h ^^^ c.setWidth 32 = h ^^^ d.setWidth 32 := by rw [← unfmix32_fmix32 (h ^^^ c.setWidth 32), e1, unfmix32_fmix32]
  have e3 : c.setWidth 32 = d.setWidth 32 := by
    have := congrArg (fun z => h ^^^ z) e2
    simpa [← BitVec.xor_assoc] using this
  apply BitVec.eq_of_toNat_eq
  have := congrArg BitVec.toNat e3
  rw [BitVec.toNat_setWidth, BitVec.toNat_setWidth] at this
  have := c.isLt
  have := d.isLt
  omega
theorem fold_inj_h (l : List (BitVec 8)) : ∀ h h' : BitVec 32, l.foldl stp16 h = l.foldl stp16 h' → h = h' := by
  induction l with
  | nil => intro h h' e; exact e
  | cons c l ih => intro h h' e; exact stp_inj_h h h' c (ih _ _ e)
theorem sum_set (l : List (BitVec 8)) (k : Nat) (y : BitVec 8) (hk : k < l.length) (e : sum16 (l.set k y) = sum16 l) : y = l.getD k 0 := by
  unfold sum16 at e
  rw [List.length_set] at e
  have e1 : l.set k y = l.take k ++ y :: l.drop (k + 1) := List.set_eq_take_append_cons_drop.trans (by rw [if_pos hk])
  have e2 : l = l.take k ++ l[k] :: l.drop (k + 1) := by rw [List.getElem_cons_drop, List.take_append_drop]
  have e3 : (l.take k ++ y :: l.drop (k + 1)).foldl stp16 (BitVec.ofNat 32 l.length) = (l.take k ++ l[k] :: l.drop (k + 1)).foldl stp16 (BitVec.ofNat 32 l.length) := by
    rw [← e1, ← e2]; exact e
  rw [List.foldl_append, List.foldl_append, List.foldl_cons, List.foldl_cons] at e3
  have e4 := stp_inj_c _ _ _ (fold_inj_h _ _ _ e3)
  rw [e4, List.getD_eq_getElem?_getD, List.getElem?_eq_getElem hk]
  rfl
theorem num_inj (n : Nat) (hn : n ≤ 8) : ∀ f g : Nat → BitVec 8, num f n = num g n → ∀ i, i < n → f i = g i := by
  induction n with
  | zero => intro f g _ i hi; omega
  | succ n ih =>
    intro f g e i hi
    simp only [num, add_byte] at e
    have h0 : f 0 = g 0 := by
      apply BitVec.eq_of_getLsbD_eq
      intro j hj
      have := congrArg (fun z => z.getLsbD j) e
      simpa [hj, show j < 64 by omega] using this
    rcases i with _ | i
    · exact h0
    · have e2 : num (fun i => f (i + 1)) n = num (fun i => g (i + 1)) n := by
        have b1 : (num (fun i => f (i + 1)) n).toNat < 256 ^ n := num_lt _ n (by omega)
        have b2 : (num (fun i => g (i + 1)) n).toNat < 256 ^ n := num_lt _ n (by omega)
        have hp : 256 ^ n ≤ 256 ^ 7 := Nat.pow_le_pow_right (by omega) (by omega)
        rw [show (256 : Nat) ^ 7 = 72057594037927936 by decide] at hp
        rw [← add_byte, ← add_byte, h0] at e
        have e3 := congrArg BitVec.toNat e
        rw [BitVec.toNat_add, BitVec.toNat_mul, BitVec.toNat_add, BitVec.toNat_mul, BitVec.toNat_setWidth] at e3
        have e5 : (256#64 : BitVec 64).toNat = 256 := by decide
        rw [e5] at e3
        have := (g 0).isLt
        apply BitVec.eq_of_toNat_eq
        omega
      exact ih (by omega) _ _ e2 i (by omega)
/-- a byte of sealed bytes is another one: told -/
theorem seal_set (l : List (BitVec 8)) (k : Nat) (x : BitVec 8) (hx : x ≠ 0#8) (hk : k < (seal16 l).length) : ok16 ((seal16 l).set k ((seal16 l).getD k 0 ^^^ x)) = false := by
  have hne : (seal16 l).getD k 0 ^^^ x ≠ (seal16 l).getD k 0 := by
    intro e
    apply hx
    have := congrArg (fun z => (seal16 l).getD k 0 ^^^ z) e
    simpa [← BitVec.xor_assoc] using this
  generalize (seal16 l).getD k 0 ^^^ x = y at hne
  rw [Bool.eq_false_iff]
  intro hok
  apply hne
  unfold ok16 at hok
  rw [List.length_set, seal_len, Nat.add_sub_cancel, beq_iff_eq] at hok
  rw [seal_len] at hk
  by_cases hlt : k < l.length
  · have e1 : ((seal16 l).set k y).take l.length = l.set k y := by
      rw [List.take_set, seal_take]
    have e2 : rd ((seal16 l).set k y) l.length 4 = rd (seal16 l) l.length 4 := by
      unfold rd
      refine num_congr 4 (fun i hi => ?_)
      rw [List.getD_eq_getElem?_getD, List.getElem?_set_ne (by omega), ← List.getD_eq_getElem?_getD]
    have e3 : (rd (seal16 l) l.length 4).setWidth 32 = sum16 l := by
      unfold seal16
      rw [rd_beh16, num4_16]
    rw [e1, e2, e3] at hok
    have e4 := sum_set l k y hlt hok.symm
    rw [e4]
    unfold seal16
    rw [List.getD_eq_getElem?_getD, List.getD_eq_getElem?_getD, List.getElem?_append_left hlt]
  · have e1 : ((seal16 l).set k y).take l.length = l := by
      rw [List.take_set_of_le (by omega), seal_take]
    rw [e1] at hok
    have e3 : (rd (seal16 l) l.length 4).setWidth 32 = sum16 l := by
      unfold seal16
      rw [rd_beh16, num4_16]
    rw [← e3] at hok
    have b1 : (rd ((seal16 l).set k y) l.length 4).toNat < 256 ^ 4 := num_lt _ 4 (by omega)
    have b2 : (rd (seal16 l) l.length 4).toNat < 256 ^ 4 := num_lt _ 4 (by omega)
    rw [show (256 : Nat) ^ 4 = 4294967296 by decide] at b1 b2
    have e5 : rd ((seal16 l).set k y) l.length 4 = rd (seal16 l) l.length 4 := by
      apply BitVec.eq_of_toNat_eq
      have := congrArg BitVec.toNat hok
      rw [BitVec.toNat_setWidth, BitVec.toNat_setWidth] at this
      omega
    have e6 := num_inj 4 (by omega) _ _ e5 (k - l.length) (by omega)
    rw [show l.length + (k - l.length) = k by omega] at e6
    rw [← e6, List.getD_eq_getElem?_getD, List.getElem?_set_self (by rw [seal_len]; exact hk)]
    rfl
end Go.Proofs.YtjmnhooenampkaaGreatDoor
