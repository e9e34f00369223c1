/- Contracts of load.Swap64 and of the document's own Swap: for every word. -/
import Derived.Test.YtjmnhooenampkaaGreatDoorTurn
namespace Go.Bv
theorem num_bit (f : Nat → BitVec 8) (n : Nat) : ∀ i, i < 64 → (num f n).getLsbD i = (decide (i < 8 * n) && (f (i / 8)).getLsbD (i % 8)) := by
  induction n generalizing f with
  | zero => intro i hi; simp [num]
  | succ n ih =>
    intro i hi
    rw [num_or]
    simp only [BitVec.getLsbD_or, BitVec.getLsbD_shiftLeft, BitVec.getLsbD_setWidth, hi, decide_true, Bool.true_and]
    by_cases h : i < 8
    · have e : i / 8 = 0 := by omega
      have e2 : i % 8 = i := by omega
      rw [e, e2]
      simp [h]; omega
    · rw [ih _ (i - 8) (by omega), BitVec.getLsbD_of_ge (f 0) i (by omega)]
      have e : (i - 8) / 8 + 1 = i / 8 := by omega
      have e2 : (i - 8) % 8 = i % 8 := by omega
      have e3 : (i - 8 < 8 * n) ↔ (i < 8 * (n + 1)) := by omega
      rw [e, e2]; simp [h, e3]
/-- a byte of a word -/
def byt (x : BitVec 64) (j : Nat) : BitVec 8 := (x >>> (8 * j)).setWidth 8
theorem byt_bit (x : BitVec 64) (j b : Nat) (h : b < 8) : (byt x j).getLsbD b = x.getLsbD (8 * j + b) := by
  unfold byt; simp [h]
theorem num_byt (x : BitVec 64) : num (byt x) 8 = x := by
  apply BitVec.eq_of_getLsbD_eq; intro i hi
  rw [num_bit _ _ i hi, byt_bit _ _ _ (by omega), show 8 * (i / 8) + i % 8 = i by omega]
  simp; omega
/-- the bytes the other way round -/
def rev8 (x : BitVec 64) : BitVec 64 := num (fun i => byt x (7 - i)) 8
theorem byt_num (f : Nat → BitVec 8) (j : Nat) (h : j < 8) : byt (num f 8) j = f j := by
  apply BitVec.eq_of_getLsbD_eq; intro b hb
  rw [byt_bit _ _ _ hb, num_bit _ _ _ (by omega), show (8 * j + b) / 8 = j by omega, show (8 * j + b) % 8 = b by omega]
  simp; omega
theorem rev8_rev8 (x : BitVec 64) : rev8 (rev8 x) = x := by
  conv => rhs; rw [← num_byt x]
  unfold rev8
  apply num_congr
  intro i hi
  rw [byt_num _ _ (by omega)]
  show byt x (7 - (7 - i)) = _
  rw [show 7 - (7 - i) = i by omega]
theorem mod256 (x : BitVec 64) (k : Nat) : x >>> (8 * k) % 256#64 = (byt x k).setWidth 64 := by
  apply BitVec.eq_of_toNat_eq
  unfold byt
  rw [BitVec.toNat_umod, BitVec.toNat_setWidth, BitVec.toNat_setWidth]
  simp only [BitVec.toNat_ofNat, Nat.reducePow, Nat.reduceMod]
  omega
theorem div256 (x : BitVec 64) (k : Nat) : x >>> (8 * k) / 256#64 = x >>> (8 * (k + 1)) := by
  rw [show 8 * (k + 1) = 8 * k + 8 by omega, BitVec.shiftRight_add]
  exact div_shr _ 8 (by omega)
theorem rev_step (x : BitVec 64) (k : Nat) : num (fun i => byt x (k - 1 - i)) k * 256#64 + x >>> (8 * k) % 256#64 = num (fun i => byt x (k - i)) (k + 1) := by
  rw [mod256]
  simp only [num]
  congr 2
  exact num_congr _ (fun i _ => by rw [show k - 1 - i = k - (i + 1) by omega])
end Go.Bv
namespace Go.Proofs.YtjmnhooenampkaaGreatDoor
open Go.RowKit Go.Bv
set_option linter.unusedVariables false
theorem prog_rev (x : BitVec 64) (i : Nat) (hi : i < 64) :
    (((((x >>> 8 &&& 71777214294589695#64) ||| (x &&& 71777214294589695#64) <<< 8) >>> 16 &&& 281470681808895#64) ||| (((x >>> 8 &&& 71777214294589695#64) ||| (x &&& 71777214294589695#64) <<< 8) &&& 281470681808895#64) <<< 16) >>> 32 |||
     ((((x >>> 8 &&& 71777214294589695#64) ||| (x &&& 71777214294589695#64) <<< 8) >>> 16 &&& 281470681808895#64) ||| (((x >>> 8 &&& 71777214294589695#64) ||| (x &&& 71777214294589695#64) <<< 8) &&& 281470681808895#64) <<< 16) <<< 32).getLsbD i = (rev8 x).getLsbD i := by
  rw [rev8, num_bit _ _ _ hi, byt_bit _ _ _ (by omega)]
  have hc : i = 0 ∨ i = 1 ∨ i = 2 ∨ i = 3 ∨ i = 4 ∨ i = 5 ∨ i = 6 ∨ i = 7 ∨ i = 8 ∨ i = 9 ∨ i = 10 ∨ i = 11 ∨ i = 12 ∨ i = 13 ∨ i = 14 ∨ i = 15 ∨ i = 16 ∨ i = 17 ∨ i = 18 ∨ i = 19 ∨ i = 20 ∨ i = 21 ∨ i = 22 ∨ i = 23 ∨ i = 24 ∨ i = 25 ∨ i = 26 ∨ i = 27 ∨ i = 28 ∨ i = 29 ∨ i = 30 ∨ i = 31 ∨ i = 32 ∨ i = 33 ∨ i = 34 ∨ i = 35 ∨ i = 36 ∨ i = 37 ∨ i = 38 ∨ i = 39 ∨ i = 40 ∨ i = 41 ∨ i = 42 ∨ i = 43 ∨ i = 44 ∨ i = 45 ∨ i = 46 ∨ i = 47 ∨ i = 48 ∨ i = 49 ∨ i = 50 ∨ i = 51 ∨ i = 52 ∨ i = 53 ∨ i = 54 ∨ i = 55 ∨ i = 56 ∨ i = 57 ∨ i = 58 ∨ i = 59 ∨ i = 60 ∨ i = 61 ∨ i = 62 ∨ i = 63 := by omega
  rcases hc with rfl | rfl | rfl | rfl | rfl | rfl | rfl | rfl | rfl | rfl | rfl | rfl | rfl | rfl | rfl | rfl | rfl | rfl | rfl | rfl | rfl | rfl | rfl | rfl | rfl | rfl | rfl | rfl | rfl | rfl | rfl | rfl | rfl | rfl | rfl | rfl | rfl | rfl | rfl | rfl | rfl | rfl | rfl | rfl | rfl | rfl | rfl | rfl | rfl | rfl | rfl | rfl | rfl | rfl | rfl | rfl | rfl | rfl | rfl | rfl | rfl | rfl | rfl | rfl <;> simp
end Go.Proofs.YtjmnhooenampkaaGreatDoor
