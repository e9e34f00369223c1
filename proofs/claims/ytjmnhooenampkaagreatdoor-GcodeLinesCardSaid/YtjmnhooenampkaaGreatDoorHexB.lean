/- Contracts of load.Unhex, and of the document's own Hex and Unhex. -/
import Derived.Test.YtjmnhooenampkaaGreatDoorHexA
namespace Go.Proofs.YtjmnhooenampkaaGreatDoor
open Go.RowKit Go.Bv
set_option linter.unusedVariables false
/-- the last k digits of a word, as a string -/
def hexTail (x : BitVec 64) (k : Nat) : ByteArray := strOfNums ((hexInts x).drop (16 - k))
theorem conv_one (w : World) (c : BitVec 8) :
    (convert 22 9 (.slice (some ⟨w.heap.size, 0, none⟩) 1 1)).run Tryz.prog (w.alloc (.cells #[.int .u8 (W8 c)] 5)) = .ok (.string (strOfNums [W8 c])) (w.alloc (.cells #[.int .u8 (W8 c)] 5)) :=
  run_convert_bytes_arg (P := Tryz.prog) _ 22 5 Tryz.underlying22 Tryz.underlying5 w.heap.size 0 1 1 [W8 c] rfl
    (by intro i hi; obtain rfl : i = 0 := by omega
        rw [World.cell?_alloc_new]; rfl) 9 Tryz.underlying9
theorem mod16 (y : BitVec 64) : y % 16#64 = y &&& 15#64 := by
  apply BitVec.eq_of_toNat_eq
  rw [BitVec.toNat_umod, BitVec.toNat_and]; exact (Nat.and_two_pow_sub_one_eq_mod _ 4).symm
theorem W8_small (y : BitVec 64) (h : y.toNat < 16) : W8 (y.setWidth 8) = (y.toNat : Int) := by
  unfold W8; rw [BitVec.toNat_setWidth]; omega
theorem dig_lo (y : BitVec 64) (h : W8 ((y % 16#64).setWidth 8) < 10) : 48#8 + (y % 16#64).setWidth 8 = dig (y &&& 15#64) := by
  rw [mod16] at h ⊢
  rw [W8_small _ (low15 y)] at h
  rw [dig, if_pos (by omega)]
theorem dig_hi (y : BitVec 64) (h : ¬ W8 ((y % 16#64).setWidth 8) < 10) : 87#8 + (y % 16#64).setWidth 8 = dig (y &&& 15#64) := by
  rw [mod16] at h ⊢
  rw [W8_small _ (low15 y)] at h
  rw [dig, if_neg (by omega)]
theorem strOfNums_append (a b : List Int) : strOfNums (a ++ b) = strOfNums a ++ strOfNums b := by
  apply ByteArray.ext
  simp [strOfNums, ByteArray.data_append]
theorem hexTail_succ (x : BitVec 64) (k : Nat) (hk : k < 16) : strOfNums [W8 (dig (x >>> (4 * k) &&& 15#64))] ++ hexTail x k = hexTail x (k + 1) := by
  unfold hexTail
  rw [← strOfNums_append]
  congr 1
  have h1 : 16 - (k + 1) < (hexInts x).length := by rw [hexInts_len]; omega
  rw [List.drop_eq_getElem_cons h1, show 16 - (k + 1) + 1 = 16 - k by omega]
  have h2 := hexInts_at x (16 - (k + 1)) (by omega)
  rw [List.getD_eq_getElem?_getD, List.getElem?_eq_getElem h1] at h2
  rw [show (hexInts x)[16 - (k + 1)] = _ from h2, show 15 - (16 - (k + 1)) = k by omega]; rfl
theorem hexTail_size (x : BitVec 64) (k : Nat) : (hexTail x k).size ≤ 16 := by
  unfold hexTail; rw [strOfNums_size, List.length_drop, hexInts_len]; omega
theorem shr4 (x : BitVec 64) (k : Nat) : x >>> (4 * k) / 16#64 = x >>> (4 * (k + 1)) := by
  rw [show 4 * (k + 1) = 4 * k + 4 by omega, BitVec.shiftRight_add]
  exact div_shr _ 4 (by omega)
theorem hex_room (c : BitVec 8) (x : BitVec 64) (k : Nat) : ¬ 9223372036854775807 < (strOfNums [W8 c]).size + (hexTail x k).size := by
  have := hexTail_size x k
  rw [strOfNums_size, List.length_singleton]; omega
end Go.Proofs.YtjmnhooenampkaaGreatDoor
