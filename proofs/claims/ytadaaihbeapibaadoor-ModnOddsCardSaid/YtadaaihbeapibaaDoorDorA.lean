/- The table of bits.TrailingZeros64 in its variable; its contract. -/
import Derived.Test.YtadaaihbeapibaaDoorProg
import Derived.Test.YtadaaihbeapibaaDoorFrame
import Derived.Lib.TrailingZeros
namespace Go.Bv
open Go Go.RowKit
/-- the table lies in its variable -/
structure TabD (w : World) : Prop where
  lt : 0 < w.heap.size
  cell : ∀ i, i < 64 → w.cell? ⟨0, i, none⟩ = some (.int .u8 (Lib.deBruijn64tab.getD i 0))
theorem TabD.stay {w w' : World} (h : TabD w) (hn : New w w') : TabD w' where
  lt := Nat.lt_of_lt_of_le h.lt hn.le
  cell := fun i hi => by
    have e := hn.block 0 h.lt
    rw [← h.cell i hi]
    unfold World.cell?
    rw [e]
/-- the number of zeros at a word's end -/
def tzN (x : BitVec 64) : Nat := Lib.ctz 64 x.toNat
end Go.Bv
namespace Go.Proofs.YtadaaihbeapibaaDoor
open Go.RowKit Go.Bv
set_option linter.unusedVariables false
set_option maxHeartbeats 1000000 in
theorem tz_d (x : BitVec 64) (hx : ¬ x = 0#64) (w : World) (ht : TabD w) : Calls Tryd.prog 32 #[.int .u64 (W64 x)] w fun e w' => e = .returned (.int .i64 ((tzN x : Nat) : Int)) ∧ w' = w := by
  have hx0 : x.toNat ≠ 0 := fun e => hx (BitVec.eq_of_toNat_eq e)
  obtain ⟨hlow, hk⟩ := Lib.lowest_bit 64 x.toNat hx0 x.isLt
  obtain ⟨hi, htab⟩ := Lib.deBruijn64_at _ hk
  have z2 : (x == 0#64) = false := beq_false_of_ne hx
  have hc := ht.cell _ hi
  rw [htab] at hc
  have hneg : (-x).toNat = 2 ^ 64 - x.toNat := by
    rw [BitVec.toNat_neg]
    have := x.isLt
    exact Nat.mod_eq_of_lt (by omega)
  obtain ⟨I, hI⟩ : ∃ I, ((x &&& -x) * 285870213051353865#64) >>> 58 = I := ⟨_, rfl⟩
  have hIn : I.toNat = 2 ^ Lib.ctz 64 x.toNat * 285870213051353865 % 18446744073709551616 / 288230376151711744 := by
    rw [← hI, BitVec.toNat_ushiftRight, Nat.shiftRight_eq_div_pow, BitVec.toNat_mul, BitVec.toNat_and, hneg, hlow]
    rfl
  rw [← hIn] at hc hi
  have hlt : W64 I < 64 := by unfold W64; omega
  change w.cell? ⟨0, N64 I, none⟩ = _ at hc
  rw [← hI] at hc hlt
  have hw : wrap64 ((Lib.ctz 64 x.toNat : Nat) : Int) = ((Lib.ctz 64 x.toNat : Nat) : Int) := by unfold wrap64; omega
  clear hI hIn hneg hlow htab hx0 hi hx ht hk
  unfold tzN
  generalize Lib.ctz 64 x.toNat = s at *
  go_enter Tryd.func32, Tryd.ntmps32
  go_wp2
  go_ret
  refine ⟨?_, rfl⟩
  show Ending.returned (.int .i64 (wrap64 (s : Int))) = _
  rw [hw]
end Go.Proofs.YtadaaihbeapibaaDoor
