/- The example of wide (awake); the walk of the statement WideSums: for all numbers of two words. -/
import Derived.Test.YtagidgboebjkhaaDoorBitQ
import Derived.Test.YtagidgboebjkhaaDoorClass
import Derived.Deep.RegionLaw
import Derived.Deep.RegionWith
import Derived.Handy
set_option maxRecDepth 100000
namespace Go.Bv
open Go Go.RowKit
/-- the two words of a number, in a box -/
def Cw2 (w : World) (b : Nat) (x y : BitVec 64) : Prop := w.cell? ⟨b, 0, none⟩ = some (.int .u64 (W64 x)) ∧ w.cell? ⟨b, 1, none⟩ = some (.int .u64 (W64 y))
theorem Cw2.stay {w w' : World} {b : Nat} {x y : BitVec 64} (h : Cw2 w b x y) (hn : New w w') : Cw2 w' b x y := by
  have hb : b < w.heap.size := World.block_lt_of_cell? w ⟨b, 0, none⟩ h.1
  exact ⟨by rw [hn.cell (a := ⟨b, 0, none⟩) hb]; exact h.1, by rw [hn.cell (a := ⟨b, 1, none⟩) hb]; exact h.2⟩
theorem c2_new (w : World) (t : TypeId) (x y : BitVec 64) : Cw2 (w.alloc (.cells #[.int .u64 (W64 x), .int .u64 (W64 y)] t)) w.heap.size x y :=
  ⟨by rw [World.cell?_alloc_new]; rfl, by rw [World.cell?_alloc_new]; rfl⟩
theorem mod_hi (N : Nat) : BitVec.ofNat 64 (N % 2 ^ 128 / 2 ^ 64) = BitVec.ofNat 64 (N / 2 ^ 64) := by
  apply BitVec.eq_of_toNat_eq; rw [BitVec.toNat_ofNat, BitVec.toNat_ofNat]
  rw [show (2 : Nat) ^ 128 = 2 ^ 64 * 2 ^ 64 from by rw [← Nat.pow_add], Nat.mod_mul_right_div_self, Nat.mod_mod]
theorem mod_lo (N : Nat) : BitVec.ofNat 64 (N % 2 ^ 128) = BitVec.ofNat 64 N := by
  apply BitVec.eq_of_toNat_eq; rw [BitVec.toNat_ofNat, BitVec.toNat_ofNat]
  rw [show (2 : Nat) ^ 128 = 2 ^ 64 * 2 ^ 64 from by rw [← Nat.pow_add], Nat.mod_mul_right_mod]
end Go.Bv
namespace Go.Proofs.YtagidgboebjkhaaDoor
open Go.RowKit Go.Bv
set_option linter.unusedVariables false
theorem to2_mod (N c : Nat) (a : Option Addr) (w : World) (hr : ZRow w a 128 c (bitsOf N 128)) :
    Calls Tryd.prog 22 #[.slice a 128 c] w fun e w' => e = .returned (.agg #[.int .u64 (W64 (BitVec.ofNat 64 (N / 2 ^ 64))), .int .u64 (W64 (BitVec.ofNat 64 N))]) ∧ New w w' := by
  rw [← bitsOf_mod] at hr
  have h := to2_any (N % 2 ^ 128) 128 c a w hr (Nat.mod_lt _ (Nat.two_pow_pos _))
  rw [mod_hi, mod_lo] at h
  exact h
theorem equ_ex (w : World) : (Op.equalIn 10000 26 (.agg #[.int .u64 1, .int .u64 0]) (.agg #[.int .u64 1, .int .u64 0])).run Tryd.prog w = .ok true w := by
  have h := equ128 w 1#64 0#64 1#64 0#64
  rw [show W64 1#64 = 1 from W64_lit 1 (by omega), lo_zero] at h
  exact h
theorem cmp_ex (w : World) : Calls Tryd.prog 23 #[.agg #[.int .u64 0, .int .u64 1], .agg #[.int .u64 0, .int .u64 0]] w fun e w' => e = .returned (.int .i64 1) ∧ New w w' := by
  have h := wcmp_two 0#64 1#64 0#64 0#64 w
  rw [show (if two 0#64 1#64 < two 0#64 0#64 then (-1 : Int) else if two 0#64 0#64 < two 0#64 1#64 then 1 else 0) = 1 by decide +kernel,
    show W64 1#64 = 1 from W64_lit 1 (by omega), lo_zero] at h
  exact h
end Go.Proofs.YtagidgboebjkhaaDoor
