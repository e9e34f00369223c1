/- The example of wide (awake); the walk of the statement WideSums: for all numbers of two words. -/
import Derived.Test.YtgekdcedijbmaaaDoorBitQ
import Derived.Test.YtgekdcedijbmaaaDoorClass
import Derived.Deep.RegionLaw
import Derived.Deep.RegionWith
import Derived.Handy
set_option maxRecDepth 100000
namespace Go.Bv
open Go Go.RowKit
/-- the two words of a number, in a box -/
def Cw2 (w : World) (b : Nat) (x y : BitVec 64) : Prop := w.cell? ⟨b, 0, none⟩ = some (.int .u64 (W64 x)) ∧ w.cell? ⟨b, 1, none⟩ = some (.int .u64 (W64 y))
theorem Cw2.stay {w w' : World} {b : Nat} {x y : BitVec 64} (h : Cw2 w b x y) (hn : New w w') : Cw2 w' b x y := by
  have hb : b < w.heap.size := World.block_lt_of_cell? w ⟨b, 0, none⟩ h.1
  exact ⟨by rw [hn.cell (a := ⟨b, 0, none⟩) hb]; exact h.1, by rw [hn.cell (a := ⟨b, 1, none⟩) hb]; exact h.2⟩
theorem c2_new (w : World) (t : TypeId) (x y : BitVec 64) : Cw2 (w.alloc (.cells #[.int .u64 (W64 x), .int .u64 (W64 y)] t)) w.heap.size x y :=
  ⟨by rw [World.cell?_alloc_new]; rfl, by rw [World.cell?_alloc_new]; rfl⟩
theorem mod_hi (N : Nat) : BitVec.ofNat 64 (N % 2 ^ 128 / 2 ^ 64) = BitVec.ofNat 64 (N / 2 ^ 64) := by
  apply BitVec.eq_of_toNat_eq; rw [BitVec.toNat_ofNat, BitVec.toNat_ofNat]
  rw [show (2 : Nat) ^ 128 = 2 ^ 64 * 2 ^ 64 from by rw [← Nat.pow_add], Nat.mod_mul_right_div_self, Nat.mod_mod]
theorem mod_lo (N : Nat) : BitVec.ofNat 64 (N % 2 ^ 128) = BitVec.ofNat 64 N := by
  apply BitVec.eq_of_toNat_eq; rw [BitVec.toNat_ofNat, BitVec.toNat_ofNat]
  rw [show (2 : Nat) ^ 128 = 2 ^ 64 * 2 ^ 64 from by rw [← Nat.pow_add], Nat.mod_mul_right_mod]
end Go.Bv
namespace Go.Proofs.YtgekdcedijbmaaaDoor
open Go.RowKit Go.Bv
set_option linter.unusedVariables false
set_option maxHeartbeats 1000000 in
theorem plain00 (w : World) : Calls Tryd.prog 16 #[.string ⟨#[48, 48]⟩] w fun e w' => e = .returned (.bool false) ∧ w' = w := by
  go_enter Tryd.func16, Tryd.ntmps16
  go_wp2
  go_loopw [6] (fun i wr => ∃ k : Nat, k ≤ 2 ∧ i = .int .i64 k ∧ wr = w) (fun i _ => 2 - (intOf i).toNat)
  case atStart => exact ⟨0, by omega, rfl, rfl⟩
  case round =>
    obtain ⟨k, hk, rfl, rfl⟩ := hrel
    have hc : k = 0 ∨ k = 1 ∨ k = 2 := by omega
    rcases hc with rfl | rfl | rfl
    · go_wp2
      exact ⟨⟨1, by omega, by go_num, trivial⟩, by simp [intOf]⟩
    · go_wp2
      exact ⟨⟨2, by omega, by go_num, trivial⟩, by simp [intOf]⟩
    · go_wp2
      go_ret
      exact ⟨rfl, rfl⟩
set_option maxHeartbeats 1000000 in
theorem read00 (w : World) : Calls Tryd.prog 6 #[.string ⟨#[48, 48]⟩] w fun e w' => e = .returned (.tuple #[.agg #[.int .u64 0, .int .u64 0, .int .u64 0, .int .u64 0], .int .i64 5]) ∧ New w w' := by
  go_enter Tryd.func6, Tryd.ntmps6
  go_wp2_with fail
  refine (plain00 _).mono ?_
  rintro e w1 ⟨rfl, rfl⟩
  go_wp2
  go_returns
  exact ⟨rfl, (New.refl _).alloc _⟩
theorem mul_ex (w : World) : Calls Tryd.prog 11 #[.int .u64 9223372036854775808, .int .u64 2] w fun e w' => e = .returned (.agg #[.int .u64 1, .int .u64 0]) ∧ New w w' := by
  have h := wmul_any 9223372036854775808#64 2#64 w
  rw [show hiN ((9223372036854775808#64).toNat * (2#64).toNat) = 1#64 by decide +kernel, show loN ((9223372036854775808#64).toNat * (2#64).toNat) = 0#64 by decide +kernel,
    show W64 9223372036854775808#64 = 9223372036854775808 from W64_lit 9223372036854775808 (by omega), show W64 2#64 = 2 from W64_lit 2 (by omega), show W64 1#64 = 1 from W64_lit 1 (by omega), lo_zero] at h
  exact h
theorem equ_ex (w : World) : (Op.equalIn 10000 38 (.agg #[.int .u64 1, .int .u64 0]) (.agg #[.int .u64 1, .int .u64 0])).run Tryd.prog w = .ok true w := by
  have h := equ128 w 1#64 0#64 1#64 0#64
  rw [show W64 1#64 = 1 from W64_lit 1 (by omega), lo_zero] at h
  exact h
theorem cmp_ex (w : World) : Calls Tryd.prog 12 #[.agg #[.int .u64 0, .int .u64 1], .agg #[.int .u64 0, .int .u64 0]] w fun e w' => e = .returned (.int .i64 1) ∧ New w w' := by
  have h := wcmp_two 0#64 1#64 0#64 0#64 w
  rw [show (if two 0#64 1#64 < two 0#64 0#64 then (-1 : Int) else if two 0#64 0#64 < two 0#64 1#64 then 1 else 0) = 1 by decide +kernel,
    show W64 1#64 = 1 from W64_lit 1 (by omega), lo_zero] at h
  exact h
set_option maxHeartbeats 1000000 in
theorem awake01 (w : World) : Calls Tryd.prog 4 #[] w fun e w' => e = .returned (.bool true) ∧ New w w' := by
  have heq := equ_ex
  go_enter Tryd.func4, Tryd.ntmps4
  go_wp2_with fail
  refine (read00 _).mono ?_
  rintro e w1 ⟨rfl, hn1⟩
  go_wp2_with fail
  refine (mul_ex _).mono ?_
  rintro e w2 ⟨rfl, hn2⟩
  go_wp2_with fail
  refine (cmp_ex _).mono ?_
  rintro e w3 ⟨rfl, hn3⟩
  go_wp2
  go_ret
  exact ⟨rfl, ((hn1.alloc _).trans hn2).trans hn3⟩
end Go.Proofs.YtgekdcedijbmaaaDoor
