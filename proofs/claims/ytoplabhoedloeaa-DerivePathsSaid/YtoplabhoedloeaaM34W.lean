/- Layer 34: a seed; which kinds there are; the last word. -/
import Derived.Test.YtoplabhoedloeaaM34G
import Derived.Defers
import Derived.Recover
import Derived.Laws.Pointers
import Derived.Handy
import Derived.Laws.EntriesVeiled
namespace Go.Proofs.Ytoplabhoedloeaa
open Go.RowKit Go.Bv
set_option linter.unusedVariables false
theorem shl_mul34 (lg : BitVec 64) : lg % 256#64 * 72057594037927936#64 = lg <<< 56 := by
  apply BitVec.eq_of_toNat_eq
  rw [BitVec.toNat_mul, BitVec.toNat_umod, BitVec.toNat_shiftLeft, Nat.shiftLeft_eq]
  show (lg.toNat % 256 * 72057594037927936) % 18446744073709551616 = (lg.toNat * 72057594037927936) % 18446744073709551616
  omega
theorem last_word34 (a lg : BitVec 64) (h : a.toNat < 72057594037927936) : a + lg % 256#64 * 72057594037927936#64 = a ||| lg <<< 56 := by
  rw [shl_mul34]
  apply BitVec.add_eq_or_of_and_eq_zero
  apply BitVec.eq_of_getLsbD_eq
  intro i hi
  rw [BitVec.getLsbD_and, BitVec.getLsbD_shiftLeft]
  simp only [BitVec.getLsbD_zero]
  by_cases hlt : i < 56
  · simp [hlt]
  · have : a.getLsbD i = false := by
      apply Nat.testBit_lt_two_pow
      exact Nat.lt_of_lt_of_le h (Nat.pow_le_pow_right (n := 2) (by omega) (show 56 ≤ i by omega))
    simp [this]
theorem rd_small34 (l : List (BitVec 8)) (h : l.length < 8) : (rd l 0 8).toNat < 72057594037927936 := by
  unfold rd
  rw [num_short (fun i => l.getD (0 + i) 0) l.length 8 (by omega) (fun i h1 h2 => by simp [List.getD_eq_getElem?_getD, List.getElem?_eq_none (show l.length ≤ i by omega)])]
  refine Nat.lt_of_lt_of_le (num_lt _ l.length (by omega)) ?_
  exact Nat.le_trans (Nat.pow_le_pow_right (n := 256) (by omega) (show l.length ≤ 7 by omega)) (by decide)
/-- a kind with its rounds, and a key -/
structure Sd34 where
  kind : Int
  kd : Nat × Nat × Bool
  hK : KD kind kd
  key : BitVec 64 × BitVec 64
theorem Sd34.h1 (sd : Sd34) : sd.kd.1 ≤ 100 := by
  rcases sd.hK with ⟨_, h⟩ | ⟨_, h⟩ | ⟨_, h⟩ <;> rw [h] <;> decide
theorem Sd34.h2 (sd : Sd34) : sd.kd.2.1 ≤ 100 := by
  rcases sd.hK with ⟨_, h⟩ | ⟨_, h⟩ | ⟨_, h⟩ <;> rw [h] <;> decide
theorem Sd34.hr (sd : Sd34) : (sd.kind = 7 ∧ sd.kd.1 = 1) ∨ (sd.kind ≠ 7 ∧ sd.kd.1 = 2) := by
  rcases sd.hK with ⟨h0, h⟩ | ⟨h0, h⟩ | ⟨h0, h⟩ <;> rw [h, h0] <;> decide
theorem Sd34.hk (sd : Sd34) : 6 ≤ sd.kind ∧ sd.kind ≤ 8 := by
  rcases sd.hK with ⟨h0, _⟩ | ⟨h0, _⟩ | ⟨h0, _⟩ <;> rw [h0] <;> decide
theorem is_yes34 (sd : Sd34) (w : World) : Calls Try.prog 31 #[.int .i64 sd.kind] w fun e w' => e = .returned (.bool true) ∧ w' = w := by
  obtain ⟨h1, h2⟩ := sd.hk
  generalize sd.kind = k at *
  go_enter Try.func31, Try.ntmps31
  go_wp2
  go_ret
  exact ⟨rfl, rfl⟩
theorem is_no34 (k : Int) (h : ¬ (6 ≤ k ∧ k ≤ 8)) (w : World) : Calls Try.prog 31 #[.int .i64 k] w fun e w' => e = .returned (.bool false) ∧ w' = w := by
  by_cases h1 : 6 ≤ k
  · have h2 : ¬ k ≤ 8 := by omega
    clear h
    go_enter Try.func31, Try.ntmps31
    go_wp2
    go_ret
    exact ⟨rfl, rfl⟩
  · clear h
    go_enter Try.func31, Try.ntmps31
    go_wp2
    go_ret
    exact ⟨rfl, rfl⟩
end Go.Proofs.Ytoplabhoedloeaa
