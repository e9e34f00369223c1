/- Contracts of layer 39: Bits, yields and the function that it hands back. -/
import Derived.Test.YtipfkegpiimefaaTapE
import Derived.Test.YtipfkegpiimefaaLemD
namespace Go.Bv
open Go Go.RowKit
/-- how many bits a limit less 1 has -/
def bitsM (n : BitVec 64) : Nat := if n = 0#64 then 0 else Lib.bitLen (n - 1#64).toNat
/-- what a word tells -/
def telM (x n : BitVec 64) : BitVec 64 := x &&& (1#64 <<< bitsM n - 1#64)
/-- whether a word is taken -/
def takM (x n : BitVec 64) : Bool := decide (W64 (telM x n) < W64 n)
theorem bitLen_up (x : Nat) (h : x < 2 ^ 64) : Lib.bitLen x ≤ 64 ∧ (x ≠ 0 → 1 ≤ Lib.bitLen x ∧ 2 ^ (Lib.bitLen x - 1) ≤ x ∧ x < 2 ^ Lib.bitLen x) ∧ (x = 0 → Lib.bitLen x = 0) := by
  refine ⟨?_, fun h0 => Lib.bitLenAux_bounds 64 x h h0, fun h0 => by subst h0; exact Lib.bitLenAux_zero 64⟩
  by_cases h0 : x = 0
  · subst h0; unfold Lib.bitLen; rw [Lib.bitLenAux_zero]; omega
  · obtain ⟨h1, h2, h3⟩ := Lib.bitLenAux_bounds 64 x h h0
    have h4 : 2 ^ (Lib.bitLenAux 64 x - 1) < 2 ^ 64 := Nat.lt_of_le_of_lt h2 h
    have h5 := (Nat.pow_lt_pow_iff_right (by omega : 1 < 2)).1 h4
    unfold Lib.bitLen; omega
theorem bitsM_le (n : BitVec 64) : bitsM n ≤ 64 := by
  unfold bitsM; split
  · omega
  · exact (bitLen_up _ (n - 1#64).isLt).1
end Go.Bv
namespace Go.Proofs.Ytipfkegpiimefaa
open Go.RowKit Go.Bv
set_option linter.unusedVariables false
set_option maxHeartbeats 1000000 in
theorem bits_m (n : BitVec 64) (w : World) : Calls Try.prog 34 #[.int .u64 (W64 n)] w fun e w' => e = .returned (.int .i64 ((bitsM n : Nat) : Int)) ∧ w' = w := by
  have HB := Lib.hid (fun w => Try.bits_Len64 (W64 (n - 1#64)) w (by unfold W64; omega) (by have := (n - 1#64).isLt; unfold W64; omega))
  unfold bitsM
  by_cases h : n = 0#64
  · subst h
    rw [if_pos rfl]
    clear HB
    go_enter Try.func34, Try.ntmps34
    go_wp2
    go_ret
    exact ⟨rfl, rfl⟩
  · rw [if_neg h]
    have hz2 : (W64 n == 0) = false := by
      have := pos_of_ne h
      rw [beq_eq_false_iff_ne]; unfold W64; omega
    have hz3 : (n == 0#64) = false := beq_false_of_ne h
    obtain ⟨s, hs⟩ : ∃ s, Lib.bitLen (n - 1#64).toNat = s := ⟨_, rfl⟩
    rw [hs]
    rw [show (W64 (n - 1#64)).toNat = (n - 1#64).toNat from toNat_W64 _, hs] at HB
    clear hs
    clear h
    go_enter Try.func34, Try.ntmps34
    go_wp2_with fail
    refine (HB.out _).mono ?_
    rintro e w' ⟨rfl, rfl⟩
    go_wp2
    go_ret
    exact ⟨rfl, rfl⟩
set_option maxHeartbeats 1000000 in
theorem yields_m (n : BitVec 64) (w : World) : Calls Try.prog 68 #[.int .u64 (W64 n)] w fun e w' =>
    ∃ p q, e = .returned (.func (Fn.func 77) #[] #[.pointer (some ⟨p, 0, none⟩), .pointer (some ⟨q, 0, none⟩)]) ∧
      w'.heap[p]? = some (.cells #[.int .u64 (W64 (1#64 <<< bitsM n - 1#64))] 28 (0, 0)) ∧ w'.heap[q]? = some (.cells #[.int .u64 (W64 n)] 28 (0, 0)) ∧ New w w' ∧ w.heap.size ≤ p ∧ w.heap.size ≤ q := by
  have hmf : ∀ (fn : Fn) (first cap : Array Value) (w : World), (Instr.makeFunc fn first cap).run Try.prog w = .ok (.func fn first cap) w := fun _ _ _ _ => rfl
  have HB := Lib.hid (bits_m n)
  have hs := bitsM_le n
  generalize bitsM n = s at *
  go_enter Try.func68, Try.ntmps68
  go_wp2_with fail
  refine (HB.out _).mono ?_
  rintro e w' ⟨rfl, rfl⟩
  go_wp2
  obtain ⟨h1, h2, h3⟩ := two_blocks w (.cells #[.int .u64 (W64 n)] 28) (.cells #[.int .u64 (W64 (1#64 <<< s - 1#64))] 28)
  go_ret
  exact ⟨_, _, rfl, h2, h1, h3, by omega, by omega⟩
set_option maxHeartbeats 1000000 in
theorem yield_m (x n low : BitVec 64) (p q : Nat) (w : World) (hp : w.heap[p]? = some (.cells #[.int .u64 (W64 low)] 28 (0, 0))) (hq : w.heap[q]? = some (.cells #[.int .u64 (W64 n)] 28 (0, 0))) :
    Calls Try.prog 77 #[.int .u64 (W64 x), .pointer (some ⟨p, 0, none⟩), .pointer (some ⟨q, 0, none⟩)] w fun e w' =>
      e = .returned (.tuple #[.int .u64 (W64 (x &&& low)), .bool (decide (W64 (x &&& low) < W64 n))]) ∧ New w w' := by
  have c0 := cell_of_row _ _ 0 _ _ _ hp
  have c1 := cell_of_row _ _ 0 _ _ _ hq
  clear hp hq
  go_enter Try.func77, Try.ntmps77
  go_wp2_with fail
  go_region
  go_wp2
  go_ret2
  exact ⟨rfl, (New.refl w).drew⟩
end Go.Proofs.Ytipfkegpiimefaa
