/- The contract of wide.Shl4: for all counts. -/
import Derived.Test.YtepphoncljlkoaaFouD
import Derived.Test.YtepphoncljlkoaaWidH
namespace Go.Proofs.Ytepphoncljlkoaa
open Go.RowKit Go.Bv
set_option linter.unusedVariables false
set_option maxHeartbeats 2000000 in
theorem shl4_far (a0 a1 a2 a3 kb : BitVec 64) (n : Int) (HC : Hid (∀ w, Calls Try.prog 69 #[.int .i64 n] w fun e w' => e = .returned (.int .u64 (W64 kb)) ∧ w' = w)) (hge : decide (256 ≤ W64 kb) = true) (w : World) :
    Calls Try.prog 40 #[.agg #[.int .u64 (W64 a0), .int .u64 (W64 a1), .int .u64 (W64 a2), .int .u64 (W64 a3)], .int .i64 n] w fun e w' => e = .returned (.agg #[.int .u64 0, .int .u64 0, .int .u64 0, .int .u64 0]) ∧ New w w' := by
  go_enter Try.func40, Try.ntmps40
  go_wp2_with fail
  have hbx := three_b4 w (.cells #[.int .u64 (W64 a0), .int .u64 (W64 a1), .int .u64 (W64 a2), .int .u64 (W64 a3)] 39) (.cells #[.int .u64 0, .int .u64 0, .int .u64 0, .int .u64 0] 39) (.cells #[.int .u64 0, .int .u64 0, .int .u64 0, .int .u64 0] 39)
  generalize ((w.alloc (.cells #[.int .u64 (W64 a0), .int .u64 (W64 a1), .int .u64 (W64 a2), .int .u64 (W64 a3)] 39)).alloc (.cells #[.int .u64 0, .int .u64 0, .int .u64 0, .int .u64 0] 39)).alloc (.cells #[.int .u64 0, .int .u64 0, .int .u64 0, .int .u64 0] 39) = wz at *
  have HBX := Lib.hid hbx
  clear hbx
  refine (HC.out _).mono ?_
  rintro e w9 ⟨rfl, hw⟩
  replace hw := hw.symm
  subst hw
  have q0 : wz.cell? ⟨w.heap.size + 1, 0, none⟩ = some (.int .u64 0) := by rw [cell_of_row _ _ _ _ _ _ HBX.out.2.1]; rfl
  have q1 : wz.cell? ⟨w.heap.size + 1, 1, none⟩ = some (.int .u64 0) := by rw [cell_of_row _ _ _ _ _ _ HBX.out.2.1]; rfl
  have q2 : wz.cell? ⟨w.heap.size + 1, 2, none⟩ = some (.int .u64 0) := by rw [cell_of_row _ _ _ _ _ _ HBX.out.2.1]; rfl
  have q3 : wz.cell? ⟨w.heap.size + 1, 3, none⟩ = some (.int .u64 0) := by rw [cell_of_row _ _ _ _ _ _ HBX.out.2.1]; rfl
  have r0 : wz.cell? ⟨w.heap.size + 2, 0, none⟩ = some (.int .u64 0) := by rw [cell_of_row _ _ _ _ _ _ HBX.out.2.2.1]; rfl
  have r1 : wz.cell? ⟨w.heap.size + 2, 1, none⟩ = some (.int .u64 0) := by rw [cell_of_row _ _ _ _ _ _ HBX.out.2.2.1]; rfl
  have r2 : wz.cell? ⟨w.heap.size + 2, 2, none⟩ = some (.int .u64 0) := by rw [cell_of_row _ _ _ _ _ _ HBX.out.2.2.1]; rfl
  have r3 : wz.cell? ⟨w.heap.size + 2, 3, none⟩ = some (.int .u64 0) := by rw [cell_of_row _ _ _ _ _ _ HBX.out.2.2.1]; rfl
  have hF := fun i => frozen_of_row _ _ i _ _ HBX.out.2.1
  have HN := Lib.hid HBX.out.2.2.2
  clear HBX HC
  go_wp2
  refine bodyPost_ret (by simp [results, Try.results40, go_sem, q0, q1, q2, q3]; try rfl) rfl ?_
  exact ⟨rfl, (((HN.out.setCell (by simp; try omega) _).setCell (by simp; try omega) _).setCell (by simp; try omega) _).setCell (by simp; try omega) _⟩
theorem wshl4 (a0 a1 a2 a3 : BitVec 64) (n : Int) (K m : Nat) (hK : max n 0 = (K : Int)) (hn : n ≤ 9223372036854775807) (hm : min K 256 = m) (w : World) :
    Calls Try.prog 40 #[.agg #[.int .u64 (W64 a0), .int .u64 (W64 a1), .int .u64 (W64 a2), .int .u64 (W64 a3)], .int .i64 n] w fun e w' => e = .returned (.agg #[.int .u64 (W64 (BitVec.ofNat 64 (four a0 a1 a2 a3 * 2 ^ m))), .int .u64 (W64 (BitVec.ofNat 64 (four a0 a1 a2 a3 * 2 ^ m / 2 ^ 64))), .int .u64 (W64 (BitVec.ofNat 64 (four a0 a1 a2 a3 * 2 ^ m / 2 ^ 128))), .int .u64 (W64 (BitVec.ofNat 64 (four a0 a1 a2 a3 * 2 ^ m / 2 ^ 192)))]) ∧ New w w' := by
  have hc := fun w => count_any n w
  rw [hK, BitVec.ofInt_natCast] at hc
  have hkb : (BitVec.ofNat 64 K).toNat = K := by rw [BitVec.toNat_ofNat]; omega
  have e0 : four a0 a1 a2 a3 * 2 ^ m = four a0 a1 a2 a3 * 2 ^ m / 2 ^ 0 := by rw [Nat.pow_zero, Nat.div_one]
  rw [show BitVec.ofNat 64 (four a0 a1 a2 a3 * 2 ^ m) = BitVec.ofNat 64 (four a0 a1 a2 a3 * 2 ^ m / 2 ^ 0) from congrArg _ e0]
  clear e0
  generalize BitVec.ofNat 64 K = kb at *
  by_cases h : 256 ≤ K
  · obtain rfl : m = 256 := by omega
    rw [← shl_none _ 256 0 (by omega), ← shl_none _ 256 64 (by omega), ← shl_none _ 256 128 (by omega), ← shl_none _ 256 192 (by omega), lo_zero]
    exact shl4_far a0 a1 a2 a3 kb n (Lib.hid hc) (decide_eq_true (by unfold W64; omega)) w
  · have hge : decide (256 ≤ W64 kb) = false := decide_eq_false (by unfold W64; omega)
    obtain rfl : m = K := by omega
    obtain ⟨k, hk⟩ : ∃ k, m % 64 = k := ⟨_, rfl⟩
    have hkl : k < 64 := by omega
    have hr : N64 (kb % 64#64) = k := by show (kb % 64#64).toNat = k; rw [BitVec.toNat_umod, hkb]; exact hk
    have hs : N64 (64#64 - kb % 64#64) = 64 - k := by
      show (64#64 - kb % 64#64).toNat = _
      have h5 : (kb % 64#64).toNat = k := hr
      rw [BitVec.toNat_sub, h5]; show (2 ^ 64 - k + 64) % 2 ^ 64 = _; omega
    have hd : ∀ W : Nat, m / 64 = W → W < 64 → kb / 64#64 = BitVec.ofNat 64 W := fun W hW hl => by
      apply BitVec.eq_of_toNat_eq
      rw [BitVec.toNat_udiv, hkb, BitVec.toNat_ofNat]
      show m / 64 = W % 2 ^ 64
      omega
    rcases (show m / 64 = 0 ∨ m / 64 = 1 ∨ m / 64 = 2 ∨ m / 64 = 3 by omega) with hW | hW | hW | hW
    · have hmk : m = 0 + k := by omega
      have r := shl4_0 a0 a1 a2 a3 kb (kb % 64#64) k _ _ _ _ _ _ _ (Lib.hid rfl) (Lib.hid rfl) (Lib.hid rfl) (Lib.hid rfl) (Lib.hid rfl) (Lib.hid rfl) (Lib.hid rfl) n (Lib.hid hc) (hd 0 hW (by omega)) rfl hr hs hge hkl w
      rw [shl_first a0 a1 a2 a3 0 k, shl_next1 a0 a1 a2 a3 0 k hkl, shl_next2 a0 a1 a2 a3 0 k hkl, shl_next3 a0 a1 a2 a3 0 k hkl, ← hmk] at r
      exact r
    · have hmk : m = 64 + k := by omega
      have r := shl4_1 a0 a1 a2 a3 kb (kb % 64#64) k _ _ _ _ _ (Lib.hid rfl) (Lib.hid rfl) (Lib.hid rfl) (Lib.hid rfl) (Lib.hid rfl) n (Lib.hid hc) (hd 1 hW (by omega)) rfl hr hs hge hkl w
      rw [shl_first a0 a1 a2 a3 64 k, shl_next1 a0 a1 a2 a3 64 k hkl, shl_next2 a0 a1 a2 a3 64 k hkl, ← hmk] at r
      rw [← shl_none _ m 0 (by omega), lo_zero]
      exact r
    · have hmk : m = 128 + k := by omega
      have r := shl4_2 a0 a1 a2 a3 kb (kb % 64#64) k _ _ _ (Lib.hid rfl) (Lib.hid rfl) (Lib.hid rfl) n (Lib.hid hc) (hd 2 hW (by omega)) rfl hr hs hge hkl w
      rw [shl_first a0 a1 a2 a3 128 k, shl_next1 a0 a1 a2 a3 128 k hkl, ← hmk] at r
      rw [← shl_none _ m 0 (by omega), ← shl_none _ m 64 (by omega), lo_zero]
      exact r
    · have hmk : m = 192 + k := by omega
      have r := shl4_3 a0 a1 a2 a3 kb (kb % 64#64) k _ (Lib.hid rfl) n (Lib.hid hc) (hd 3 hW (by omega)) rfl hr hs hge hkl w
      rw [shl_first a0 a1 a2 a3 192 k, ← hmk] at r
      rw [← shl_none _ m 0 (by omega), ← shl_none _ m 64 (by omega), ← shl_none _ m 128 (by omega), lo_zero]
      exact r
end Go.Proofs.Ytepphoncljlkoaa
