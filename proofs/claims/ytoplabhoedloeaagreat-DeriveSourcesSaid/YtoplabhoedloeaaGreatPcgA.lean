/- Contracts of the functions of package pcg32, of the document's own answers beside it, and of load.Rot32: what each call returns, for every word. -/
import Derived.Test.YtoplabhoedloeaaGreatProg
import Derived.Test.YtoplabhoedloeaaGreatRot
namespace Go.Proofs.YtoplabhoedloeaaGreat
open Go.RowKit Go.Bv
set_option linter.unusedVariables false
set_option maxRecDepth 100000

set_option maxHeartbeats 400000 in
theorem rot32_any (x : Int) (hx : 0 ≤ x ∧ x < 4294967296) (n : Int) (w : World) :
    Calls Tryz.prog 145 #[.int .u32 x, .int .i64 n] w fun e w' => e = .returned (.int .u32 (W32 ((BitVec.ofInt 32 x).rotateLeft (n % 32).toNat))) ∧ w' = w := by
  obtain ⟨x, rfl⟩ := ex32 x hx
  rw [ofInt_W32]
  go_enter Tryz.func145, Tryz.ntmps145
  go_wp2
  go_ret
  exact ⟨ret32 (rot32_prog x n), rfl⟩
/-- the factor of pcg32 -/
def T13 : BitVec 64 := 6364136223846793005#64
def out13 (s : BitVec 64) : BitVec 32 := (((s >>> 18 ^^^ s) >>> 27).setWidth 32).rotateLeft ((-W32 ((s >>> 59).setWidth 32)) % 32).toNat
def step13 (s inc : BitVec 64) : BitVec 64 := s * T13 + (inc ||| 1#64)
set_option maxHeartbeats 400000 in
theorem step_any (s inc : Int) (w : World) :
    Calls Tryz.prog 102 #[.int .u64 s, .int .u64 inc] w fun e w' => e = .returned (.int .u64 (W64 (step13 (BitVec.ofInt 64 s) (BitVec.ofInt 64 inc)))) ∧ w' = w := by
  go_enter Tryz.func102, Tryz.ntmps102
  go_wp2
  go_ret
  exact ⟨ret64 rfl, rfl⟩
set_option maxHeartbeats 400000 in
theorem seed_any (s t : Int) (w : World) :
    Calls Tryz.prog 67 #[.int .u64 s, .int .u64 t] w fun e w' => e = .returned (.tuple #[.int .u64 (W64 (step13 (step13 0 (2 * BitVec.ofInt 64 t + 1) + BitVec.ofInt 64 s) (2 * BitVec.ofInt 64 t + 1))), .int .u64 (W64 (2 * BitVec.ofInt 64 t + 1))]) ∧ w' = w := by
  go_enter Tryz.func67, Tryz.ntmps67
  go_wp2_with (go_at_call 102; refine (step_any _ _ _).mono ?_; rintro e w' ⟨rfl, rfl⟩)
  go_ret2
  exact ⟨rfl, rfl⟩
set_option maxHeartbeats 400000 in
theorem piece_any (s : Int) (hs : 0 ≤ s ∧ s < 18446744073709551616) (n : Int) (hn : 0 ≤ n) (w : World) :
    Calls Tryz.prog 144 #[.int .u64 s, .int .i64 n] w fun e w' => e = .returned (.int .u32 (W32 ((BitVec.ofInt 64 s >>> n.toNat).setWidth 32))) ∧ w' = w := by
  obtain ⟨x, rfl⟩ := ex64 s hs
  rw [ofInt_W64]
  go_enter Tryz.func144, Tryz.ntmps144
  go_wp2
  go_ret
  exact ⟨ret32 rfl, rfl⟩
theorem w32_small (y : BitVec 64) (h : y.toNat < 4294967296) : W32 (y.setWidth 32) = (y.toNat : Int) := by
  unfold W32; rw [BitVec.toNat_setWidth, Nat.mod_eq_of_lt h]
set_option maxHeartbeats 400000 in
theorem out_any (s : Int) (hs : 0 ≤ s ∧ s < 18446744073709551616) (w : World) :
    Calls Tryz.prog 103 #[.int .u64 s] w fun e w' => e = .returned (.int .u32 (W32 (out13 (BitVec.ofInt 64 s)))) ∧ w' = w := by
  obtain ⟨x, rfl⟩ := ex64 s hs
  rw [ofInt_W64]
  go_enter Tryz.func103, Tryz.ntmps103
  go_wp2_with (first | (go_at_call 144; refine (piece_any _ (b64 _) _ (by omega) _).mono ?_; rintro e w' ⟨rfl, rfl⟩) | (go_at_call 145; refine (rot32_any _ (b32 _) _ _).mono ?_; rintro e w' ⟨rfl, rfl⟩))
  go_ret
  exact ⟨ret32 rfl, rfl⟩

/-! ### the document's own answers -/
theorem odd13 (x : BitVec 64) : (if x % 2#64 = 0#64 then x + 1#64 else x) = x ||| 1#64 := by
  have hm : ∀ i, (x % 2#64).getLsbD i = (decide (i < 1) && x.getLsbD i) := fun i => mod_low x 1 (by omega) i
  by_cases h : x % 2#64 = 0#64
  · rw [if_pos h]
    apply BitVec.add_eq_or_of_and_eq_zero
    have h0 := hm 0
    rw [h] at h0
    apply BitVec.eq_of_getLsbD_eq
    intro i hi
    by_cases e : i = 0
    · subst e; simpa using h0
    · simp; omega
  · rw [if_neg h]
    have h0 : x.getLsbD 0 = true := by
      rcases hb : x.getLsbD 0 with _ | _
      · exfalso; apply h
        apply BitVec.eq_of_getLsbD_eq
        intro i hi
        rw [hm i]
        by_cases e : i = 0
        · subst e; rw [hb]; rfl
        · simp; omega
      · rfl
    apply BitVec.eq_of_getLsbD_eq
    intro i hi
    by_cases e : i = 0
    · subst e; simpa using h0
    · simp; omega
set_option maxHeartbeats 400000 in
theorem step_ref (s inc : Int) (hs : 0 ≤ s ∧ s < 18446744073709551616) (hi : 0 ≤ inc ∧ inc < 18446744073709551616) (w : World) :
    Calls Tryz.prog 17 #[.int .u64 s, .int .u64 inc] w fun e w' => e = .returned (.int .u64 (W64 (step13 (BitVec.ofInt 64 s) (BitVec.ofInt 64 inc)))) ∧ w' = w := by
  obtain ⟨x, rfl⟩ := ex64 s hs
  obtain ⟨y, rfl⟩ := ex64 inc hi
  rw [ofInt_W64, ofInt_W64]
  go_enter Tryz.func17, Tryz.ntmps17
  go_wp2
  all_goals (go_ret; refine ⟨ret64 ?_, rfl⟩; rw [step13, ← odd13])
  · rw [if_pos (beq_iff_eq.1 (by assumption))]; rfl
  · rw [if_neg (beq_eq_false_iff_ne.1 (by assumption))]; rfl
end Go.Proofs.YtoplabhoedloeaaGreat
