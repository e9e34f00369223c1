/- strpoly: Eval's errors, Append's errors. -/
import Derived.Test.YtiboncnfepnjcaaStrE
namespace Go.Proofs.Ytiboncnfepnjcaa
open Go Go.RowKit Go.Bv
set_option linter.unusedVariables false
set_option maxHeartbeats 2000000 in
theorem seval_any (x : BitVec 64) (a : Option Addr) (n c : Nat) (l : List (BitVec 8)) (w : World) (h : BRow w a n c l) :
    Calls Try.prog 47 #[.int .u64 (W64 x), .slice a n c] w fun e w' => e = .returned (.tuple #[.int .u64 (W64 (seV x l)), .int .i64 (seE x n)]) ∧ New w w' := by
  have hl := h.len_eq
  have hm := h.most
  by_cases h1 : 4096 < (n : Int)
  · have e1 : seE x n = 4 := by unfold seE; rw [if_pos (by omega)]
    have e2 : seV x l = 0#64 := by unfold seV; rw [hl, e1]; rfl
    rw [e1, e2, lo_zero]
    clear e1 e2 hl h
    go_enter Try.func47, Try.ntmps47
    go_wp2
    go_ret2
    exact ⟨rfl, (New.refl _).alloc _⟩
  · by_cases h2 : PP ≤ x.toNat
    · have e1 : seE x n = 2 := by unfold seE; rw [if_neg (by omega), if_pos h2]
      have e2 : seV x l = 0#64 := by unfold seV; rw [hl, e1]; rfl
      have hg : decide (2305843009213693951 ≤ W64 x) = true := decide_eq_true (by unfold PP at h2; unfold W64; omega)
      rw [e1, e2, lo_zero]
      clear e1 e2 hl h h2
      go_enter Try.func47, Try.ntmps47
      go_wp2
      go_ret2
      exact ⟨rfl, (New.refl _).alloc _⟩
    · have e1 : seE x n = 0 := by unfold seE; rw [if_neg (by omega), if_neg h2]
      have e2 : seV x l = hor x (chL l) := by unfold seV; rw [hl, e1, hor_value]; rfl
      rw [e1, e2]
      exact seval_ok x a n c l w h (by omega) (by omega)
set_option maxHeartbeats 2000000 in
theorem sapp_bad (a h x : BitVec 64) (hb : ¬ (a.toNat < PP ∧ h.toNat < PP ∧ x.toNat < PP)) (w : World) :
    Calls Try.prog 49 #[.int .u64 (W64 a), .int .u64 (W64 h), .int .u64 (W64 x)] w fun e w' => e = .returned (.tuple #[.int .u64 0, .int .i64 2]) ∧ New w w' := by
  by_cases ha : a.toNat < PP
  · have g1 : decide (2305843009213693951 ≤ W64 a) = false := decide_eq_false (by unfold PP at ha; unfold W64; omega)
    by_cases hh : h.toNat < PP
    · exact sapp_no a h x ha hh (fun hx => hb ⟨ha, hh, hx⟩) w
    · have g2 : decide (2305843009213693951 ≤ W64 h) = true := decide_eq_true (by unfold PP at hh; unfold W64; omega)
      clear ha hh hb
      go_enter Try.func49, Try.ntmps49
      go_wp2
      go_ret2
      exact ⟨rfl, New.refl _⟩
  · have g1 : decide (2305843009213693951 ≤ W64 a) = true := decide_eq_true (by unfold PP at ha; unfold W64; omega)
    clear ha hb
    go_enter Try.func49, Try.ntmps49
    go_wp2
    go_ret2
    exact ⟨rfl, New.refl _⟩
end Go.Proofs.Ytiboncnfepnjcaa
