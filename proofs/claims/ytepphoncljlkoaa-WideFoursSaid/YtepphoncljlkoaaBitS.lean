/- Contracts of the document's own Shr and Len: for all lists of bits. -/
import Derived.Test.YtepphoncljlkoaaBitM
namespace Go.Bv
open Go Go.RowKit
theorem shr_bit (A b i : Nat) : bt (A / 2 ^ b) i = btI A ((i : Int) + (b : Int)) := by
  rw [show (i : Int) + (b : Int) = ((i + b : Nat) : Int) by omega, btI_nat]
  unfold bt
  rw [Nat.div_div_eq_div_mul, ← Nat.pow_add, Nat.add_comm b i]
/-- one more than the greatest bit that is set, below k -/
def lenN (A : Nat) : Nat → Nat
  | 0 => 0
  | k + 1 => if A / 2 ^ k % 2 = 1 then k + 1 else lenN A k
theorem lenN_zero (A : Nat) : ∀ k, lenN A k = 0 → A % 2 ^ k = 0
  | 0, _ => by rw [Nat.pow_zero, Nat.mod_one]
  | k + 1, h => by
    unfold lenN at h
    by_cases h1 : A / 2 ^ k % 2 = 1
    · rw [if_pos h1] at h; omega
    · rw [if_neg h1] at h
      rw [mod_bit, lenN_zero A k h, show A / 2 ^ k % 2 = 0 by omega, Nat.mul_zero]
theorem lenN_le (A : Nat) : ∀ k, lenN A k ≤ k
  | 0 => Nat.le_refl _
  | k + 1 => by
    have := lenN_le A k
    unfold lenN; split <;> omega
theorem lenN_pos {A n : Nat} (h : A < 2 ^ n) (h0 : A ≠ 0) : lenN A n ≠ 0 := by
  intro e
  have := lenN_zero A n e
  rw [Nat.mod_eq_of_lt h] at this
  exact h0 this
end Go.Bv
namespace Go.Proofs.Ytepphoncljlkoaa
open Go.RowKit Go.Bv
set_option linter.unusedVariables false
set_option maxHeartbeats 1000000 in
theorem bshr_own (A na ca by_ : Nat) (a : Option Addr) (n : Int) (m : Nat) (hnm : n = (m : Int)) (hm : m ≤ 4096) (hby : by_ ≤ 4096) (w : World) (ha : ZRow w a na ca (bitsOf A na)) (hA : A < 2 ^ na) :
    Calls Try.prog 29 #[.slice a na ca, .int .i64 (by_ : Int), .int .i64 n] w fun e w' =>
      ∃ v, e = .returned v ∧ w'.ownsRow w.heap.size 3 1 v m ((bitsOf (A / 2 ^ by_) m).map fun y => .int .i64 y) ∧ New w w' := by
  subst hnm
  obtain ⟨i0, hi, hz0, hz1, hz2⟩ := info_parts info_int
  go_enter Try.func29, Try.ntmps29
  go_wp2
  go_loopw [7, 8] (fun v i wr => ∃ k : Nat, k ≤ m ∧ i = .int .i64 k ∧ wr.ownsRow w.heap.size 3 1 v k ((bitsOf (A / 2 ^ by_) k).map fun y => .int .i64 y) ∧ New w wr) (fun _ i _ => m - (intOf i).toNat)
  case atStart => exact ⟨0, by omega, rfl, World.ownsRow_nil w _ _ 1, New.refl w⟩
  case round =>
    obtain ⟨k, hk, rfl, hown, hnew⟩ := hrel
    by_cases hlt : (k : Int) < m
    · have ha' := ha.stay hnew
      have e1 : wrap64 ((k : Int) + (by_ : Int)) = (k : Int) + (by_ : Int) := by unfold wrap64; omega
      have HA : Hid (∀ w, ZRow w a na ca (bitsOf A na) → Calls Try.prog 66 #[.slice a na ca, .int .i64 ((k : Int) + (by_ : Int))] w fun e w' => e = .returned (.int .i64 (bt (A / 2 ^ by_) k)) ∧ w' = w) := Lib.hid fun w h => by
        rw [shr_bit]; exact at_any A na ca a _ w h hA
      have HR := Lib.hid (bitsOf_succ (A / 2 ^ by_) k)
      generalize bt (A / 2 ^ by_) k = s at *
      go_wp2_with fail
      refine (HA.out _ ha').mono ?_
      rintro e w' ⟨rfl, rfl⟩
      go_wp2_with (at_builtin; refine wpList_append_own _ rfl _ _ 26 rfl w.heap.size 3 i0 (.int .i64 0) 1 8 Try.underlying26 hi hz0 hz1 hz2 rfl (by decide) _ k _ rfl (hown.alloc _) ⟨w'.heap.size, 0, none⟩ 1 1 [.int .i64 (s)] rfl rfl ?c1 ?c2 ?c3 ?c4 ?c5 ?_)
      case c1 => exact new_cells_z w' _ _
      case c2 => intro u hu; simp at hu; subst hu; rfl
      case c3 => unfold maxLen; omega
      case c4 => omega
      case c5 => simp; have := hnew.le; omega
      intro v' w1 how hgr _
      have how2 : w1.ownsRow w.heap.size 3 1 v' (k + 1) ((bitsOf (A / 2 ^ by_) (k + 1)).map fun y => .int .i64 y) := by
        rw [HR.out, List.map_append]; exact how
      have hn1 : New w w1 := (hnew.alloc _).grown' hgr (own_base hown)
      clear how hgr
      go_wp2
      exact ⟨⟨k + 1, by omega, by go_num, how2, hn1⟩, by simp [intOf]; omega⟩
    · obtain rfl : k = m := by omega
      go_wp2
      go_ret
      exact ⟨_, rfl, hown, hnew⟩
set_option maxHeartbeats 1000000 in
theorem blen_any (A n c : Nat) (a : Option Addr) (w : World) (hr : ZRow w a n c (bitsOf A n)) :
    Calls Try.prog 39 #[.slice a n c] w fun e w' => e = .returned (.int .i64 (lenN A n : Nat)) ∧ w' = w := by
  have hm := hr.most
  go_enter Try.func39, Try.ntmps39
  go_wp2
  go_loop [3, 4] (fun L I => ∃ k : Nat, k ≤ n ∧ I = .int .i64 k ∧ L = .int .i64 (lenN A k : Nat)) (fun _ I => n - (intOf I).toNat)
  case atStart => exact ⟨0, by omega, rfl, rfl⟩
  case round =>
    obtain ⟨k, hk, rfl, rfl⟩ := hrel
    by_cases hlt : (k : Int) < n
    · obtain ⟨b, off, rfl, hc⟩ := hr.addr (by omega)
      have c1 := hc k (by omega)
      rw [bitsOf_at (by omega)] at c1
      clear hc
      by_cases hb : A / 2 ^ k % 2 = 1
      · have e1 : bt A k = 1 := by unfold bt; rw [hb]; rfl
        have HS : Hid (lenN A (k + 1) = k + 1) := Lib.hid (by rw [lenN, if_pos hb])
        rw [e1] at c1
        clear hb e1
        generalize lenN A k = q at *
        go_wp2
        exact ⟨⟨k + 1, by omega, by go_num, by rw [HS.out]; go_num⟩, by simp [intOf]; omega⟩
      · have e1 : bt A k = 0 := by unfold bt; rw [show A / 2 ^ k % 2 = 0 by omega]; rfl
        have HS : Hid (lenN A (k + 1) = lenN A k) := Lib.hid (by rw [lenN, if_neg hb])
        rw [e1] at c1
        clear hb e1
        go_wp2
        exact ⟨⟨k + 1, by omega, by go_num, by rw [HS.out]⟩, by simp [intOf]; omega⟩
    · obtain rfl : k = n := by omega
      go_wp2
      go_ret
      exact ⟨rfl, rfl⟩
end Go.Proofs.Ytepphoncljlkoaa
