/- Contracts of the document's own Add, Sub, Shl, Cmp and To2 of numbers as lists of bits. -/
import Derived.Test.YtoplabhoedloeaaGreatBitA
import Derived.Handy
namespace Go.Bv
open Go Go.RowKit
set_option linter.unusedVariables false
set_option maxRecDepth 100000
/-- what is carried from the lowest bits of a sum -/
def cy (A B k : Nat) : Nat := (A % 2 ^ k + B % 2 ^ k) / 2 ^ k
theorem cy_zero (A B : Nat) : cy A B 0 = 0 := by unfold cy; simp [Nat.mod_one]
theorem cy_le (A B k : Nat) : cy A B k ≤ 1 := by
  unfold cy
  have h1 := Nat.mod_lt A (Nat.two_pow_pos k)
  have h2 := Nat.mod_lt B (Nat.two_pow_pos k)
  have : (A % 2 ^ k + B % 2 ^ k) / 2 ^ k < 2 := by rw [Nat.div_lt_iff_lt_mul (Nat.two_pow_pos k)]; omega
  omega
theorem mod_bit (A k : Nat) : A % 2 ^ (k + 1) = A % 2 ^ k + 2 ^ k * (A / 2 ^ k % 2) := by rw [Nat.pow_succ, Nat.mod_mul]
theorem cy_succ (A B k : Nat) : cy A B (k + 1) = (A / 2 ^ k % 2 + B / 2 ^ k % 2 + cy A B k) / 2 := by
  unfold cy
  rw [mod_bit A k, mod_bit B k, Nat.pow_succ, ← Nat.div_div_eq_div_mul]
  congr 1
  generalize A / 2 ^ k % 2 = p
  generalize B / 2 ^ k % 2 = q
  rw [show A % 2 ^ k + 2 ^ k * p + (B % 2 ^ k + 2 ^ k * q) = 2 ^ k * (p + q) + (A % 2 ^ k + B % 2 ^ k) by rw [Nat.mul_add]; omega]
  exact Nat.mul_add_div (Nat.two_pow_pos k) _ _
theorem add_bit (A B k : Nat) : (A + B) / 2 ^ k % 2 = (A / 2 ^ k % 2 + B / 2 ^ k % 2 + cy A B k) % 2 := by
  have h1 := Nat.div_add_mod A (2 ^ k)
  have h2 := Nat.div_add_mod B (2 ^ k)
  have e : A + B = 2 ^ k * (A / 2 ^ k + B / 2 ^ k) + (A % 2 ^ k + B % 2 ^ k) := by rw [Nat.mul_add]; omega
  have e2 : (A + B) / 2 ^ k = A / 2 ^ k + B / 2 ^ k + cy A B k := by
    conv => lhs; rw [e]
    exact Nat.mul_add_div (Nat.two_pow_pos k) _ _
  rw [e2]; omega
theorem shl_bit (A b i : Nat) : bt (A * 2 ^ b) i = btI A ((i : Int) - (b : Int)) := by
  by_cases h : i < b
  · unfold btI
    rw [if_pos (by omega)]
    unfold bt
    obtain ⟨d, rfl⟩ : ∃ d, b = i + (d + 1) := ⟨b - i - 1, by omega⟩
    rw [Nat.pow_add, show A * (2 ^ i * 2 ^ (d + 1)) = 2 ^ i * (A * 2 ^ (d + 1)) by grind, Nat.mul_div_cancel_left _ (Nat.two_pow_pos i), Nat.pow_succ, ← Nat.mul_assoc, Nat.mul_mod_left]; rfl
  · unfold btI
    rw [if_neg (by omega)]
    obtain ⟨d, rfl⟩ : ∃ d, i = b + d := ⟨i - b, by omega⟩
    rw [show (((b + d : Nat) : Int) - (b : Int)).toNat = d by omega]
    unfold bt
    rw [Nat.pow_add, ← Nat.div_div_eq_div_mul, Nat.mul_div_cancel _ (Nat.two_pow_pos b)]
theorem top_bits {A B k : Nat} (h : A / 2 ^ (k + 1) = B / 2 ^ (k + 1)) : (A / 2 ^ k % 2 = B / 2 ^ k % 2 → A / 2 ^ k = B / 2 ^ k) ∧ (A / 2 ^ k % 2 < B / 2 ^ k % 2 → A < B) := by
  have h1 := bt_step A k
  have h2 := bt_step B k
  refine ⟨fun e => by omega, fun e => ?_⟩
  have h3 : A / 2 ^ k < B / 2 ^ k := by omega
  rcases Nat.lt_or_ge A B with h4 | h4
  · exact h4
  · exact absurd (Nat.div_le_div_right (c := 2 ^ k) h4) (by omega)
def cmpN (A B : Nat) : Int := if A < B then -1 else if B < A then 1 else 0
theorem bitsOf_mod (N n : Nat) : bitsOf (N % 2 ^ n) n = bitsOf N n := by
  unfold bitsOf
  apply List.map_congr_left
  intro i hi
  have hi := List.mem_range.1 hi
  unfold bt
  congr 1
  rw [← Nat.mod_mul_right_div_self, ← Nat.mod_mul_right_div_self, ← Nat.pow_succ, Nat.mod_mod_of_dvd]
  exact Nat.pow_dvd_pow 2 (by omega)
end Go.Bv
namespace Go.Proofs.YtoplabhoedloeaaGreat
open Go.RowKit Go.Bv
set_option linter.unusedVariables false
theorem bits_row {w : World} {base : Nat} {v : Value} {n N : Nat} (h : w.ownsRow base 3 1 v n ((bitsOf N n).map fun y => .int .i64 y)) (hn : n ≤ 4096) :
    ∃ a c, v = .slice a n c ∧ ZRow w a n c (bitsOf N n) := ZRow.of_owns h (by omega) (bitsOf_wf N n)
set_option maxHeartbeats 1000000 in
theorem badd_own (A B na nb ca cb : Nat) (a b : Option Addr) (n : Int) (m : Nat) (hnm : n = (m : Int)) (hm : m ≤ 4096) (w : World) (ha : ZRow w a na ca (bitsOf A na)) (hA : A < 2 ^ na) (hb : ZRow w b nb cb (bitsOf B nb)) (hB : B < 2 ^ nb) :
    Calls Tryz.prog 81 #[.slice a na ca, .slice b nb cb, .int .i64 n] w fun e w' =>
      ∃ v, e = .returned (.tuple #[v, .int .i64 (cy A B m : Nat)]) ∧ w'.ownsRow w.heap.size 3 1 v m ((bitsOf (A + B) m).map fun y => .int .i64 y) ∧ New w w' := by
  subst hnm
  obtain ⟨i0, hi, hz0, hz1, hz2⟩ := info_parts info_int
  have H0 : Hid (cy A B 0 = 0) := Lib.hid (cy_zero A B)
  go_enter Tryz.func81, Tryz.ntmps81
  go_wp2
  go_loopw [8, 9, 10] (fun v cc i wr => ∃ k : Nat, k ≤ m ∧ i = .int .i64 k ∧ cc = .int .i64 (cy A B k : Nat) ∧ wr.ownsRow w.heap.size 3 1 v k ((bitsOf (A + B) k).map fun y => .int .i64 y) ∧ New w wr) (fun _ _ i _ => m - (intOf i).toNat)
  case atStart => exact ⟨0, by omega, rfl, by rw [H0.out]; rfl, World.ownsRow_nil w _ _ 1, New.refl w⟩
  case round =>
    obtain ⟨k, hk, rfl, rfl, hown, hnew⟩ := hrel
    by_cases hlt : (k : Int) < m
    · have ha' := ha.stay hnew
      have hb' := hb.stay hnew
      have hcl := cy_le A B k
      have HS : Hid ((bt A k + bt B k + (cy A B k : Nat)) % 2 = bt (A + B) k ∧ (bt A k + bt B k + (cy A B k : Nat)) / 2 = (cy A B (k + 1) : Nat)) := Lib.hid (by
        have h1 := add_bit A B k
        have h2 := cy_succ A B k
        unfold bt
        rw [h1, h2]
        omega)
      have HA : Hid (∀ w, ZRow w a na ca (bitsOf A na) → Calls Tryz.prog 116 #[.slice a na ca, .int .i64 (k : Int)] w fun e w' => e = .returned (.int .i64 (bt A k)) ∧ w' = w) := Lib.hid fun w h => by
        have := at_any A na ca a (k : Int) w h hA
        rw [btI_nat] at this; exact this
      have HB : Hid (∀ w, ZRow w b nb cb (bitsOf B nb) → Calls Tryz.prog 116 #[.slice b nb cb, .int .i64 (k : Int)] w fun e w' => e = .returned (.int .i64 (bt B k)) ∧ w' = w) := Lib.hid fun w h => by
        have := at_any B nb cb b (k : Int) w h hB
        rw [btI_nat] at this; exact this
      have hp := bt_lt A k
      have hq := bt_lt B k
      have hr : bitsOf (A + B) (k + 1) = bitsOf (A + B) k ++ [bt (A + B) k] := bitsOf_succ _ _
      have HR := Lib.hid hr
      clear hr
      generalize bt A k = p at *
      generalize bt B k = q at *
      generalize bt (A + B) k = s at *
      obtain ⟨c2, hc2⟩ : ∃ c2 : Int, ((cy A B (k + 1) : Nat) : Int) = c2 := ⟨_, rfl⟩
      rw [hc2] at HS
      have HC2 := Lib.hid hc2
      clear hc2
      generalize (cy A B k : Nat) = c1 at *
      have e1 : wrap64 (p + q) = p + q := by unfold wrap64; omega
      have e2 : wrap64 (p + q + (c1 : Int)) = p + q + (c1 : Int) := by unfold wrap64; omega
      have e3 : (p + q + (c1 : Int)).tmod 2 = s := by rw [Int.tmod_eq_emod_of_nonneg (by omega)]; exact HS.out.1
      have e4 : (p + q + (c1 : Int)).tdiv 2 = c2 := by rw [Int.tdiv_eq_ediv_of_nonneg (by omega)]; exact HS.out.2
      have e5 : wrap64 c2 = c2 := by have := HS.out.2; unfold wrap64; omega
      go_wp2_with fail
      refine (HA.out _ ha').mono ?_
      rintro e w' ⟨rfl, rfl⟩
      go_wp2_with fail
      refine (HB.out _ hb').mono ?_
      rintro e w' ⟨rfl, rfl⟩
      go_wp2_with (at_builtin; refine wpList_append_own _ rfl _ _ 39 rfl w.heap.size 3 i0 (.int .i64 0) 1 8 Tryz.underlying39 hi hz0 hz1 hz2 rfl (by decide) _ k _ rfl (hown.alloc _) ⟨w'.heap.size, 0, none⟩ 1 1 [.int .i64 (s)] rfl rfl ?c1 ?c2 ?c3 ?c4 ?c5 ?_)
      case c1 => exact new_cells_z w' _ _
      case c2 => intro u hu; simp at hu; subst hu; rfl
      case c3 => unfold maxLen; omega
      case c4 => omega
      case c5 => simp; have := hnew.le; omega
      intro v' w1 how hgr _
      have how2 : w1.ownsRow w.heap.size 3 1 v' (k + 1) ((bitsOf (A + B) (k + 1)).map fun y => .int .i64 y) := by
        rw [HR.out, List.map_append]; exact how
      have hn1 : New w w1 := (hnew.alloc _).grown' hgr (own_base hown)
      clear how hgr
      go_wp2
      exact ⟨⟨k + 1, by omega, by go_num, by first | rw [e5, HC2.out] | rw [HC2.out], how2, hn1⟩, by simp [intOf]; omega⟩
    · obtain rfl : k = m := by omega
      go_wp2
      go_ret2
      exact ⟨_, rfl, hown, hnew⟩
set_option maxHeartbeats 1000000 in
theorem bshl_own (A na ca by_ : Nat) (a : Option Addr) (n : Int) (m : Nat) (hnm : n = (m : Int)) (hm : m ≤ 4096) (hby : by_ ≤ 4096) (w : World) (ha : ZRow w a na ca (bitsOf A na)) (hA : A < 2 ^ na) :
    Calls Tryz.prog 119 #[.slice a na ca, .int .i64 (by_ : Int), .int .i64 n] w fun e w' =>
      ∃ v, e = .returned v ∧ w'.ownsRow w.heap.size 3 1 v m ((bitsOf (A * 2 ^ by_) m).map fun y => .int .i64 y) ∧ New w w' := by
  subst hnm
  obtain ⟨i0, hi, hz0, hz1, hz2⟩ := info_parts info_int
  go_enter Tryz.func119, Tryz.ntmps119
  go_wp2
  go_loopw [7, 8] (fun v i wr => ∃ k : Nat, k ≤ m ∧ i = .int .i64 k ∧ wr.ownsRow w.heap.size 3 1 v k ((bitsOf (A * 2 ^ by_) k).map fun y => .int .i64 y) ∧ New w wr) (fun _ i _ => m - (intOf i).toNat)
  case atStart => exact ⟨0, by omega, rfl, World.ownsRow_nil w _ _ 1, New.refl w⟩
  case round =>
    obtain ⟨k, hk, rfl, hown, hnew⟩ := hrel
    by_cases hlt : (k : Int) < m
    · have ha' := ha.stay hnew
      have e1 : wrap64 ((k : Int) - (by_ : Int)) = (k : Int) - (by_ : Int) := by unfold wrap64; omega
      have HA : Hid (∀ w, ZRow w a na ca (bitsOf A na) → Calls Tryz.prog 116 #[.slice a na ca, .int .i64 ((k : Int) - (by_ : Int))] w fun e w' => e = .returned (.int .i64 (bt (A * 2 ^ by_) k)) ∧ w' = w) := Lib.hid fun w h => by
        rw [shl_bit]; exact at_any A na ca a _ w h hA
      have HR := Lib.hid (bitsOf_succ (A * 2 ^ by_) k)
      generalize bt (A * 2 ^ by_) k = s at *
      go_wp2_with fail
      refine (HA.out _ ha').mono ?_
      rintro e w' ⟨rfl, rfl⟩
      go_wp2_with (at_builtin; refine wpList_append_own _ rfl _ _ 39 rfl w.heap.size 3 i0 (.int .i64 0) 1 8 Tryz.underlying39 hi hz0 hz1 hz2 rfl (by decide) _ k _ rfl (hown.alloc _) ⟨w'.heap.size, 0, none⟩ 1 1 [.int .i64 (s)] rfl rfl ?c1 ?c2 ?c3 ?c4 ?c5 ?_)
      case c1 => exact new_cells_z w' _ _
      case c2 => intro u hu; simp at hu; subst hu; rfl
      case c3 => unfold maxLen; omega
      case c4 => omega
      case c5 => simp; have := hnew.le; omega
      intro v' w1 how hgr _
      have how2 : w1.ownsRow w.heap.size 3 1 v' (k + 1) ((bitsOf (A * 2 ^ by_) (k + 1)).map fun y => .int .i64 y) := by
        rw [HR.out, List.map_append]; exact how
      have hn1 : New w w1 := (hnew.alloc _).grown' hgr (own_base hown)
      clear how hgr
      go_wp2
      exact ⟨⟨k + 1, by omega, by go_num, how2, hn1⟩, by simp [intOf]; omega⟩
    · obtain rfl : k = m := by omega
      go_wp2
      go_ret
      exact ⟨_, rfl, hown, hnew⟩
set_option maxHeartbeats 1000000 in
theorem to2_any (N n c : Nat) (a : Option Addr) (w : World) (hr : ZRow w a n c (bitsOf N n)) (hN : N < 2 ^ n) :
    Calls Tryz.prog 83 #[.slice a n c] w fun e w' => e = .returned (.agg #[.int .u64 (W64 (BitVec.ofNat 64 (N / 2 ^ 64))), .int .u64 (W64 (BitVec.ofNat 64 N))]) ∧ New w w' := by
  have h1 := fun w h => word_any N n c 64 a w h hN (by omega)
  have h2 := fun w h => word_any N n c 0 a w h hN (by omega)
  rw [Nat.pow_zero, Nat.div_one] at h2
  have H1 := Lib.hid h1
  have H2 := Lib.hid h2
  clear h1 h2
  generalize BitVec.ofNat 64 (N / 2 ^ 64) = y1 at *
  generalize BitVec.ofNat 64 N = y0 at *
  go_enter Tryz.func83, Tryz.ntmps83
  have hr2 := hr.stay ((New.refl w).alloc (.cells #[.int .u64 0, .int .u64 0] 24))
  go_wp2_with fail
  refine (H1.out _ hr2).mono ?_
  rintro e w' ⟨rfl, rfl⟩
  go_wp2_with fail
  refine (H2.out _ hr2).mono ?_
  rintro e w' ⟨rfl, rfl⟩
  go_wp2
  go_returns
  exact ⟨rfl, (New.refl w).alloc _⟩
end Go.Proofs.YtoplabhoedloeaaGreat
