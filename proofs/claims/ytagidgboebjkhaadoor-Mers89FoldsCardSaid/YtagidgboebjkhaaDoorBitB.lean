/- Contracts of the document's own Add, Sub, Shl, Cmp and To2 of numbers as lists of bits. -/
import Derived.Test.YtagidgboebjkhaaDoorBitA
import Derived.Handy
namespace Go.Bv
open Go Go.RowKit
set_option linter.unusedVariables false
set_option maxRecDepth 100000
/-- what is carried from the lowest bits of a sum -/
def cy (A B k : Nat) : Nat := (A % 2 ^ k + B % 2 ^ k) / 2 ^ k
theorem cy_zero (A B : Nat) : cy A B 0 = 0 := by unfold cy; simp [Nat.mod_one]
theorem cy_le (A B k : Nat) : cy A B k ≤ 1 := by
  unfold cy
  have h1 := Nat.mod_lt A (Nat.two_pow_pos k)
  have h2 := Nat.mod_lt B (Nat.two_pow_pos k)
  have : (A % 2 ^ k + B % 2 ^ k) / 2 ^ k < 2 := by rw [Nat.div_lt_iff_lt_mul (Nat.two_pow_pos k)]; omega
  omega
theorem mod_bit (A k : Nat) : A % 2 ^ (k + 1) = A % 2 ^ k + 2 ^ k * (A / 2 ^ k % 2) := by rw [Nat.pow_succ, Nat.mod_mul]
theorem cy_succ (A B k : Nat) : cy A B (k + 1) = (A / 2 ^ k % 2 + B / 2 ^ k % 2 + cy A B k) / 2 := by
  unfold cy
  rw [mod_bit A k, mod_bit B k, Nat.pow_succ, ← Nat.div_div_eq_div_mul]
  congr 1
  generalize A / 2 ^ k % 2 = p
  generalize B / 2 ^ k % 2 = q
  rw [show A % 2 ^ k + 2 ^ k * p + (B % 2 ^ k + 2 ^ k * q) = 2 ^ k * (p + q) + (A % 2 ^ k + B % 2 ^ k) by rw [Nat.mul_add]; omega]
  exact Nat.mul_add_div (Nat.two_pow_pos k) _ _
theorem add_bit (A B k : Nat) : (A + B) / 2 ^ k % 2 = (A / 2 ^ k % 2 + B / 2 ^ k % 2 + cy A B k) % 2 := by
  have h1 := Nat.div_add_mod A (2 ^ k)
  have h2 := Nat.div_add_mod B (2 ^ k)
  have e : A + B = 2 ^ k * (A / 2 ^ k + B / 2 ^ k) + (A % 2 ^ k + B % 2 ^ k) := by rw [Nat.mul_add]; omega
  have e2 : (A + B) / 2 ^ k = A / 2 ^ k + B / 2 ^ k + cy A B k := by
    conv => lhs; rw [e]
    exact Nat.mul_add_div (Nat.two_pow_pos k) _ _
  rw [e2]; omega
theorem shl_bit (A b i : Nat) : bt (A * 2 ^ b) i = btI A ((i : Int) - (b : Int)) := by
  by_cases h : i < b
  · unfold btI
    rw [if_pos (by omega)]
    unfold bt
    obtain ⟨d, rfl⟩ : ∃ d, b = i + (d + 1) := ⟨b - i - 1, by omega⟩
    rw [Nat.pow_add, show A * (2 ^ i * 2 ^ (d + 1)) = 2 ^ i * (A * 2 ^ (d + 1)) by grind, Nat.mul_div_cancel_left _ (Nat.two_pow_pos i), Nat.pow_succ, ← Nat.mul_assoc, Nat.mul_mod_left]; rfl
  · unfold btI
    rw [if_neg (by omega)]
    obtain ⟨d, rfl⟩ : ∃ d, i = b + d := ⟨i - b, by omega⟩
    rw [show (((b + d : Nat) : Int) - (b : Int)).toNat = d by omega]
    unfold bt
    rw [Nat.pow_add, ← Nat.div_div_eq_div_mul, Nat.mul_div_cancel _ (Nat.two_pow_pos b)]
theorem top_bits {A B k : Nat} (h : A / 2 ^ (k + 1) = B / 2 ^ (k + 1)) : (A / 2 ^ k % 2 = B / 2 ^ k % 2 → A / 2 ^ k = B / 2 ^ k) ∧ (A / 2 ^ k % 2 < B / 2 ^ k % 2 → A < B) := by
  have h1 := bt_step A k
  have h2 := bt_step B k
  refine ⟨fun e => by omega, fun e => ?_⟩
  have h3 : A / 2 ^ k < B / 2 ^ k := by omega
  rcases Nat.lt_or_ge A B with h4 | h4
  · exact h4
  · exact absurd (Nat.div_le_div_right (c := 2 ^ k) h4) (by omega)
def cmpN (A B : Nat) : Int := if A < B then -1 else if B < A then 1 else 0
theorem bitsOf_mod (N n : Nat) : bitsOf (N % 2 ^ n) n = bitsOf N n := by
  unfold bitsOf
  apply List.map_congr_left
  intro i hi
  have hi := List.mem_range.1 hi
  unfold bt
  congr 1
  rw [← Nat.mod_mul_right_div_self, ← Nat.mod_mul_right_div_self, ← Nat.pow_succ, Nat.mod_mod_of_dvd]
  exact Nat.pow_dvd_pow 2 (by omega)
end Go.Bv
namespace Go.Proofs.YtagidgboebjkhaaDoor
open Go.RowKit Go.Bv
set_option linter.unusedVariables false
theorem bits_row {w : World} {base : Nat} {v : Value} {n N : Nat} (h : w.ownsRow base 3 1 v n ((bitsOf N n).map fun y => .int .i64 y)) (hn : n ≤ 4096) :
    ∃ a c, v = .slice a n c ∧ ZRow w a n c (bitsOf N n) := ZRow.of_owns h (by omega) (bitsOf_wf N n)
set_option maxHeartbeats 1000000 in
theorem bsub_own (A B na nb ca cb : Nat) (a b : Option Addr) (n : Int) (m : Nat) (hnm : n = (m : Int)) (hm : m ≤ 4096) (w : World) (ha : ZRow w a na ca (bitsOf A na)) (hA : A < 2 ^ na) (hb : ZRow w b nb cb (bitsOf B nb)) (hB : B < 2 ^ nb) (E : Nat) (hE : E + B = A + 2 ^ m) :
    Calls Tryd.prog 33 #[.slice a na ca, .slice b nb cb, .int .i64 n] w fun e w' =>
      ∃ v, e = .returned (.tuple #[v, .int .i64 (cy E B m : Nat)]) ∧ w'.ownsRow w.heap.size 3 1 v m ((bitsOf E m).map fun y => .int .i64 y) ∧ New w w' := by
  subst hnm
  obtain ⟨i0, hi, hz0, hz1, hz2⟩ := info_parts info_int
  have H0 : Hid (cy E B 0 = 0) := Lib.hid (cy_zero E B)
  go_enter Tryd.func33, Tryd.ntmps33
  go_wp2
  go_loopw [8, 9, 10] (fun v cc i wr => ∃ k : Nat, k ≤ m ∧ i = .int .i64 k ∧ cc = .int .i64 (cy E B k : Nat) ∧ wr.ownsRow w.heap.size 3 1 v k ((bitsOf E k).map fun y => .int .i64 y) ∧ New w wr) (fun _ _ i _ => m - (intOf i).toNat)
  case atStart => exact ⟨0, by omega, rfl, by rw [H0.out]; rfl, World.ownsRow_nil w _ _ 1, New.refl w⟩
  case round =>
    obtain ⟨k, hk, rfl, rfl, hown, hnew⟩ := hrel
    by_cases hlt : (k : Int) < m
    · have ha' := ha.stay hnew
      have hb' := hb.stay hnew
      have hcl := cy_le E B k
      have HS : Hid ((bt A k - bt B k - (cy E B k : Nat) + 2) % 2 = bt E k ∧ 1 - (bt A k - bt B k - (cy E B k : Nat) + 2) / 2 = (cy E B (k + 1) : Nat)) := Lib.hid (by
        have h1 := add_bit E B k
        have h2 := cy_succ E B k
        have h3 : (E + B) / 2 ^ k % 2 = A / 2 ^ k % 2 := by
          obtain ⟨d, rfl⟩ : ∃ d, m = k + (d + 1) := ⟨m - k - 1, by omega⟩
          rw [hE, Nat.pow_add, Nat.add_mul_div_left _ _ (Nat.two_pow_pos k), Nat.pow_succ]
          omega
        rw [h3] at h1
        unfold bt
        rw [h2]
        have l1 := Nat.mod_lt (E / 2 ^ k) (show 0 < 2 by decide)
        have l2 := Nat.mod_lt (B / 2 ^ k) (show 0 < 2 by decide)
        have l3 := Nat.mod_lt (A / 2 ^ k) (show 0 < 2 by decide)
        omega)
      have HA : Hid (∀ w, ZRow w a na ca (bitsOf A na) → Calls Tryd.prog 24 #[.slice a na ca, .int .i64 (k : Int)] w fun e w' => e = .returned (.int .i64 (bt A k)) ∧ w' = w) := Lib.hid fun w h => by
        have := at_any A na ca a (k : Int) w h hA
        rw [btI_nat] at this; exact this
      have HB : Hid (∀ w, ZRow w b nb cb (bitsOf B nb) → Calls Tryd.prog 24 #[.slice b nb cb, .int .i64 (k : Int)] w fun e w' => e = .returned (.int .i64 (bt B k)) ∧ w' = w) := Lib.hid fun w h => by
        have := at_any B nb cb b (k : Int) w h hB
        rw [btI_nat] at this; exact this
      have hp := bt_lt A k
      have hq := bt_lt B k
      have hr : bitsOf E (k + 1) = bitsOf E k ++ [bt E k] := bitsOf_succ _ _
      have HR := Lib.hid hr
      clear hr
      generalize bt A k = p at *
      generalize bt B k = q at *
      generalize bt E k = s at *
      obtain ⟨c2, hc2⟩ : ∃ c2 : Int, ((cy E B (k + 1) : Nat) : Int) = c2 := ⟨_, rfl⟩
      rw [hc2] at HS
      have HC2 := Lib.hid hc2
      clear hc2
      generalize (cy E B k : Nat) = c1 at *
      have e1 : wrap64 (p - q) = p - q := by unfold wrap64; omega
      have e2 : wrap64 (p - q - (c1 : Int)) = p - q - (c1 : Int) := by unfold wrap64; omega
      have e6 : wrap64 (p - q - (c1 : Int) + 2) = p - q - (c1 : Int) + 2 := by unfold wrap64; omega
      have e3 : (p - q - (c1 : Int) + 2).tmod 2 = s := by rw [Int.tmod_eq_emod_of_nonneg (by omega)]; exact HS.out.1
      have e4 : (p - q - (c1 : Int) + 2).tdiv 2 = (p - q - (c1 : Int) + 2) / 2 := Int.tdiv_eq_ediv_of_nonneg (by omega)
      have e7 : wrap64 ((p - q - (c1 : Int) + 2) / 2) = (p - q - (c1 : Int) + 2) / 2 := by unfold wrap64; omega
      have e5 : wrap64 (1 - (p - q - (c1 : Int) + 2) / 2) = c2 := by rw [HS.out.2]; have := HS.out.2; unfold wrap64; omega
      go_wp2_with fail
      refine (HA.out _ ha').mono ?_
      rintro e w' ⟨rfl, rfl⟩
      go_wp2_with fail
      refine (HB.out _ hb').mono ?_
      rintro e w' ⟨rfl, rfl⟩
      go_wp2_with (at_builtin; refine wpList_append_own _ rfl _ _ 28 rfl w.heap.size 3 i0 (.int .i64 0) 1 8 Tryd.underlying28 hi hz0 hz1 hz2 rfl (by decide) _ k _ rfl (hown.alloc _) ⟨w'.heap.size, 0, none⟩ 1 1 [.int .i64 (s)] rfl rfl ?c1 ?c2 ?c3 ?c4 ?c5 ?_)
      case c1 => exact new_cells_z w' _ _
      case c2 => intro u hu; simp at hu; subst hu; rfl
      case c3 => unfold maxLen; omega
      case c4 => omega
      case c5 => simp; have := hnew.le; omega
      intro v' w1 how hgr _
      have how2 : w1.ownsRow w.heap.size 3 1 v' (k + 1) ((bitsOf E (k + 1)).map fun y => .int .i64 y) := by
        rw [HR.out, List.map_append]; exact how
      have hn1 : New w w1 := (hnew.alloc _).grown' hgr (own_base hown)
      clear how hgr
      go_wp2
      exact ⟨⟨k + 1, by omega, by go_num, by rw [HC2.out, ← HS.out.2], how2, hn1⟩, by simp [intOf]; omega⟩
    · obtain rfl : k = m := by omega
      go_wp2
      go_ret2
      exact ⟨_, rfl, hown, hnew⟩
set_option maxHeartbeats 1000000 in
theorem bshl_own (A na ca by_ : Nat) (a : Option Addr) (n : Int) (m : Nat) (hnm : n = (m : Int)) (hm : m ≤ 4096) (hby : by_ ≤ 4096) (w : World) (ha : ZRow w a na ca (bitsOf A na)) (hA : A < 2 ^ na) :
    Calls Tryd.prog 32 #[.slice a na ca, .int .i64 (by_ : Int), .int .i64 n] w fun e w' =>
      ∃ v, e = .returned v ∧ w'.ownsRow w.heap.size 3 1 v m ((bitsOf (A * 2 ^ by_) m).map fun y => .int .i64 y) ∧ New w w' := by
  subst hnm
  obtain ⟨i0, hi, hz0, hz1, hz2⟩ := info_parts info_int
  go_enter Tryd.func32, Tryd.ntmps32
  go_wp2
  go_loopw [7, 8] (fun v i wr => ∃ k : Nat, k ≤ m ∧ i = .int .i64 k ∧ wr.ownsRow w.heap.size 3 1 v k ((bitsOf (A * 2 ^ by_) k).map fun y => .int .i64 y) ∧ New w wr) (fun _ i _ => m - (intOf i).toNat)
  case atStart => exact ⟨0, by omega, rfl, World.ownsRow_nil w _ _ 1, New.refl w⟩
  case round =>
    obtain ⟨k, hk, rfl, hown, hnew⟩ := hrel
    by_cases hlt : (k : Int) < m
    · have ha' := ha.stay hnew
      have e1 : wrap64 ((k : Int) - (by_ : Int)) = (k : Int) - (by_ : Int) := by unfold wrap64; omega
      have HA : Hid (∀ w, ZRow w a na ca (bitsOf A na) → Calls Tryd.prog 24 #[.slice a na ca, .int .i64 ((k : Int) - (by_ : Int))] w fun e w' => e = .returned (.int .i64 (bt (A * 2 ^ by_) k)) ∧ w' = w) := Lib.hid fun w h => by
        rw [shl_bit]; exact at_any A na ca a _ w h hA
      have HR := Lib.hid (bitsOf_succ (A * 2 ^ by_) k)
      generalize bt (A * 2 ^ by_) k = s at *
      go_wp2_with fail
      refine (HA.out _ ha').mono ?_
      rintro e w' ⟨rfl, rfl⟩
      go_wp2_with (at_builtin; refine wpList_append_own _ rfl _ _ 28 rfl w.heap.size 3 i0 (.int .i64 0) 1 8 Tryd.underlying28 hi hz0 hz1 hz2 rfl (by decide) _ k _ rfl (hown.alloc _) ⟨w'.heap.size, 0, none⟩ 1 1 [.int .i64 (s)] rfl rfl ?c1 ?c2 ?c3 ?c4 ?c5 ?_)
      case c1 => exact new_cells_z w' _ _
      case c2 => intro u hu; simp at hu; subst hu; rfl
      case c3 => unfold maxLen; omega
      case c4 => omega
      case c5 => simp; have := hnew.le; omega
      intro v' w1 how hgr _
      have how2 : w1.ownsRow w.heap.size 3 1 v' (k + 1) ((bitsOf (A * 2 ^ by_) (k + 1)).map fun y => .int .i64 y) := by
        rw [HR.out, List.map_append]; exact how
      have hn1 : New w w1 := (hnew.alloc _).grown' hgr (own_base hown)
      clear how hgr
      go_wp2
      exact ⟨⟨k + 1, by omega, by go_num, how2, hn1⟩, by simp [intOf]; omega⟩
    · obtain rfl : k = m := by omega
      go_wp2
      go_ret
      exact ⟨_, rfl, hown, hnew⟩
set_option maxHeartbeats 1000000 in
theorem bcmp_any (A B na nb ca cb : Nat) (a b : Option Addr) (w : World) (ha : ZRow w a na ca (bitsOf A na)) (hA : A < 2 ^ na) (hb : ZRow w b nb cb (bitsOf B nb)) (hB : B < 2 ^ nb) :
    Calls Tryd.prog 12 #[.slice a na ca, .slice b nb cb] w fun e w' => e = .returned (.int .i64 (cmpN A B)) ∧ w' = w := by
  have hma := ha.most
  have hmb := hb.most
  obtain ⟨m, hm⟩ : ∃ m, m = max na nb := ⟨_, rfl⟩
  have e0 : max (na : Int) (nb : Int) = (m : Int) := by omega
  have e1 : wrap64 ((m : Int) - 1) = (m : Int) - 1 := by unfold wrap64; omega
  have HST : Hid (A / 2 ^ m = B / 2 ^ m) := Lib.hid (by
    rw [Nat.div_eq_of_lt (Nat.lt_of_lt_of_le hA (Nat.pow_le_pow_right (by omega) (by omega))), Nat.div_eq_of_lt (Nat.lt_of_lt_of_le hB (Nat.pow_le_pow_right (by omega) (by omega)))])
  have HAT : Hid (∀ (i : Nat), Calls Tryd.prog 24 #[.slice a na ca, .int .i64 (i : Int)] w fun e w' => e = .returned (.int .i64 (bt A i)) ∧ w' = w) := Lib.hid fun i => by
    have := at_any A na ca a (i : Int) w ha hA
    rw [btI_nat] at this; exact this
  have HBT : Hid (∀ (i : Nat), Calls Tryd.prog 24 #[.slice b nb cb, .int .i64 (i : Int)] w fun e w' => e = .returned (.int .i64 (bt B i)) ∧ w' = w) := Lib.hid fun i => by
    have := at_any B nb cb b (i : Int) w hb hB
    rw [btI_nat] at this; exact this
  have hml : m ≤ 17592186044416 := by omega
  have HSTEP : Hid (∀ i, A / 2 ^ (i + 1) = B / 2 ^ (i + 1) → (bt A i < bt B i ∧ cmpN A B = -1) ∨ (¬ bt A i < bt B i ∧ bt B i < bt A i ∧ cmpN A B = 1) ∨ (¬ bt A i < bt B i ∧ ¬ bt B i < bt A i ∧ A / 2 ^ i = B / 2 ^ i)) := Lib.hid (by
    intro i h
    have h1 := top_bits h
    have h2 := top_bits h.symm
    have f1 : bt A i < bt B i ↔ A / 2 ^ i % 2 < B / 2 ^ i % 2 := by unfold bt; omega
    have f2 : bt B i < bt A i ↔ B / 2 ^ i % 2 < A / 2 ^ i % 2 := by unfold bt; omega
    by_cases c1 : A / 2 ^ i % 2 < B / 2 ^ i % 2
    · exact Or.inl ⟨f1.2 c1, by unfold cmpN; rw [if_pos (h1.2 c1)]⟩
    · by_cases c2 : B / 2 ^ i % 2 < A / 2 ^ i % 2
      · exact Or.inr (Or.inl ⟨fun e => c1 (f1.1 e), f2.2 c2, by have := h2.2 c2; unfold cmpN; rw [if_neg (by omega), if_pos this]⟩)
      · exact Or.inr (Or.inr ⟨fun e => c1 (f1.1 e), fun e => c2 (f2.1 e), h1.1 (by omega)⟩))
  have HEND : Hid (A / 2 ^ 0 = B / 2 ^ 0 → cmpN A B = 0) := Lib.hid (by
    intro h
    rw [Nat.pow_zero, Nat.div_one, Nat.div_one] at h
    unfold cmpN; rw [if_neg (by omega), if_neg (by omega)])
  clear ha hb hA hB e0 e1
  have en : wrap64 ((nb : Int) - 1) = (nb : Int) - 1 := by unfold wrap64; omega
  have em : wrap64 ((na : Int) - 1) = (na : Int) - 1 := by unfold wrap64; omega
  go_enter Tryd.func12, Tryd.ntmps12
  go_wp2
  all_goals (
    go_loop [5] (fun I => ∃ j : Nat, j ≤ 17592186044416 ∧ I = .int .i64 ((j : Int) - 1) ∧ Hid (A / 2 ^ j = B / 2 ^ j)) (fun I => (intOf I + 1).toNat)
    case atStart => exact ⟨m, hml, congrArg (Value.int .i64) (by omega), HST⟩
    case round =>
      obtain ⟨j, hj, rfl, H⟩ := hrel
      by_cases h0 : j = 0
      · subst h0
        have HE := Lib.hid (HEND.out H.out)
        clear H
        go_wp2
        go_ret
        rw [HE.out]
        exact ⟨rfl, rfl⟩
      · obtain ⟨i, rfl⟩ : ∃ i, j = i + 1 := ⟨j - 1, by omega⟩
        have ei : ((i + 1 : Nat) : Int) - 1 = (i : Int) := by omega
        rw [ei]
        have hw1 : wrap64 ((i : Int) - 1) = (i : Int) - 1 := by unfold wrap64; omega
        have HI := HSTEP.out i H.out
        have HA := Lib.hid (HAT.out i)
        have HB := Lib.hid (HBT.out i)
        clear H
        generalize bt A i = p at *
        generalize bt B i = q at *
        rcases HI with ⟨c1, c2⟩ | ⟨c1, c2, c3⟩ | ⟨c1, c2, c3⟩
        · have HC := Lib.hid c2
          clear c2
          go_wp2_with fail
          refine HA.out.mono ?_
          rintro e w' ⟨rfl, rfl⟩
          go_wp2_with fail
          refine HB.out.mono ?_
          rintro e w' ⟨rfl, rfl⟩
          go_wp2
          go_ret
          rw [HC.out]
          exact ⟨rfl, rfl⟩
        · have HC := Lib.hid c3
          clear c3
          go_wp2_with fail
          refine HA.out.mono ?_
          rintro e w' ⟨rfl, rfl⟩
          go_wp2_with fail
          refine HB.out.mono ?_
          rintro e w' ⟨rfl, rfl⟩
          go_wp2_with fail
          refine HA.out.mono ?_
          rintro e w' ⟨rfl, rfl⟩
          go_wp2_with fail
          refine HB.out.mono ?_
          rintro e w' ⟨rfl, rfl⟩
          go_wp2
          go_ret
          rw [HC.out]
          exact ⟨rfl, rfl⟩
        · have HC := Lib.hid c3
          clear c3
          go_wp2_with fail
          refine HA.out.mono ?_
          rintro e w' ⟨rfl, rfl⟩
          go_wp2_with fail
          refine HB.out.mono ?_
          rintro e w' ⟨rfl, rfl⟩
          go_wp2_with fail
          refine HA.out.mono ?_
          rintro e w' ⟨rfl, rfl⟩
          go_wp2_with fail
          refine HB.out.mono ?_
          rintro e w' ⟨rfl, rfl⟩
          go_wp2
          exact ⟨⟨i, by omega, rfl, HC⟩, by simp [intOf]⟩)
set_option maxHeartbeats 1000000 in
theorem to2_any (N n c : Nat) (a : Option Addr) (w : World) (hr : ZRow w a n c (bitsOf N n)) (hN : N < 2 ^ n) :
    Calls Tryd.prog 22 #[.slice a n c] w fun e w' => e = .returned (.agg #[.int .u64 (W64 (BitVec.ofNat 64 (N / 2 ^ 64))), .int .u64 (W64 (BitVec.ofNat 64 N))]) ∧ New w w' := by
  have h1 := fun w h => word_any N n c 64 a w h hN (by omega)
  have h2 := fun w h => word_any N n c 0 a w h hN (by omega)
  rw [Nat.pow_zero, Nat.div_one] at h2
  have H1 := Lib.hid h1
  have H2 := Lib.hid h2
  clear h1 h2
  generalize BitVec.ofNat 64 (N / 2 ^ 64) = y1 at *
  generalize BitVec.ofNat 64 N = y0 at *
  go_enter Tryd.func22, Tryd.ntmps22
  have hr2 := hr.stay ((New.refl w).alloc (.cells #[.int .u64 0, .int .u64 0] 26))
  go_wp2_with fail
  refine (H1.out _ hr2).mono ?_
  rintro e w' ⟨rfl, rfl⟩
  go_wp2_with fail
  refine (H2.out _ hr2).mono ?_
  rintro e w' ⟨rfl, rfl⟩
  go_wp2
  go_returns
  exact ⟨rfl, (New.refl w).alloc _⟩
end Go.Proofs.YtagidgboebjkhaaDoor
