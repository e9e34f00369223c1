/- The contract of the document's own Of2: for all numbers of two words. · Contracts of the document's own Mul and To4: for all lists of bits. · Contracts of the document's own Shr and Len: for all lists of bits. · The contract of the document's own Div: for all lists of bits. -/
import Derived.Test.YtoplabhoedloeaaGreatBitB
import Derived.Test.YtoplabhoedloeaaGreatWidA
import Derived.Deep.RegionLaw
import Derived.Deep.RegionWith
import Derived.Deep.AppendLies
set_option maxRecDepth 100000
namespace Go.Bv
open Go Go.RowKit
set_option linter.unusedVariables false
theorem bits_two (a1 a0 : BitVec 64) : bitsOf a0.toNat 64 ++ bitsOf a1.toNat 64 = bitsOf (two a1 a0) 128 := by
  apply ints_eq (n := 128)
  · rw [List.length_append, bitsOf_len, bitsOf_len]
  · rw [bitsOf_len]
  · intro j hj
    rw [bitsOf_at hj]
    by_cases h : j < 64
    · rw [List.getD_eq_getElem?_getD, List.getElem?_append_left (by rw [bitsOf_len]; exact h), ← List.getD_eq_getElem?_getD, bitsOf_at h]
      unfold bt two
      congr 1
      obtain ⟨d, hd⟩ : ∃ d, 64 = j + (d + 1) := ⟨63 - j, by omega⟩
      rw [show (18446744073709551616 : Nat) = 2 ^ j * 2 ^ (d + 1) by rw [← Nat.pow_add, ← hd], show a1.toNat * (2 ^ j * 2 ^ (d + 1)) = 2 ^ j * (a1.toNat * 2 ^ d * 2) by rw [Nat.pow_succ]; grind, Nat.mul_add_div (Nat.two_pow_pos j)]
      omega
    · rw [List.getD_eq_getElem?_getD, List.getElem?_append_right (by rw [bitsOf_len]; omega), ← List.getD_eq_getElem?_getD, bitsOf_len, bitsOf_at (by omega)]
      unfold bt two
      congr 1
      obtain ⟨d, rfl⟩ : ∃ d, j = 64 + d := ⟨j - 64, by omega⟩
      rw [show 64 + d - 64 = d by omega, Nat.pow_add, ← Nat.div_div_eq_div_mul]
      have := a0.isLt
      rw [show (a1.toNat * 18446744073709551616 + a0.toNat) / 2 ^ 64 = a1.toNat by omega]
end Go.Bv
namespace Go.Proofs.YtoplabhoedloeaaGreat
open Go.RowKit Go.Bv
set_option linter.unusedVariables false
theorem own_low {w : World} {base base' : Nat} {e : TypeId} {size : Nat} {v : Value} {n : Nat} {xs : List Value} (h : w.ownsRow base e size v n xs) (hb : base' ≤ base) : w.ownsRow base' e size v n xs := by
  obtain ⟨hl, h⟩ := h
  refine ⟨hl, ?_⟩
  rcases h with h | ⟨g, cap, cur, hv, hb', hc, h2⟩
  · exact Or.inl h
  · exact Or.inr ⟨g, cap, cur, hv, by omega, hc, h2⟩
set_option maxHeartbeats 2000000 in
theorem of2_own (a1 a0 : BitVec 64) (w : World) :
    Calls Tryz.prog 82 #[.agg #[.int .u64 (W64 a1), .int .u64 (W64 a0)]] w fun e w' =>
      ∃ v, e = .returned v ∧ w'.ownsRow w.heap.size 3 1 v 128 ((bitsOf (two a1 a0) 128).map fun y => .int .i64 y) ∧ New w w' := by
  obtain ⟨i0, hi, hz0, hz1, hz2⟩ := info_parts info_int
  have HB := Lib.hid (bits_two a1 a0)
  go_enter Tryz.func82, Tryz.ntmps82
  go_wp2_with fail
  have hcA : (w.alloc (.cells #[.int .u64 (W64 a1), .int .u64 (W64 a0)] 24)).cell? ⟨w.heap.size, 0, none⟩ = some (.int .u64 (W64 a1)) := by rw [World.cell?_alloc_new]; rfl
  have hcB : (w.alloc (.cells #[.int .u64 (W64 a1), .int .u64 (W64 a0)] 24)).cell? ⟨w.heap.size, 1, none⟩ = some (.int .u64 (W64 a0)) := by rw [World.cell?_alloc_new]; rfl
  have hN0 : New w (w.alloc (.cells #[.int .u64 (W64 a1), .int .u64 (W64 a0)] 24)) := (New.refl w).alloc _
  have hsz : (w.alloc (.cells #[.int .u64 (W64 a1), .int .u64 (W64 a0)] 24)).heap.size = w.heap.size + 1 := by simp
  generalize w.alloc (.cells #[.int .u64 (W64 a1), .int .u64 (W64 a0)] 24) = w0 at *
  have HA := Lib.hid (show w0.drew.cell? ⟨w.heap.size, 0, none⟩ = some (.int .u64 (W64 a1)) from hcA)
  have HN0 := Lib.hid hN0
  have hsz' : w0.drew.heap.size = w.heap.size + 1 := hsz
  have HSZ := Lib.hid hsz'
  clear hN0 hsz hsz'
  go_region_law (first
    | (refine step_append_lies _ rfl (.tmp 5) (.tmp 8) 39 rfl w.heap.size 3 i0 (.int .i64 0) 1 8 Tryz.underlying39 hi hz0 hz1 hz2 rfl (by decide) _ 64 _ rfl hown2 ⟨b2, o2, none⟩ 64 c2 ((bitsOf a1.toNat 64).map fun y => .int .i64 y) rfl (by simp [bitsOf_len]) (hz2'.olds _ rfl) (by intro u hu; obtain ⟨y, _, rfl⟩ := List.mem_map.1 hu; rfl) (by omega) (by unfold maxLen; omega) (by omega) hle2 _ rfl ?_
       intro g cap w5 how hgr _ _)
    | (go_simp
       go_at_call_of 117 (Value.int IntKind.u64 (W64 a0))
       refine (of_own a0 64 64 (by omega) rfl _).mono ?_
       rintro e w1 ⟨v1, rfl, hown1, hn1⟩
       have HB1 := Lib.hid (show w.heap.size ≤ w0.drew.heap.size by rw [HSZ.out]; omega)
       obtain ⟨av1, c1, rfl, _⟩ := bits_row hown1 (by omega)
       have HOWN1 := Lib.hid hown1
       have hcA1 : w1.cell? ⟨w.heap.size, 0, none⟩ = some (.int .u64 (W64 a1)) := by rw [hn1.cell (a := ⟨w.heap.size, 0, none⟩) (World.block_lt_of_cell? _ _ HA.out)]; exact HA.out
       have HN01 := Lib.hid (HN0.out.drew.trans hn1)
       clear hown1 hn1)
    | (go_simp
       go_at_call_of 117 (Value.int IntKind.u64 (W64 a1))
       refine (of_own a1 64 64 (by omega) rfl _).mono ?_
       rintro e w2 ⟨v2, rfl, hown2', hn2⟩
       obtain ⟨av2, c2, rfl, hz2'⟩ := bits_row hown2' (by omega)
       obtain ⟨b2, o2, rfl, _⟩ := hz2'.addr (by omega)
       have hown2 := own_low (own_keep HOWN1.out hn2) HB1.out
       have hn02 : New w w2 := HN01.out.trans hn2
       have hle2 : w.heap.size ≤ w2.heap.size := hn02.le))
  all_goals (
    have how2 : w5.ownsRow w.heap.size 3 1 (.slice (some ⟨g, 0, none⟩) (64 + 64) cap) 128 ((bitsOf (two a1 a0) 128).map fun y => .int .i64 y) := by
      rw [← HB.out, List.map_append]; exact how
    have hn5 : New w w5 := hn02.grown' hgr (own_base hown2)
    clear how hgr
    go_wp2
    go_ret
    exact ⟨_, rfl, how2, hn5⟩)
end Go.Proofs.YtoplabhoedloeaaGreat
namespace Go.Bv
theorem mul_bit0 (A B k : Nat) (h : B / 2 ^ k % 2 = 0) : A * (B % 2 ^ (k + 1)) = A * (B % 2 ^ k) := by
  rw [mod_bit, h, Nat.mul_zero, Nat.add_zero]
theorem mul_bit1 (A B k : Nat) (h : B / 2 ^ k % 2 = 1) : A * (B % 2 ^ (k + 1)) = A * (B % 2 ^ k) + A * 2 ^ k := by
  rw [mod_bit, h, Nat.mul_one, Nat.mul_add]
theorem bits_mod_add (X Y m : Nat) : bitsOf (X % 2 ^ m + Y % 2 ^ m) m = bitsOf (X + Y) m := by
  rw [← bitsOf_mod (X % 2 ^ m + Y % 2 ^ m), ← Nat.add_mod, bitsOf_mod]
end Go.Bv
namespace Go.Proofs.YtoplabhoedloeaaGreat
open Go.RowKit Go.Bv
set_option linter.unusedVariables false
set_option maxHeartbeats 1000000 in
theorem bmul_own (A B na nb ca cb : Nat) (a b : Option Addr) (n : Int) (m : Nat) (hnm : n = (m : Int)) (hm : m ≤ 4096) (hnb : nb ≤ 4096) (w : World) (ha : ZRow w a na ca (bitsOf A na)) (hA : A < 2 ^ na) (hb : ZRow w b nb cb (bitsOf B nb)) (hB : B < 2 ^ nb) :
    Calls Tryz.prog 84 #[.slice a na ca, .slice b nb cb, .int .i64 n] w fun e w' =>
      ∃ v, e = .returned v ∧ w'.ownsRow w.heap.size 3 1 v m ((bitsOf (A * B) m).map fun y => .int .i64 y) ∧ New w w' := by
  subst hnm
  have cOf := fun w => of_own 0#64 (m : Int) m hm rfl w
  rw [lo_zero, show (0#64).toNat = 0 from rfl] at cOf
  have HOf := Lib.hid cOf
  have HB0 := Lib.hid hb.addr
  have HEND := Lib.hid (Nat.mod_eq_of_lt hB)
  have HZ := Lib.hid (show A * (B % 2 ^ 0) = 0 by rw [Nat.pow_zero, Nat.mod_one, Nat.mul_zero])
  have HA := Lib.hid hA
  clear cOf hA hB
  go_enter Tryz.func84, Tryz.ntmps84
  go_wp2_with fail
  refine (HOf.out _).mono ?_
  rintro e w1 ⟨v1, rfl, hown1, hn1⟩
  go_wp2
  go_loopw [7, 8] (fun v i wr => ∃ k : Nat, k ≤ nb ∧ i = .int .i64 k ∧ wr.ownsRow w.heap.size 3 1 v m ((bitsOf (A * (B % 2 ^ k)) m).map fun y => .int .i64 y) ∧ New w wr) (fun _ i _ => nb - (intOf i).toNat)
  case atStart => exact ⟨0, by omega, rfl, by rw [HZ.out]; exact hown1, hn1⟩
  case round =>
    obtain ⟨k, hk, rfl, hown, hnew⟩ := hrel
    by_cases hlt : (k : Int) < nb
    · obtain ⟨bb, boff, rfl, hc⟩ := HB0.out (by omega)
      have c1 := (hb.stay hnew).cell bb boff rfl k (by omega)
      rw [bitsOf_at (by omega)] at c1
      clear hc
      by_cases hbit : B / 2 ^ k % 2 = 1
      · have e1 : bt B k = 1 := by unfold bt; rw [hbit]; rfl
        rw [e1] at c1
        have HS := Lib.hid (mul_bit1 A B k hbit)
        obtain ⟨av, cv, rfl, hz⟩ := bits_row hown (by omega)
        have ha' := ha.stay hnew
        clear hbit e1
        go_wp2_with fail
        refine (bshl_own A na ca k a (m : Int) m rfl hm (by omega) _ ha' HA.out).mono ?_
        rintro e w2 ⟨v2, rfl, hown2, hn2⟩
        obtain ⟨av2, cv2, rfl, hz2⟩ := bits_row hown2 (by omega)
        have hz' := hz.stay hn2
        rw [← bitsOf_mod] at hz' hz2
        go_wp2_with fail
        refine (badd_own _ _ m m cv cv2 av av2 (m : Int) m rfl hm _ hz' (Nat.mod_lt _ (Nat.two_pow_pos _)) hz2 (Nat.mod_lt _ (Nat.two_pow_pos _))).mono ?_
        rintro e w3 ⟨v3, rfl, hown3, hn3⟩
        rw [bits_mod_add, ← HS.out] at hown3
        have hn13 := hn2.trans hn3
        have how := own_low hown3 (show w.heap.size ≤ w2.heap.size from (hnew.trans hn2).le)
        have hnn := hnew.trans hn13
        clear hown3 hown2 hown hz hz2 hz' hn3 hn2 HS
        generalize cy _ _ m = q
        go_wp2
        exact ⟨⟨k + 1, by omega, by go_num, how, hnn⟩, by simp [intOf]; omega⟩
      · have e0 : B / 2 ^ k % 2 = 0 := by omega
        have e1 : bt B k = 0 := by unfold bt; rw [e0]; rfl
        rw [e1] at c1
        rw [← mul_bit0 A B k e0] at hown
        clear hbit e0 e1
        go_wp2
        exact ⟨⟨k + 1, by omega, by go_num, hown, hnew⟩, by simp [intOf]; omega⟩
    · obtain rfl : k = nb := by omega
      rw [HEND.out] at hown
      go_wp2
      go_ret
      exact ⟨_, rfl, hown, hnew⟩
end Go.Proofs.YtoplabhoedloeaaGreat
namespace Go.Bv
open Go Go.RowKit
theorem shr_bit (A b i : Nat) : bt (A / 2 ^ b) i = btI A ((i : Int) + (b : Int)) := by
  rw [show (i : Int) + (b : Int) = ((i + b : Nat) : Int) by omega, btI_nat]
  unfold bt
  rw [Nat.div_div_eq_div_mul, ← Nat.pow_add, Nat.add_comm b i]
/-- one more than the greatest bit that is set, below k -/
def lenN (A : Nat) : Nat → Nat
  | 0 => 0
  | k + 1 => if A / 2 ^ k % 2 = 1 then k + 1 else lenN A k
theorem lenN_zero (A : Nat) : ∀ k, lenN A k = 0 → A % 2 ^ k = 0
  | 0, _ => by rw [Nat.pow_zero, Nat.mod_one]
  | k + 1, h => by
    unfold lenN at h
    by_cases h1 : A / 2 ^ k % 2 = 1
    · rw [if_pos h1] at h; omega
    · rw [if_neg h1] at h
      rw [mod_bit, lenN_zero A k h, show A / 2 ^ k % 2 = 0 by omega, Nat.mul_zero]
theorem lenN_le (A : Nat) : ∀ k, lenN A k ≤ k
  | 0 => Nat.le_refl _
  | k + 1 => by
    have := lenN_le A k
    unfold lenN; split <;> omega
theorem lenN_pos {A n : Nat} (h : A < 2 ^ n) (h0 : A ≠ 0) : lenN A n ≠ 0 := by
  intro e
  have := lenN_zero A n e
  rw [Nat.mod_eq_of_lt h] at this
  exact h0 this
end Go.Bv
namespace Go.Proofs.YtoplabhoedloeaaGreat
open Go.RowKit Go.Bv
set_option linter.unusedVariables false
end Go.Proofs.YtoplabhoedloeaaGreat
namespace Go.Bv
open Go Go.RowKit
theorem own_shape {w : World} {base n : Nat} {e : TypeId} {v : Value} {xs : List Value} (h : w.ownsRow base e 1 v n xs) (h0 : 0 < n) : ∃ g cap, v = .slice (some ⟨g, 0, none⟩) n cap ∧ base ≤ g ∧ g < w.heap.size := by
  obtain ⟨hl, h | ⟨g, cap, cur, hv, hb, hc, h2⟩⟩ := h
  · omega
  · exact ⟨g, cap, hv, hb, lt_of_block hc⟩
theorem own_set {w : World} {base g n cap : Nat} {e : TypeId} {xs : List Value} (h : w.ownsRow base e 1 (.slice (some ⟨g, 0, none⟩) n cap) n xs) (k : Nat) (u : Value) : (w.setCell ⟨g, k, none⟩ u).ownsRow base e 1 (.slice (some ⟨g, 0, none⟩) n cap) n (xs.set k u) := by
  obtain ⟨hl, h | ⟨g', cap', cur, hv, hb, hc, h1, h2, h3, h4⟩⟩ := h
  · cases h.1
  · injection hv with e1 e2 e3
    cases e1; subst e3
    refine ⟨by rw [List.length_set]; exact hl, Or.inr ⟨g, cap, cur.setIfInBounds k u, rfl, hb, heap_setCell_same _ _ _ _ _ _ hc, h1, h2, by rw [Array.size_setIfInBounds]; exact h3, ?_⟩⟩
    rw [Array.toList_setIfInBounds, List.take_set, h4]
theorem own_far {w : World} {base n : Nat} {e : TypeId} {v : Value} {xs : List Value} (h : w.ownsRow base e 1 v n xs) {a : Addr} (hv : v.ownBlock ≠ some a.block) (u : Value) : (w.setCell a u).ownsRow base e 1 v n xs := by
  obtain ⟨hl, h | ⟨g', cap', cur, rfl, hb, hc, h2⟩⟩ := h
  · exact ⟨hl, Or.inl h⟩
  · exact ⟨hl, Or.inr ⟨g', cap', cur, rfl, hb, (heap_setCell_other _ _ _ _ (fun e => hv (by rw [← e]; rfl))).trans hc, h2⟩⟩
theorem own_cell {w : World} {base g n cap : Nat} {e : TypeId} {xs : List Value} (h : w.ownsRow base e 1 (.slice (some ⟨g, 0, none⟩) n cap) n xs) {k : Nat} {u : Value} (hu : xs[k]? = some u) : w.cell? ⟨g, k, none⟩ = some u ∧ w.frozen? ⟨g, k, none⟩ = false := by
  obtain ⟨hl, h | ⟨g', cap', cur, hv, hb, hc, h1, h2, h3, h4⟩⟩ := h
  · cases h.1
  · injection hv with e1 e2 e3
    cases e1
    refine ⟨?_, frozen_of_row _ _ _ _ _ hc⟩
    rw [cell_of_row _ _ _ _ _ _ hc, ← Array.getElem?_toList, ← hu, ← h4, List.getElem?_take, if_pos]
    rw [List.getElem?_eq_some_iff] at hu
    obtain ⟨h5, _⟩ := hu
    omega
theorem own_cell' {w : World} {base g n cap : Nat} {e : TypeId} {xs : List Value} (h : w.ownsRow base e 1 (.slice (some ⟨g, 0, none⟩) n cap) n xs) {k : Nat} (hk : k < n) : (∃ u, w.cell? ⟨g, k, none⟩ = some u) ∧ w.frozen? ⟨g, k, none⟩ = false := by
  have h1 : k < xs.length := by rw [h.1]; omega
  have h2 := own_cell h (List.getElem?_eq_getElem h1)
  exact ⟨⟨_, h2.1⟩, h2.2⟩
theorem own_ne {w : World} {base g n : Nat} {e : TypeId} {v : Value} {xs : List Value} (h : w.ownsRow base e 1 v n xs) (hg : g < base) : v.ownBlock ≠ some g := by
  intro he
  have := own_base h g he
  omega
theorem bits_set0 (R b m : Nat) (hb : b ≤ 1) : (bitsOf (R * 2 ^ 1) m).set 0 (b : Int) = bitsOf (2 * R + b) m := by
  apply ints_eq (n := m)
  · rw [List.length_set, bitsOf_len]
  · rw [bitsOf_len]
  · intro j hj
    rw [bitsOf_at hj, List.getD_eq_getElem?_getD, List.getElem?_set, bitsOf_len]
    by_cases h : j = 0
    · subst h
      rw [if_pos rfl, if_pos hj]
      unfold bt
      rw [Nat.pow_zero, Nat.div_one]
      show (b : Int) = _
      congr 1
      omega
    · rw [if_neg (fun e => h e.symm), ← List.getD_eq_getElem?_getD, bitsOf_at hj]
      unfold bt
      obtain ⟨d, rfl⟩ : ∃ d, j = d + 1 := ⟨j - 1, by omega⟩
      rw [show (2 : Nat) ^ (d + 1) = 2 * 2 ^ d by rw [Nat.pow_succ, Nat.mul_comm], ← Nat.div_div_eq_div_mul, ← Nat.div_div_eq_div_mul, show R * 2 ^ 1 / 2 = R by omega, show (2 * R + b) / 2 = R by omega]
theorem bits_setk (Q k n : Nat) (hk : k < n) : (bitsOf (Q * 2 ^ (k + 1)) n).set k 1 = bitsOf ((2 * Q + 1) * 2 ^ k) n := by
  apply ints_eq (n := n)
  · rw [List.length_set, bitsOf_len]
  · rw [bitsOf_len]
  · intro j hj
    rw [bitsOf_at hj, List.getD_eq_getElem?_getD, List.getElem?_set, bitsOf_len]
    by_cases h : k = j
    · subst h
      rw [if_pos rfl, if_pos hj]
      unfold bt
      rw [Nat.mul_div_cancel _ (Nat.two_pow_pos k), show (2 * Q + 1) % 2 = 1 by omega]; rfl
    · rw [if_neg h, ← List.getD_eq_getElem?_getD, bitsOf_at hj]
      unfold bt
      congr 1
      rcases Nat.lt_or_ge j k with h2 | h2
      · obtain ⟨d, rfl⟩ : ∃ d, k = j + (d + 1) := ⟨k - j - 1, by omega⟩
        rw [show Q * 2 ^ (j + (d + 1) + 1) = 2 * (Q * 2 ^ (d + 1)) * 2 ^ j by rw [show j + (d + 1) + 1 = (d + 1) + 1 + j by omega, Nat.pow_add _ _ j, show (2 : Nat) ^ (d + 1 + 1) = 2 * 2 ^ (d + 1) by rw [Nat.pow_succ, Nat.mul_comm], ← Nat.mul_assoc, Nat.mul_left_comm],
          show (2 * Q + 1) * 2 ^ (j + (d + 1)) = 2 * ((2 * Q + 1) * 2 ^ d) * 2 ^ j by rw [show j + (d + 1) = (d + 1) + j by omega, Nat.pow_add _ _ j, show (2 : Nat) ^ (d + 1) = 2 * 2 ^ d by rw [Nat.pow_succ, Nat.mul_comm], ← Nat.mul_assoc, Nat.mul_left_comm],
          Nat.mul_div_cancel _ (Nat.two_pow_pos j), Nat.mul_div_cancel _ (Nat.two_pow_pos j), Nat.mul_mod_right, Nat.mul_mod_right]
      · obtain ⟨d, rfl⟩ : ∃ d, j = k + (d + 1) := ⟨j - k - 1, by omega⟩
        rw [Nat.pow_add 2 k (d + 1), ← Nat.div_div_eq_div_mul, ← Nat.div_div_eq_div_mul, show Q * 2 ^ (k + 1) = 2 * Q * 2 ^ k by rw [Nat.pow_succ, Nat.mul_comm (2 ^ k) 2, ← Nat.mul_assoc, Nat.mul_comm Q 2], Nat.mul_div_cancel _ (Nat.two_pow_pos k), Nat.mul_div_cancel _ (Nat.two_pow_pos k),
          show (2 : Nat) ^ (d + 1) = 2 * 2 ^ d by rw [Nat.pow_succ, Nat.mul_comm], ← Nat.div_div_eq_div_mul, ← Nat.div_div_eq_div_mul, show 2 * Q / 2 = Q by omega, show (2 * Q + 1) / 2 = Q by omega]
/-- one step of a long division -/
theorem div_bit (A B k : Nat) (hB : 0 < B) (h : B ≤ 2 * (A / 2 ^ (k + 1) % B) + A / 2 ^ k % 2) : A / 2 ^ k % B = 2 * (A / 2 ^ (k + 1) % B) + A / 2 ^ k % 2 - B ∧ A / 2 ^ k / B = 2 * (A / 2 ^ (k + 1) / B) + 1 := by
  have e := bt_step A k
  have hr := Nat.mod_lt (A / 2 ^ (k + 1)) hB
  have hd := Nat.div_add_mod (A / 2 ^ (k + 1)) B
  generalize A / 2 ^ (k + 1) % B = r at *
  generalize A / 2 ^ (k + 1) / B = q at *
  generalize A / 2 ^ (k + 1) = X at *
  have hb : A / 2 ^ k % 2 < 2 := Nat.mod_lt _ (by omega)
  generalize A / 2 ^ k % 2 = b at *
  have e2 : A / 2 ^ k = B * (2 * q + 1) + (2 * r + b - B) := by
    rw [e, ← hd, Nat.mul_add, Nat.mul_add, Nat.mul_one]
    have : B * (2 * q) = 2 * (B * q) := by rw [Nat.mul_left_comm]
    omega
  rw [e2, Nat.mul_add_mod, Nat.mul_add_div hB, Nat.mod_eq_of_lt (by omega), Nat.div_eq_of_lt (by omega)]
  exact ⟨rfl, rfl⟩
theorem div_bit0 (A B k : Nat) (hB : 0 < B) (h : ¬ B ≤ 2 * (A / 2 ^ (k + 1) % B) + A / 2 ^ k % 2) : A / 2 ^ k % B = 2 * (A / 2 ^ (k + 1) % B) + A / 2 ^ k % 2 ∧ A / 2 ^ k / B = 2 * (A / 2 ^ (k + 1) / B) := by
  have e := bt_step A k
  have hd := Nat.div_add_mod (A / 2 ^ (k + 1)) B
  generalize A / 2 ^ (k + 1) % B = r at *
  generalize A / 2 ^ (k + 1) / B = q at *
  generalize A / 2 ^ (k + 1) = X at *
  generalize A / 2 ^ k % 2 = b at *
  have e2 : A / 2 ^ k = B * (2 * q) + (2 * r + b) := by
    rw [e, ← hd, Nat.mul_add]
    have : B * (2 * q) = 2 * (B * q) := by rw [Nat.mul_left_comm]
    omega
  rw [e2, Nat.mul_add_mod, Nat.mul_add_div hB, Nat.mod_eq_of_lt (by omega), Nat.div_eq_of_lt (by omega)]
  exact ⟨rfl, rfl⟩
theorem bits_over (X m : Nat) : bitsOf (X + 2 ^ m) m = bitsOf X m := by
  rw [← bitsOf_mod (X + 2 ^ m), Nat.add_mod_right, bitsOf_mod]
end Go.Bv
namespace Go.Proofs.YtoplabhoedloeaaGreat
open Go.RowKit Go.Bv
set_option linter.unusedVariables false
end Go.Proofs.YtoplabhoedloeaaGreat
