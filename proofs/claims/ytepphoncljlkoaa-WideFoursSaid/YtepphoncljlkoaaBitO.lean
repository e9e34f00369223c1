/- The contract of the document's own Of2: for all numbers of two words. -/
import Derived.Test.YtepphoncljlkoaaBitB
import Derived.Test.YtepphoncljlkoaaWidA
import Derived.Deep.RegionLaw
import Derived.Deep.RegionWith
import Derived.Deep.AppendLies
namespace Go.Bv
open Go Go.RowKit
set_option linter.unusedVariables false
theorem bits_two (a1 a0 : BitVec 64) : bitsOf a0.toNat 64 ++ bitsOf a1.toNat 64 = bitsOf (two a1 a0) 128 := by
  apply ints_eq (n := 128)
  · rw [List.length_append, bitsOf_len, bitsOf_len]
  · rw [bitsOf_len]
  · intro j hj
    rw [bitsOf_at hj]
    by_cases h : j < 64
    · rw [List.getD_eq_getElem?_getD, List.getElem?_append_left (by rw [bitsOf_len]; exact h), ← List.getD_eq_getElem?_getD, bitsOf_at h]
      unfold bt two
      congr 1
      obtain ⟨d, hd⟩ : ∃ d, 64 = j + (d + 1) := ⟨63 - j, by omega⟩
      rw [show (18446744073709551616 : Nat) = 2 ^ j * 2 ^ (d + 1) by rw [← Nat.pow_add, ← hd], show a1.toNat * (2 ^ j * 2 ^ (d + 1)) = 2 ^ j * (a1.toNat * 2 ^ d * 2) by rw [Nat.pow_succ]; grind, Nat.mul_add_div (Nat.two_pow_pos j)]
      omega
    · rw [List.getD_eq_getElem?_getD, List.getElem?_append_right (by rw [bitsOf_len]; omega), ← List.getD_eq_getElem?_getD, bitsOf_len, bitsOf_at (by omega)]
      unfold bt two
      congr 1
      obtain ⟨d, rfl⟩ : ∃ d, j = 64 + d := ⟨j - 64, by omega⟩
      rw [show 64 + d - 64 = d by omega, Nat.pow_add, ← Nat.div_div_eq_div_mul]
      have := a0.isLt
      rw [show (a1.toNat * 18446744073709551616 + a0.toNat) / 2 ^ 64 = a1.toNat by omega]
end Go.Bv
namespace Go.Proofs.Ytepphoncljlkoaa
open Go.RowKit Go.Bv
set_option linter.unusedVariables false
theorem own_low {w : World} {base base' : Nat} {e : TypeId} {size : Nat} {v : Value} {n : Nat} {xs : List Value} (h : w.ownsRow base e size v n xs) (hb : base' ≤ base) : w.ownsRow base' e size v n xs := by
  obtain ⟨hl, h⟩ := h
  refine ⟨hl, ?_⟩
  rcases h with h | ⟨g, cap, cur, hv, hb', hc, h2⟩
  · exact Or.inl h
  · exact Or.inr ⟨g, cap, cur, hv, by omega, hc, h2⟩
set_option maxHeartbeats 2000000 in
theorem of2_own (a1 a0 : BitVec 64) (w : World) :
    Calls Try.prog 12 #[.agg #[.int .u64 (W64 a1), .int .u64 (W64 a0)]] w fun e w' =>
      ∃ v, e = .returned v ∧ w'.ownsRow w.heap.size 3 1 v 128 ((bitsOf (two a1 a0) 128).map fun y => .int .i64 y) ∧ New w w' := by
  obtain ⟨i0, hi, hz0, hz1, hz2⟩ := info_parts info_int
  have HB := Lib.hid (bits_two a1 a0)
  go_enter Try.func12, Try.ntmps12
  go_wp2_with fail
  have hcA : (w.alloc (.cells #[.int .u64 (W64 a1), .int .u64 (W64 a0)] 24)).cell? ⟨w.heap.size, 0, none⟩ = some (.int .u64 (W64 a1)) := by rw [World.cell?_alloc_new]; rfl
  have hcB : (w.alloc (.cells #[.int .u64 (W64 a1), .int .u64 (W64 a0)] 24)).cell? ⟨w.heap.size, 1, none⟩ = some (.int .u64 (W64 a0)) := by rw [World.cell?_alloc_new]; rfl
  have hN0 : New w (w.alloc (.cells #[.int .u64 (W64 a1), .int .u64 (W64 a0)] 24)) := (New.refl w).alloc _
  have hsz : (w.alloc (.cells #[.int .u64 (W64 a1), .int .u64 (W64 a0)] 24)).heap.size = w.heap.size + 1 := by simp
  generalize w.alloc (.cells #[.int .u64 (W64 a1), .int .u64 (W64 a0)] 24) = w0 at *
  have HA := Lib.hid (show w0.drew.cell? ⟨w.heap.size, 0, none⟩ = some (.int .u64 (W64 a1)) from hcA)
  have HN0 := Lib.hid hN0
  have hsz' : w0.drew.heap.size = w.heap.size + 1 := hsz
  have HSZ := Lib.hid hsz'
  clear hN0 hsz hsz'
  go_region_law (first
    | (refine step_append_lies _ rfl (.tmp 5) (.tmp 8) 26 rfl w.heap.size 3 i0 (.int .i64 0) 1 8 Try.underlying26 hi hz0 hz1 hz2 rfl (by decide) _ 64 _ rfl hown2 ⟨b2, o2, none⟩ 64 c2 ((bitsOf a1.toNat 64).map fun y => .int .i64 y) rfl (by simp [bitsOf_len]) (hz2'.olds _ rfl) (by intro u hu; obtain ⟨y, _, rfl⟩ := List.mem_map.1 hu; rfl) (by omega) (by unfold maxLen; omega) (by omega) hle2 _ rfl ?_
       intro g cap w5 how hgr _ _)
    | (go_simp
       go_at_call_of 21 (Value.int IntKind.u64 (W64 a0))
       refine (of_own a0 64 64 (by omega) rfl _).mono ?_
       rintro e w1 ⟨v1, rfl, hown1, hn1⟩
       have HB1 := Lib.hid (show w.heap.size ≤ w0.drew.heap.size by rw [HSZ.out]; omega)
       obtain ⟨av1, c1, rfl, _⟩ := bits_row hown1 (by omega)
       have HOWN1 := Lib.hid hown1
       have hcA1 : w1.cell? ⟨w.heap.size, 0, none⟩ = some (.int .u64 (W64 a1)) := by rw [hn1.cell (a := ⟨w.heap.size, 0, none⟩) (World.block_lt_of_cell? _ _ HA.out)]; exact HA.out
       have HN01 := Lib.hid (HN0.out.drew.trans hn1)
       clear hown1 hn1)
    | (go_simp
       go_at_call_of 21 (Value.int IntKind.u64 (W64 a1))
       refine (of_own a1 64 64 (by omega) rfl _).mono ?_
       rintro e w2 ⟨v2, rfl, hown2', hn2⟩
       obtain ⟨av2, c2, rfl, hz2'⟩ := bits_row hown2' (by omega)
       obtain ⟨b2, o2, rfl, _⟩ := hz2'.addr (by omega)
       have hown2 := own_low (own_keep HOWN1.out hn2) HB1.out
       have hn02 : New w w2 := HN01.out.trans hn2
       have hle2 : w.heap.size ≤ w2.heap.size := hn02.le))
  all_goals (
    have how2 : w5.ownsRow w.heap.size 3 1 (.slice (some ⟨g, 0, none⟩) (64 + 64) cap) 128 ((bitsOf (two a1 a0) 128).map fun y => .int .i64 y) := by
      rw [← HB.out, List.map_append]; exact how
    have hn5 : New w w5 := hn02.grown' hgr (own_base hown2)
    clear how hgr
    go_wp2
    go_ret
    exact ⟨_, rfl, how2, hn5⟩)
end Go.Proofs.Ytepphoncljlkoaa
