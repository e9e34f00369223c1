/- wide.Bit4; the document's Of4. -/
import Derived.Test.YtagidgboebjkhaaDoorFouB
namespace Go.Proofs.YtagidgboebjkhaaDoor
open Go.RowKit Go.Bv
set_option linter.unusedVariables false
theorem bit_word (x : BitVec 64) (r : Nat) : (x >>> r &&& 1#64 == 1#64) = x.getLsbD r := by
  have h : x >>> r &&& 1#64 = if x.getLsbD r then 1#64 else 0#64 := by
    apply BitVec.eq_of_getLsbD_eq
    intro i hi
    rw [BitVec.getLsbD_and, BitVec.getLsbD_ushiftRight]
    by_cases h0 : i = 0
    · subst h0
      rw [Nat.add_zero]
      cases x.getLsbD r <;> rfl
    · have e1 : (1#64).getLsbD i = false := by rw [BitVec.getLsbD_one]; simp [h0]
      rw [e1, Bool.and_false]
      cases x.getLsbD r
      · simp
      · simp [e1]
  rw [h]
  cases x.getLsbD r <;> rfl
theorem bits_join (L s : Nat) (x : BitVec 64) (hL : L < 2 ^ s) : bitsOf L s ++ bitsOf x.toNat 64 = bitsOf (L + 2 ^ s * x.toNat) (s + 64) := by
  apply ints_eq (n := s + 64)
  · rw [List.length_append, bitsOf_len, bitsOf_len]
  · rw [bitsOf_len]
  · intro j hj
    rw [bitsOf_at hj]
    by_cases h : j < s
    · rw [List.getD_eq_getElem?_getD, List.getElem?_append_left (by rw [bitsOf_len]; exact h), ← List.getD_eq_getElem?_getD, bitsOf_at h]
      unfold bt
      congr 1
      obtain ⟨d, rfl⟩ : ∃ d, s = j + (d + 1) := ⟨s - j - 1, by omega⟩
      rw [show L + 2 ^ (j + (d + 1)) * x.toNat = L + 2 ^ j * (2 * (2 ^ d * x.toNat)) by rw [Nat.pow_add, Nat.pow_succ]; grind, Nat.add_mul_div_left _ _ (Nat.two_pow_pos j)]
      omega
    · rw [List.getD_eq_getElem?_getD, List.getElem?_append_right (by rw [bitsOf_len]; omega), ← List.getD_eq_getElem?_getD, bitsOf_len, bitsOf_at (by omega)]
      unfold bt
      congr 1
      obtain ⟨d, rfl⟩ : ∃ d, j = s + d := ⟨j - s, by omega⟩
      rw [show s + d - s = d by omega, Nat.pow_add, ← Nat.div_div_eq_div_mul, Nat.add_mul_div_left _ _ (Nat.two_pow_pos s), Nat.div_eq_of_lt hL, Nat.zero_add]
set_option maxRecDepth 100000 in
set_option maxHeartbeats 4000000 in
theorem of4_own (a0 a1 a2 a3 : BitVec 64) (w : World) :
    Calls Tryd.prog 10 #[.agg #[.int .u64 (W64 a0), .int .u64 (W64 a1), .int .u64 (W64 a2), .int .u64 (W64 a3)]] w fun e w' => ∃ v, e = .returned v ∧ w'.ownsRow w.heap.size 3 1 v 256 ((bitsOf (four a0 a1 a2 a3) 256).map fun y => .int .i64 y) ∧ New w w' := by
  obtain ⟨i0, hi, hz0, hz1, hz2⟩ := info_parts info_int
  have l0 := a0.isLt
  have l1 := a1.isLt
  have l2 := a2.isLt
  rw [p64] at l0 l1 l2
  have J0 : Hid (bitsOf a0.toNat 64 = bitsOf a0.toNat 64) := Lib.hid rfl
  have J1 := bits_join a0.toNat 64 a1 (by rw [p64]; exact l0)
  rw [p64] at J1
  have J2 := bits_join (a0.toNat + 18446744073709551616 * a1.toNat) 128 a2 (by rw [p128]; omega)
  rw [p128] at J2
  have J3 := bits_join (a0.toNat + 18446744073709551616 * (a1.toNat + 18446744073709551616 * a2.toNat)) 192 a3 (by rw [p192]; omega)
  rw [p192] at J3
  have HJ1 : Hid (bitsOf a0.toNat 64 ++ bitsOf a1.toNat 64 = bitsOf (two a1 a0) 128) := Lib.hid (bits_two a1 a0)
  have HJ2 : Hid (bitsOf (two a1 a0) 128 ++ bitsOf a2.toNat 64 = bitsOf (a0.toNat + 18446744073709551616 * (a1.toNat + 18446744073709551616 * a2.toNat)) 192) := Lib.hid (by
    rw [show two a1 a0 = a0.toNat + 18446744073709551616 * a1.toNat by unfold two; omega, J2]; congr 1; omega)
  have HJ3 : Hid (bitsOf (a0.toNat + 18446744073709551616 * (a1.toNat + 18446744073709551616 * a2.toNat)) 192 ++ bitsOf a3.toNat 64 = bitsOf (four a0 a1 a2 a3) 256) := Lib.hid (by
    rw [J3]; congr 1; unfold four; omega)
  have HBX := Lib.hid (heap_alloc_new w (.cells #[.int .u64 (W64 a0), .int .u64 (W64 a1), .int .u64 (W64 a2), .int .u64 (W64 a3)] 24))
  have HN0 := Lib.hid ((New.refl w).alloc (.cells #[.int .u64 (W64 a0), .int .u64 (W64 a1), .int .u64 (W64 a2), .int .u64 (W64 a3)] 24))
  have HS0 : Hid ((w.alloc (.cells #[.int .u64 (W64 a0), .int .u64 (W64 a1), .int .u64 (W64 a2), .int .u64 (W64 a3)] 24)).heap.size = w.heap.size + 1) := Lib.hid (by simp)
  clear l0 l1 l2 J0 J1 J2 J3
  go_enter Tryd.func10, Tryd.ntmps10
  go_wp2_with fail
  generalize w.alloc (.cells #[.int .u64 (W64 a0), .int .u64 (W64 a1), .int .u64 (W64 a2), .int .u64 (W64 a3)] 24) = wz at *
  go_loopw [3, 4] (fun v iv wr => ((iv = .int .i64 0 ∧ wr.ownsRow (w.heap.size + 1) 3 1 v 0 ((bitsOf 0 0).map fun y => .int .i64 y)) ∨ (iv = .int .i64 1 ∧ wr.ownsRow (w.heap.size + 1) 3 1 v 64 ((bitsOf a0.toNat 64).map fun y => .int .i64 y)) ∨ (iv = .int .i64 2 ∧ wr.ownsRow (w.heap.size + 1) 3 1 v 128 ((bitsOf (two a1 a0) 128).map fun y => .int .i64 y)) ∨ (iv = .int .i64 3 ∧ wr.ownsRow (w.heap.size + 1) 3 1 v 192 ((bitsOf (a0.toNat + 18446744073709551616 * (a1.toNat + 18446744073709551616 * a2.toNat)) 192).map fun y => .int .i64 y)) ∨ (iv = .int .i64 4 ∧ wr.ownsRow (w.heap.size + 1) 3 1 v 256 ((bitsOf (four a0 a1 a2 a3) 256).map fun y => .int .i64 y))) ∧ New wz wr) (fun _ iv _ => 4 - (intOf iv).toNat)
  case atStart => exact ⟨Or.inl ⟨rfl, World.ownsRow_nil _ _ _ 1⟩, New.refl _⟩
  case round =>
    obtain ⟨hc, hnw⟩ := hrel
    have HN := Lib.hid hnw
    have HBQ := Lib.hid ((hnw.block _ (lt_of_block HBX.out)).trans HBX.out)
    obtain ⟨wq, hwq⟩ : ∃ z, z = wr := ⟨_, rfl⟩
    rw [← hwq] at HN HBQ hc ⊢
    clear hnw hwq
    rcases hc with ⟨rfl, hown⟩ | ⟨rfl, hown⟩ | ⟨rfl, hown⟩ | ⟨rfl, hown⟩ | ⟨rfl, hown⟩
    · have HO := Lib.hid hown
      have hA : wq.cell? ⟨w.heap.size, 0, none⟩ = some (.int .u64 (W64 a0)) := by rw [cell_of_row _ _ _ _ _ _ HBQ.out]; rfl
      clear hown
      go_wp2_with fail
      refine (of_own a0 64 64 (by omega) rfl _).mono ?_
      rintro e w2 ⟨v2, rfl, hown2, hn2⟩
      obtain ⟨av2, c2, rfl, hz⟩ := bits_row hown2 (by omega)
      obtain ⟨b2, o2, rfl, _⟩ := hz.addr (by omega)
      have hown := own_keep HO.out hn2
      have hn02 := HN.out.trans hn2
      have hsz := hn02.le
      rw [HS0.out] at hsz
      clear hown2 hA
      go_wp2_with (at_builtin; refine wpList_append_own _ rfl _ _ 28 rfl (w.heap.size + 1) 3 i0 (.int .i64 0) 1 8 Tryd.underlying28 hi hz0 hz1 hz2 rfl (by decide) _ 0 _ rfl hown ⟨b2, o2, none⟩ 64 c2 ((bitsOf a0.toNat 64).map fun y => .int .i64 y) rfl (by simp [bitsOf_len]) (hz.olds _ rfl) (by intro u hu; obtain ⟨y, _, rfl⟩ := List.mem_map.1 hu; rfl) (by unfold maxLen; omega) (by omega) hsz ?_)
      intro v' w1 how hgr _
      have HO2 : Hid (w1.ownsRow (w.heap.size + 1) 3 1 v' 64 ((bitsOf a0.toNat 64).map fun y => .int .i64 y)) := Lib.hid (by
        exact how)
      have HN1 := Lib.hid (hn02.grown' hgr (fun j e => by rw [HS0.out]; exact own_base hown j e))
      clear how hgr hown hz hn02 hn2 hsz
      go_wp2
      exact ⟨⟨(Or.inr (Or.inl ⟨rfl, HO2.out⟩)), HN1.out⟩, by simp [intOf]⟩
    · have HO := Lib.hid hown
      have hA : wq.cell? ⟨w.heap.size, 1, none⟩ = some (.int .u64 (W64 a1)) := by rw [cell_of_row _ _ _ _ _ _ HBQ.out]; rfl
      clear hown
      go_wp2_with fail
      refine (of_own a1 64 64 (by omega) rfl _).mono ?_
      rintro e w2 ⟨v2, rfl, hown2, hn2⟩
      obtain ⟨av2, c2, rfl, hz⟩ := bits_row hown2 (by omega)
      obtain ⟨b2, o2, rfl, _⟩ := hz.addr (by omega)
      have hown := own_keep HO.out hn2
      have hn02 := HN.out.trans hn2
      have hsz := hn02.le
      rw [HS0.out] at hsz
      clear hown2 hA
      go_wp2_with (at_builtin; refine wpList_append_own _ rfl _ _ 28 rfl (w.heap.size + 1) 3 i0 (.int .i64 0) 1 8 Tryd.underlying28 hi hz0 hz1 hz2 rfl (by decide) _ 64 _ rfl hown ⟨b2, o2, none⟩ 64 c2 ((bitsOf a1.toNat 64).map fun y => .int .i64 y) rfl (by simp [bitsOf_len]) (hz.olds _ rfl) (by intro u hu; obtain ⟨y, _, rfl⟩ := List.mem_map.1 hu; rfl) (by unfold maxLen; omega) (by omega) hsz ?_)
      intro v' w1 how hgr _
      have HO2 : Hid (w1.ownsRow (w.heap.size + 1) 3 1 v' 128 ((bitsOf (two a1 a0) 128).map fun y => .int .i64 y)) := Lib.hid (by
        rw [← HJ1.out, List.map_append]; exact how)
      have HN1 := Lib.hid (hn02.grown' hgr (fun j e => by rw [HS0.out]; exact own_base hown j e))
      clear how hgr hown hz hn02 hn2 hsz
      go_wp2
      exact ⟨⟨(Or.inr (Or.inr (Or.inl ⟨rfl, HO2.out⟩))), HN1.out⟩, by simp [intOf]⟩
    · have HO := Lib.hid hown
      have hA : wq.cell? ⟨w.heap.size, 2, none⟩ = some (.int .u64 (W64 a2)) := by rw [cell_of_row _ _ _ _ _ _ HBQ.out]; rfl
      clear hown
      go_wp2_with fail
      refine (of_own a2 64 64 (by omega) rfl _).mono ?_
      rintro e w2 ⟨v2, rfl, hown2, hn2⟩
      obtain ⟨av2, c2, rfl, hz⟩ := bits_row hown2 (by omega)
      obtain ⟨b2, o2, rfl, _⟩ := hz.addr (by omega)
      have hown := own_keep HO.out hn2
      have hn02 := HN.out.trans hn2
      have hsz := hn02.le
      rw [HS0.out] at hsz
      clear hown2 hA
      go_wp2_with (at_builtin; refine wpList_append_own _ rfl _ _ 28 rfl (w.heap.size + 1) 3 i0 (.int .i64 0) 1 8 Tryd.underlying28 hi hz0 hz1 hz2 rfl (by decide) _ 128 _ rfl hown ⟨b2, o2, none⟩ 64 c2 ((bitsOf a2.toNat 64).map fun y => .int .i64 y) rfl (by simp [bitsOf_len]) (hz.olds _ rfl) (by intro u hu; obtain ⟨y, _, rfl⟩ := List.mem_map.1 hu; rfl) (by unfold maxLen; omega) (by omega) hsz ?_)
      intro v' w1 how hgr _
      have HO2 : Hid (w1.ownsRow (w.heap.size + 1) 3 1 v' 192 ((bitsOf (a0.toNat + 18446744073709551616 * (a1.toNat + 18446744073709551616 * a2.toNat)) 192).map fun y => .int .i64 y)) := Lib.hid (by
        rw [← HJ2.out, List.map_append]; exact how)
      have HN1 := Lib.hid (hn02.grown' hgr (fun j e => by rw [HS0.out]; exact own_base hown j e))
      clear how hgr hown hz hn02 hn2 hsz
      go_wp2
      exact ⟨⟨(Or.inr (Or.inr (Or.inr (Or.inl ⟨rfl, HO2.out⟩)))), HN1.out⟩, by simp [intOf]⟩
    · have HO := Lib.hid hown
      have hA : wq.cell? ⟨w.heap.size, 3, none⟩ = some (.int .u64 (W64 a3)) := by rw [cell_of_row _ _ _ _ _ _ HBQ.out]; rfl
      clear hown
      go_wp2_with fail
      refine (of_own a3 64 64 (by omega) rfl _).mono ?_
      rintro e w2 ⟨v2, rfl, hown2, hn2⟩
      obtain ⟨av2, c2, rfl, hz⟩ := bits_row hown2 (by omega)
      obtain ⟨b2, o2, rfl, _⟩ := hz.addr (by omega)
      have hown := own_keep HO.out hn2
      have hn02 := HN.out.trans hn2
      have hsz := hn02.le
      rw [HS0.out] at hsz
      clear hown2 hA
      go_wp2_with (at_builtin; refine wpList_append_own _ rfl _ _ 28 rfl (w.heap.size + 1) 3 i0 (.int .i64 0) 1 8 Tryd.underlying28 hi hz0 hz1 hz2 rfl (by decide) _ 192 _ rfl hown ⟨b2, o2, none⟩ 64 c2 ((bitsOf a3.toNat 64).map fun y => .int .i64 y) rfl (by simp [bitsOf_len]) (hz.olds _ rfl) (by intro u hu; obtain ⟨y, _, rfl⟩ := List.mem_map.1 hu; rfl) (by unfold maxLen; omega) (by omega) hsz ?_)
      intro v' w1 how hgr _
      have HO2 : Hid (w1.ownsRow (w.heap.size + 1) 3 1 v' 256 ((bitsOf (four a0 a1 a2 a3) 256).map fun y => .int .i64 y)) := Lib.hid (by
        rw [← HJ3.out, List.map_append]; exact how)
      have HN1 := Lib.hid (hn02.grown' hgr (fun j e => by rw [HS0.out]; exact own_base hown j e))
      clear how hgr hown hz hn02 hn2 hsz
      go_wp2
      exact ⟨⟨(Or.inr (Or.inr (Or.inr (Or.inr ⟨rfl, HO2.out⟩)))), HN1.out⟩, by simp [intOf]⟩
    · have HO := Lib.hid (own_low hown (Nat.le_succ w.heap.size))
      clear hown
      go_wp2
      go_ret
      exact ⟨_, rfl, HO.out, HN0.out.trans HN.out⟩
end Go.Proofs.YtagidgboebjkhaaDoor
