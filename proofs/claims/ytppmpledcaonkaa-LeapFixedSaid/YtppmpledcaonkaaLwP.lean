/- The walk of the statement LeapPeriod. -/
import Derived.Test.YtppmpledcaonkaaLqG
namespace Go.Proofs.Ytppmpledcaonkaa
open Go Go.RowKit Go.Bv Go.G2
set_option linter.unusedVariables false
theorem all_max (d0 d1 d2 d3 : BitVec 64) (k : Nat) (hk : k ≤ 1) (h : four 0#64 0#64 0#64 0#64 + k * 2 ^ 256 = four d0 d1 d2 d3 + four 1#64 0#64 0#64 0#64) : d0 = 18446744073709551615#64 ∧ d1 = 18446744073709551615#64 ∧ d2 = 18446744073709551615#64 ∧ d3 = 18446744073709551615#64 := by
  rw [show four 0#64 0#64 0#64 0#64 = 0 from rfl, show four 1#64 0#64 0#64 0#64 = 1 from rfl] at h
  refine four_inj ?_
  have h2 : four 18446744073709551615#64 18446744073709551615#64 18446744073709551615#64 18446744073709551615#64 = 2 ^ 256 - 1 := by decide +kernel
  rw [h2]
  have h3 : k = 0 ∨ k = 1 := by omega
  rcases h3 with rfl | rfl <;> omega
set_option maxRecDepth 100000 in
theorem sub_all (w : World) : Calls Try.prog 53 #[.agg #[.int .u64 0, .int .u64 0, .int .u64 0, .int .u64 0], .agg #[.int .u64 1, .int .u64 0, .int .u64 0, .int .u64 0]] w fun e w' => ∃ ov, e = .returned (.tuple #[.agg #[.int .u64 18446744073709551615, .int .u64 18446744073709551615, .int .u64 18446744073709551615, .int .u64 18446744073709551615], .bool ov]) ∧ New w w' := by
  have h := wsub4 0#64 0#64 0#64 0#64 1#64 0#64 0#64 0#64 w
  refine Calls.mono h ?_
  rintro e w' ⟨d0, d1, d2, d3, k, rfl, ⟨hk, he⟩, hn⟩
  obtain ⟨rfl, rfl, rfl, rfl⟩ := all_max d0 d1 d2 d3 k hk he
  exact ⟨_, rfl, hn⟩
theorem four_max : four 18446744073709551615#64 18446744073709551615#64 18446744073709551615#64 18446744073709551615#64 = 115792089237316195423570985008687907853269984665640564039457584007913129639935 := by decide +kernel
theorem four_half : four 18446744073709551615#64 18446744073709551615#64 0#64 0#64 = 340282366920938463463374607431768211455 := by decide +kernel
theorem low_lt (a0 a1 : BitVec 64) : four a0 a1 0#64 0#64 < 2 ^ 128 := by
  have := a0.isLt
  have := a1.isLt
  unfold four
  simp
  omega
theorem no_four {a0 a1 a2 a3 b0 b1 b2 b3 : BitVec 64} (h : (a0 == b0 && (a1 == b1 && (a2 == b2 && a3 == b3))) = false) : four a0 a1 a2 a3 ≠ four b0 b1 b2 b3 := by
  intro h2
  obtain ⟨rfl, rfl, rfl, rfl⟩ := four_inj h2
  simp at h
theorem no_v4 {p q : V4} (h : p ≠ q) : (p.a == q.a && (p.b == q.b && (p.c == q.c && p.d == q.d))) = false := by
  obtain ⟨a, b, c, d⟩ := p
  obtain ⟨a', b', c', d'⟩ := q
  rw [Bool.eq_false_iff]
  intro h2
  simp at h2
  obtain ⟨rfl, rfl, rfl, rfl⟩ := h2
  exact h rfl
theorem no_v2 {p q : V2} (h : p ≠ q) : (p.a == q.a && p.b == q.b) = false := by
  obtain ⟨a, b⟩ := p
  obtain ⟨a', b'⟩ := q
  rw [Bool.eq_false_iff]
  intro h2
  simp at h2
  obtain ⟨rfl, rfl⟩ := h2
  exact h rfl
set_option maxRecDepth 100000 in
set_option maxHeartbeats 4000000 in
theorem LeapPeriod_any (W : World) (s : V4) (k : Int) (t : V2) (a0 a1 a2 a3 : BitVec 64) :
    Calls Try.prog 13 #[.agg #[.int .u64 (W64 s.a), .int .u64 (W64 s.b), .int .u64 (W64 s.c), .int .u64 (W64 s.d)], .int .i64 k, .agg #[.int .u64 (W64 t.a), .int .u64 (W64 t.b)], .agg #[.int .u64 (W64 a0), .int .u64 (W64 a1), .int .u64 (W64 a2), .int .u64 (W64 a3)]] W fun e w' => e = .returned (.bool true) ∧ New W w' := by
  have g1 : ∀ w, (Op.equalIn 10000 45 (.agg #[.int .u64 (W64 a0), .int .u64 (W64 a1), .int .u64 (W64 a2), .int .u64 (W64 a3)]) (.agg #[.int .u64 0, .int .u64 0, .int .u64 0, .int .u64 0])).run Try.prog w = .ok (a0 == 0#64 && (a1 == 0#64 && (a2 == 0#64 && a3 == 0#64))) w := fun w => eqV256 w a0 a1 a2 a3 0#64 0#64 0#64 0#64
  have g2 : ∀ w, (Op.equalIn 10000 45 (.agg #[.int .u64 (W64 a0), .int .u64 (W64 a1), .int .u64 (W64 a2), .int .u64 (W64 a3)]) (.agg #[.int .u64 18446744073709551615, .int .u64 18446744073709551615, .int .u64 18446744073709551615, .int .u64 18446744073709551615])).run Try.prog w = .ok (a0 == 18446744073709551615#64 && (a1 == 18446744073709551615#64 && (a2 == 18446744073709551615#64 && a3 == 18446744073709551615#64))) w := fun w => eqV256 w a0 a1 a2 a3 18446744073709551615#64 18446744073709551615#64 18446744073709551615#64 18446744073709551615#64
  have g3 : ∀ w, (Op.equalIn 10000 44 (.agg #[.int .u64 (W64 s.a), .int .u64 (W64 s.b), .int .u64 (W64 s.c), .int .u64 (W64 s.d)]) (.agg #[.int .u64 0, .int .u64 0, .int .u64 0, .int .u64 0])).run Try.prog w = .ok (s.a == 0#64 && (s.b == 0#64 && (s.c == 0#64 && s.d == 0#64))) w := fun w => eqV4 w s.a s.b s.c s.d 0#64 0#64 0#64 0#64
  have g5 : ∀ w, (Op.equalIn 10000 45 (.agg #[.int .u64 (W64 a0), .int .u64 (W64 a1), .int .u64 0, .int .u64 0]) (.agg #[.int .u64 0, .int .u64 0, .int .u64 0, .int .u64 0])).run Try.prog w = .ok (a0 == 0#64 && (a1 == 0#64 && (0#64 == 0#64 && 0#64 == 0#64))) w := fun w => eqV256 w a0 a1 0#64 0#64 0#64 0#64 0#64 0#64
  have g6 : ∀ w, (Op.equalIn 10000 45 (.agg #[.int .u64 (W64 a0), .int .u64 (W64 a1), .int .u64 0, .int .u64 0]) (.agg #[.int .u64 18446744073709551615, .int .u64 18446744073709551615, .int .u64 0, .int .u64 0])).run Try.prog w = .ok (a0 == 18446744073709551615#64 && (a1 == 18446744073709551615#64 && (0#64 == 0#64 && 0#64 == 0#64))) w := fun w => eqV256 w a0 a1 0#64 0#64 18446744073709551615#64 18446744073709551615#64 0#64 0#64
  have g7 : ∀ w, (Op.equalIn 10000 53 (.agg #[.int .u64 (W64 t.a), .int .u64 (W64 t.b)]) (.agg #[.int .u64 0, .int .u64 0])).run Try.prog w = .ok (t.a == 0#64 && t.b == 0#64) w := fun w => eqV2 w t.a t.b 0#64 0#64
  have hz4 : s = LV4.z → (s.a == 0#64 && (s.b == 0#64 && (s.c == 0#64 && s.d == 0#64))) = true := by rintro rfl; rfl
  have hz2 : t = ⟨0#64, 0#64⟩ → (t.a == 0#64 && t.b == 0#64) = true := by rintro rfl; rfl
  have hm1 : (a0 == 0#64 && (a1 == 0#64 && (a2 == 0#64 && a3 == 0#64))) = false → four a0 a1 a2 a3 ≠ 0 := fun h => no_four h
  have hm2 : (a0 == 18446744073709551615#64 && (a1 == 18446744073709551615#64 && (a2 == 18446744073709551615#64 && a3 == 18446744073709551615#64))) = false → four a0 a1 a2 a3 ≠ 115792089237316195423570985008687907853269984665640564039457584007913129639935 := fun h => by rw [← four_max]; exact no_four h
  have hm5 : (a0 == 0#64 && (a1 == 0#64 && (0#64 == 0#64 && 0#64 == 0#64))) = false → four a0 a1 0#64 0#64 ≠ 0 := fun h => no_four h
  have hm6 : (a0 == 18446744073709551615#64 && (a1 == 18446744073709551615#64 && (0#64 == 0#64 && 0#64 == 0#64))) = false → four a0 a1 0#64 0#64 ≠ 340282366920938463463374607431768211455 := fun h => by rw [← four_half]; exact no_four h
  obtain ⟨e1, he1⟩ : ∃ e, (a0 == 0#64 && (a1 == 0#64 && (a2 == 0#64 && a3 == 0#64))) = e := ⟨_, rfl⟩
  rw [he1] at g1 hm1
  obtain ⟨e2, he2⟩ : ∃ e, (a0 == 18446744073709551615#64 && (a1 == 18446744073709551615#64 && (a2 == 18446744073709551615#64 && a3 == 18446744073709551615#64))) = e := ⟨_, rfl⟩
  rw [he2] at g2 hm2
  obtain ⟨e3, he3⟩ : ∃ e, (s.a == 0#64 && (s.b == 0#64 && (s.c == 0#64 && s.d == 0#64))) = e := ⟨_, rfl⟩
  rw [he3] at g3 hz4
  obtain ⟨e5, he5⟩ : ∃ e, (a0 == 0#64 && (a1 == 0#64 && ((0#64 : BitVec 64) == 0#64 && (0#64 : BitVec 64) == 0#64))) = e := ⟨_, rfl⟩
  rw [he5] at g5 hm5
  obtain ⟨e6, he6⟩ : ∃ e, (a0 == 18446744073709551615#64 && (a1 == 18446744073709551615#64 && ((0#64 : BitVec 64) == 0#64 && (0#64 : BitVec 64) == 0#64))) = e := ⟨_, rfl⟩
  rw [he6] at g6 hm6
  obtain ⟨e7, he7⟩ : ∃ e, (t.a == 0#64 && t.b == 0#64) = e := ⟨_, rfl⟩
  rw [he7] at g7 hz2
  clear he1 he2 he3 he5 he6 he7
  have hl4 := four_lt a0 a1 a2 a3
  have hl2 := low_lt a0 a1
  have HP4 : Hid (e1 = false → e2 = false → e3 = false → LV4.it (four a0 a1 a2 a3) s ≠ s) := Lib.hid (fun h1 h2 h3 h => by
    have hx := period4 s (four a0 a1 a2 a3) (Nat.pos_of_ne_zero (hm1 h1)) (by have := hm2 h2; omega) h
    rw [hz4 hx] at h3; cases h3)
  have HP2 : Hid (∀ (L : Lin V2), L.z = ⟨0#64, 0#64⟩ → (∀ (q : V2) (m : Nat), 0 < m → m < 340282366920938463463374607431768211455 → L.it m q = q → q = L.z) → e5 = false → e6 = false → e7 = false → L.it (four a0 a1 0#64 0#64) t ≠ t) := Lib.hid (fun L hz hp h1 h2 h3 h => by
    have hx := hp t (four a0 a1 0#64 0#64) (Nat.pos_of_ne_zero (hm5 h1)) (by have := hm6 h2; omega) h
    rw [hz2 (hx.trans hz)] at h3; cases h3)
  have HKA := Lib.hid (k_all k)
  have HSB := Lib.hid sub_all
  clear hz4 hz2 hm1 hm2 hm5 hm6 hl4 hl2
  obtain ⟨W9, hW9, xHS, xHT, xHA, nW9⟩ : ∃ W9, ((W.alloc (.cells #[.int .u64 (W64 s.a), .int .u64 (W64 s.b), .int .u64 (W64 s.c), .int .u64 (W64 s.d)] 44)).alloc (.cells #[.int .u64 (W64 t.a), .int .u64 (W64 t.b)] 53)).alloc (.cells #[.int .u64 (W64 a0), .int .u64 (W64 a1), .int .u64 (W64 a2), .int .u64 (W64 a3)] 45) = W9 ∧ W9.heap[W.heap.size]? = some (.cells #[.int .u64 (W64 s.a), .int .u64 (W64 s.b), .int .u64 (W64 s.c), .int .u64 (W64 s.d)] 44 (0, 0)) ∧ W9.heap[W.heap.size + 1]? = some (.cells #[.int .u64 (W64 t.a), .int .u64 (W64 t.b)] 53 (0, 0)) ∧ W9.heap[W.heap.size + 1 + 1]? = some (.cells #[.int .u64 (W64 a0), .int .u64 (W64 a1), .int .u64 (W64 a2), .int .u64 (W64 a3)] 45 (0, 0)) ∧ New W W9 := by
    refine ⟨_, rfl, ?_, ?_, ?_, ((((New.refl _).alloc _).alloc _).alloc _)⟩
    · have h := heap_alloc_new (W) (.cells #[.int .u64 (W64 s.a), .int .u64 (W64 s.b), .int .u64 (W64 s.c), .int .u64 (W64 s.d)] 44)
      replace h := (((New.refl (W.alloc (.cells #[.int .u64 (W64 s.a), .int .u64 (W64 s.b), .int .u64 (W64 s.c), .int .u64 (W64 s.d)] 44))).alloc (.cells #[.int .u64 (W64 t.a), .int .u64 (W64 t.b)] 53)).block _ (lt_of_block h)).trans h
      replace h := (((New.refl ((W.alloc (.cells #[.int .u64 (W64 s.a), .int .u64 (W64 s.b), .int .u64 (W64 s.c), .int .u64 (W64 s.d)] 44)).alloc (.cells #[.int .u64 (W64 t.a), .int .u64 (W64 t.b)] 53))).alloc (.cells #[.int .u64 (W64 a0), .int .u64 (W64 a1), .int .u64 (W64 a2), .int .u64 (W64 a3)] 45)).block _ (lt_of_block h)).trans h
      simpa using h
    · have h := heap_alloc_new (W.alloc (.cells #[.int .u64 (W64 s.a), .int .u64 (W64 s.b), .int .u64 (W64 s.c), .int .u64 (W64 s.d)] 44)) (.cells #[.int .u64 (W64 t.a), .int .u64 (W64 t.b)] 53)
      replace h := (((New.refl ((W.alloc (.cells #[.int .u64 (W64 s.a), .int .u64 (W64 s.b), .int .u64 (W64 s.c), .int .u64 (W64 s.d)] 44)).alloc (.cells #[.int .u64 (W64 t.a), .int .u64 (W64 t.b)] 53))).alloc (.cells #[.int .u64 (W64 a0), .int .u64 (W64 a1), .int .u64 (W64 a2), .int .u64 (W64 a3)] 45)).block _ (lt_of_block h)).trans h
      simpa using h
    · have h := heap_alloc_new ((W.alloc (.cells #[.int .u64 (W64 s.a), .int .u64 (W64 s.b), .int .u64 (W64 s.c), .int .u64 (W64 s.d)] 44)).alloc (.cells #[.int .u64 (W64 t.a), .int .u64 (W64 t.b)] 53)) (.cells #[.int .u64 (W64 a0), .int .u64 (W64 a1), .int .u64 (W64 a2), .int .u64 (W64 a3)] 45)
      simpa using h
  have HW9 := Lib.hid hW9
  have NW9 := Lib.hid nW9
  have HS := Lib.hid xHS
  have HT := Lib.hid xHT
  have HA := Lib.hid xHA
  clear hW9 nW9 xHS xHT xHA
  go_enter Try.func13, Try.ntmps13
  go_wp2_with fail
  rw [HW9.out]
  clear HW9
  refine (awake12 _).mono ?_
  rintro e w1 ⟨rfl, hn1⟩
  replace HS := Lib.hid ((hn1.block _ (lt_of_block HS.out)).trans HS.out)
  replace HT := Lib.hid ((hn1.block _ (lt_of_block HT.out)).trans HT.out)
  replace HA := Lib.hid ((hn1.block _ (lt_of_block HA.out)).trans HA.out)
  have HN1 := Lib.hid (NW9.out.trans hn1)
  clear hn1 NW9
  go_wp2_with fail
  refine (HSB.out _).mono ?_
  rintro e w2 ⟨ov, rfl, hn2⟩
  replace HS := Lib.hid ((hn2.block _ (lt_of_block HS.out)).trans HS.out)
  replace HT := Lib.hid ((hn2.block _ (lt_of_block HT.out)).trans HT.out)
  replace HA := Lib.hid ((hn2.block _ (lt_of_block HA.out)).trans HA.out)
  have HN2 := Lib.hid (HN1.out.trans hn2)
  have hn3 : New w2 (w2.alloc (.cells #[.int .u64 18446744073709551615, .int .u64 18446744073709551615, .int .u64 18446744073709551615, .int .u64 18446744073709551615] 45)) := (New.refl _).alloc _
  have hb3 := heap_alloc_new w2 (.cells #[.int .u64 18446744073709551615, .int .u64 18446744073709551615, .int .u64 18446744073709551615, .int .u64 18446744073709551615] 45)
  obtain ⟨W3, hW3⟩ : ∃ z, w2.alloc (.cells #[.int .u64 18446744073709551615, .int .u64 18446744073709551615, .int .u64 18446744073709551615, .int .u64 18446744073709551615] 45) = z := ⟨_, rfl⟩
  rw [hW3] at hn3 hb3
  have HW3 := Lib.hid hW3
  have HC := Lib.hid hb3
  replace HS := Lib.hid ((hn3.block _ (lt_of_block HS.out)).trans HS.out)
  replace HT := Lib.hid ((hn3.block _ (lt_of_block HT.out)).trans HT.out)
  replace HA := Lib.hid ((hn3.block _ (lt_of_block HA.out)).trans HA.out)
  have HN3 := Lib.hid (HN2.out.trans hn3)
  have k0 : W3.cell? ⟨W.heap.size, 0, none⟩ = some (.int .u64 (W64 s.a)) := cell_of_row _ _ 0 _ _ _ HS.out
  have k1 : W3.cell? ⟨W.heap.size, 1, none⟩ = some (.int .u64 (W64 s.b)) := cell_of_row _ _ 1 _ _ _ HS.out
  have k2 : W3.cell? ⟨W.heap.size, 2, none⟩ = some (.int .u64 (W64 s.c)) := cell_of_row _ _ 2 _ _ _ HS.out
  have k3 : W3.cell? ⟨W.heap.size, 3, none⟩ = some (.int .u64 (W64 s.d)) := cell_of_row _ _ 3 _ _ _ HS.out
  have a4 := cell_of_row _ _ 0 _ _ _ HA.out
  have a5 := cell_of_row _ _ 1 _ _ _ HA.out
  have a6 := cell_of_row _ _ 2 _ _ _ HA.out
  have a7 := cell_of_row _ _ 3 _ _ _ HA.out
  have c0 := cell_of_row _ _ 0 _ _ _ HC.out
  have c1 := cell_of_row _ _ 1 _ _ _ HC.out
  have c2 := cell_of_row _ _ 2 _ _ _ HC.out
  have c3 := cell_of_row _ _ 3 _ _ _ HC.out
  rw [← hW3] at k0 k1 k2 k3 a4 a5 a6 a7 c0 c1 c2 c3
  clear hn2 hn3 hb3 hW3 HN2 HN1 HSB
  cases e1
  case true =>
    go_wp2
    go_ret
    exact ⟨rfl, by rw [HW3.out]; exact HN3.out⟩
  cases e2
  case true =>
    go_wp2
    go_ret
    exact ⟨rfl, by rw [HW3.out]; exact HN3.out⟩
  cases e3
  case true =>
    go_wp2
    go_ret
    exact ⟨rfl, by rw [HW3.out]; exact HN3.out⟩
  obtain ⟨bc, hbc⟩ : ∃ bc, w2.heap.size = bc := ⟨_, rfl⟩
  rw [hbc] at HC
  have HBC := Lib.hid hbc
  clear hbc
  have hne := HP4.out rfl rfl rfl
  have hj4 := fun w => jump4_q s a0 a1 a2 a3 w
  have g4 := fun w => eqV4 w (LV4.it (four a0 a1 a2 a3) s).a (LV4.it (four a0 a1 a2 a3) s).b (LV4.it (four a0 a1 a2 a3) s).c (LV4.it (four a0 a1 a2 a3) s).d s.a s.b s.c s.d
  rw [no_v4 hne] at g4
  obtain ⟨r, hr⟩ : ∃ r, LV4.it (four a0 a1 a2 a3) s = r := ⟨_, rfl⟩
  rw [hr] at hj4 g4
  have HJ4 := Lib.hid hj4
  clear hj4 hr hne HP4
  go_wp2_with fail
  rw [HW3.out, HBC.out]
  clear HW3 HBC k0 k1 k2 k3 a4 a5 a6 a7 c0 c1 c2 c3 g1 g2 g3
  refine wp_region_class (fun w' => (w'.heap[W.heap.size]? = some (.cells #[.int .u64 (W64 s.a), .int .u64 (W64 s.b), .int .u64 (W64 s.c), .int .u64 (W64 s.d)] 44 (0, 0)) ∧ w'.heap[W.heap.size + 1]? = some (.cells #[.int .u64 (W64 t.a), .int .u64 (W64 t.b)] 53 (0, 0)) ∧ w'.heap[W.heap.size + 1 + 1]? = some (.cells #[.int .u64 (W64 a0), .int .u64 (W64 a1), .int .u64 (W64 a2), .int .u64 (W64 a3)] 45 (0, 0)) ∧ w'.heap[bc]? = some (.cells #[.int .u64 18446744073709551615, .int .u64 18446744073709551615, .int .u64 18446744073709551615, .int .u64 18446744073709551615] 45 (0, 0))) ∧ New W3 w') (by kernel_rfl) (by kernel_rfl) ⟨⟨((New.refl W3).drew.block _ (lt_of_block HS.out)).trans HS.out, ((New.refl W3).drew.block _ (lt_of_block HT.out)).trans HT.out, ((New.refl W3).drew.block _ (lt_of_block HA.out)).trans HA.out, ((New.refl W3).drew.block _ (lt_of_block HC.out)).trans HC.out⟩, (New.refl _).drew⟩ ?_
  intro I _ f hall hback
  have HSTEP : Hid (∀ n w', New (f n) w' → ∃ m, w' = f m) := Lib.hid fun n w' hn => hback w' ⟨⟨(hn.block _ (lt_of_block ((hall n).1.1))).trans ((hall n).1.1), (hn.block _ (lt_of_block ((hall n).1.2.1))).trans ((hall n).1.2.1), (hn.block _ (lt_of_block ((hall n).1.2.2.1))).trans ((hall n).1.2.2.1), (hn.block _ (lt_of_block ((hall n).1.2.2.2))).trans ((hall n).1.2.2.2)⟩, (hall n).2.trans hn⟩
  have HALL := Lib.hid fun n => (hall n).2
  have s0 := fun n => cell_of_row _ _ 0 _ _ _ ((hall n).1.1)
  have s1 := fun n => cell_of_row _ _ 1 _ _ _ ((hall n).1.1)
  have s2 := fun n => cell_of_row _ _ 2 _ _ _ ((hall n).1.1)
  have s3 := fun n => cell_of_row _ _ 3 _ _ _ ((hall n).1.1)
  have s4 := fun n => cell_of_row _ _ 0 _ _ _ ((hall n).1.2.1)
  have s5 := fun n => cell_of_row _ _ 1 _ _ _ ((hall n).1.2.1)
  have s6 := fun n => cell_of_row _ _ 0 _ _ _ ((hall n).1.2.2.1)
  have s7 := fun n => cell_of_row _ _ 1 _ _ _ ((hall n).1.2.2.1)
  have s8 := fun n => cell_of_row _ _ 2 _ _ _ ((hall n).1.2.2.1)
  have s9 := fun n => cell_of_row _ _ 3 _ _ _ ((hall n).1.2.2.1)
  have s10 := fun n => cell_of_row _ _ 0 _ _ _ ((hall n).1.2.2.2)
  have s11 := fun n => cell_of_row _ _ 1 _ _ _ ((hall n).1.2.2.2)
  have s12 := fun n => cell_of_row _ _ 2 _ _ _ ((hall n).1.2.2.2)
  have s13 := fun n => cell_of_row _ _ 3 _ _ _ ((hall n).1.2.2.2)
  clear hall hback
  repeat (go_big_quiet_step (first
    | (go_at_call 45; refine class_new HSTEP.out (HJ4.out _))))
  refine wpQuiet_nil ?_
  rintro w9 ⟨n1, hw1⟩
  have hS := HALL.out n1
  rw [← hw1] at hS
  replace HS := Lib.hid ((hS.block _ (lt_of_block HS.out)).trans HS.out)
  replace HT := Lib.hid ((hS.block _ (lt_of_block HT.out)).trans HT.out)
  replace HA := Lib.hid ((hS.block _ (lt_of_block HA.out)).trans HA.out)
  replace HC := Lib.hid ((hS.block _ (lt_of_block HC.out)).trans HC.out)
  replace HN3 := Lib.hid (HN3.out.trans hS)
  clear HALL HSTEP hw1 hS s0 s1 s2 s3 s4 s5 s6 s7 s8 s9 s10 s11 s12 s13
  have HLW : Hid (∀ w4 : World, New W w4 → w4.heap[W.heap.size + 1]? = some (.cells #[.int .u64 (W64 t.a), .int .u64 (W64 t.b)] 53 (0, 0)) → w4.heap[W.heap.size + 1 + 1]? = some (.cells #[.int .u64 (W64 a0), .int .u64 (W64 a1), .int .u64 (W64 a2), .int .u64 (W64 a3)] 45 (0, 0)) → w4.heap[bc]? = some (.cells #[.int .u64 18446744073709551615, .int .u64 18446744073709551615, .int .u64 18446744073709551615, .int .u64 18446744073709551615] 45 (0, 0)) → ∃ W5, (w4.alloc (.cells #[.int .u64 (W64 a0), .int .u64 (W64 a1), .int .u64 0, .int .u64 0] 45)).alloc (.cells #[.int .u64 18446744073709551615, .int .u64 18446744073709551615, .int .u64 0, .int .u64 0] 45) = W5 ∧ New W W5 ∧ W5.heap[W.heap.size + 1]? = some (.cells #[.int .u64 (W64 t.a), .int .u64 (W64 t.b)] 53 (0, 0)) ∧ W5.heap[w4.heap.size]? = some (.cells #[.int .u64 (W64 a0), .int .u64 (W64 a1), .int .u64 0, .int .u64 0] 45 (0, 0)) ∧ W5.heap[w4.heap.size + 1]? = some (.cells #[.int .u64 18446744073709551615, .int .u64 18446744073709551615, .int .u64 0, .int .u64 0] 45 (0, 0))) := Lib.hid (by
    intro w4 h1 h2 h3 h4
    have n5 : New w4 ((w4.alloc (.cells #[.int .u64 (W64 a0), .int .u64 (W64 a1), .int .u64 0, .int .u64 0] 45)).alloc (.cells #[.int .u64 18446744073709551615, .int .u64 18446744073709551615, .int .u64 0, .int .u64 0] 45)) := ((New.refl _).alloc _).alloc _
    refine ⟨_, rfl, h1.trans n5, (n5.block _ (lt_of_block h2)).trans h2, ?_, ?_⟩
    · have h := heap_alloc_new w4 (.cells #[.int .u64 (W64 a0), .int .u64 (W64 a1), .int .u64 0, .int .u64 0] 45)
      exact (((New.refl _).alloc _).block _ (lt_of_block h)).trans h
    · have h := heap_alloc_new (w4.alloc (.cells #[.int .u64 (W64 a0), .int .u64 (W64 a1), .int .u64 0, .int .u64 0] 45)) (.cells #[.int .u64 18446744073709551615, .int .u64 18446744073709551615, .int .u64 0, .int .u64 0] 45)
      simpa using h)
  obtain ⟨W5, hW5, n5, t5, l5, f5⟩ := HLW.out w9 HN3.out HT.out HA.out HC.out
  have a4 : w9.cell? ⟨W.heap.size + 1 + 1, 0, none⟩ = some (.int .u64 (W64 a0)) := cell_of_row _ _ 0 _ _ _ HA.out
  have a5 : w9.cell? ⟨W.heap.size + 1 + 1, 1, none⟩ = some (.int .u64 (W64 a1)) := cell_of_row _ _ 1 _ _ _ HA.out
  have c0 : (w9.alloc (.cells #[.int .u64 (W64 a0), .int .u64 (W64 a1), .int .u64 0, .int .u64 0] 45)).cell? ⟨bc, 0, none⟩ = some (.int .u64 18446744073709551615) := cell_of_row _ _ 0 _ _ _ ((((New.refl w9).alloc (.cells #[.int .u64 (W64 a0), .int .u64 (W64 a1), .int .u64 0, .int .u64 0] 45)).block _ (lt_of_block HC.out)).trans HC.out)
  have c1 : (w9.alloc (.cells #[.int .u64 (W64 a0), .int .u64 (W64 a1), .int .u64 0, .int .u64 0] 45)).cell? ⟨bc, 1, none⟩ = some (.int .u64 18446744073709551615) := cell_of_row _ _ 1 _ _ _ ((((New.refl w9).alloc (.cells #[.int .u64 (W64 a0), .int .u64 (W64 a1), .int .u64 0, .int .u64 0] 45)).block _ (lt_of_block HC.out)).trans HC.out)
  have HN5 := Lib.hid n5
  have HT5 := Lib.hid t5
  have HL5 := Lib.hid l5
  have HF5 := Lib.hid f5
  have HW5 := Lib.hid hW5
  clear hW5 n5 t5 l5 f5 HLW HS HT HA HC HN3
  rcases HKA.out with ⟨h5, h6⟩ | ⟨plus, L, hK⟩
  · have HR := Lib.hid (fun w => right_no k h5 h6 w)
    clear HKA h5 h6 HP2
    go_wp2_with fail
    rw [HW5.out]
    refine (HR.out _).mono ?_
    rintro e w6 ⟨rfl, hw⟩
    replace hw := hw.symm
    subst hw
    go_wp2
    go_ret
    exact ⟨rfl, HN5.out⟩
  · have HR := Lib.hid (fun w => right_yes k hK.yes w)
    have hnx := HP2.out L hK.lz hK.period
    have hju := fun w => hK.kd.jump t a0 a1 0#64 0#64 w
    have g8 : L.it (four a0 a1 0#64 0#64) t ≠ t → ∀ w, (Op.equalIn 10000 53 (.agg #[.int .u64 (W64 (L.it (four a0 a1 0#64 0#64) t).a), .int .u64 (W64 (L.it (four a0 a1 0#64 0#64) t).b)]) (.agg #[.int .u64 (W64 (t).a), .int .u64 (W64 (t).b)])).run Try.prog w = .ok false w := fun hne w => by
      have h := eqV2 w (L.it (four a0 a1 0#64 0#64) t).a (L.it (four a0 a1 0#64 0#64) t).b t.a t.b
      rw [no_v2 hne] at h
      exact h
    obtain ⟨u, hu⟩ : ∃ u, L.it (four a0 a1 0#64 0#64) t = u := ⟨_, rfl⟩
    rw [hu] at hnx hju g8
    have HNX := Lib.hid hnx
    have HJU := Lib.hid (show ∀ w, Calls Try.prog 43 #[.int .i64 k, .agg #[.int .u64 (W64 (t).a), .int .u64 (W64 (t).b)], .agg #[.int .u64 (W64 a0), .int .u64 (W64 a1), .int .u64 0, .int .u64 0]] w fun e w' => e = .returned (.agg #[.int .u64 (W64 (u).a), .int .u64 (W64 (u).b)]) ∧ New w w' from hju)
    have HG8 := Lib.hid g8
    clear HKA HP2 hnx hju g8 hu hK
    have t0 := cell_of_row _ _ 0 _ _ _ HT5.out
    have t1 := cell_of_row _ _ 1 _ _ _ HT5.out
    have l0 := cell_of_row _ _ 0 _ _ _ HL5.out
    have l1 := cell_of_row _ _ 1 _ _ _ HL5.out
    have l2 := cell_of_row _ _ 2 _ _ _ HL5.out
    have l3 := cell_of_row _ _ 3 _ _ _ HL5.out
    have f0 := cell_of_row _ _ 0 _ _ _ HF5.out
    have f1 := cell_of_row _ _ 1 _ _ _ HF5.out
    have f2 := cell_of_row _ _ 2 _ _ _ HF5.out
    have f3 := cell_of_row _ _ 3 _ _ _ HF5.out
    go_wp2_with fail
    rw [HW5.out]
    refine (HR.out _).mono ?_
    rintro e w6 ⟨rfl, hw⟩
    replace hw := hw.symm
    subst hw
    clear HW5 a4 a5 c0 c1 HR
    cases e5
    case true =>
      go_wp2
      go_ret
      exact ⟨rfl, HN5.out⟩
    cases e6
    case true =>
      go_wp2
      go_ret
      exact ⟨rfl, HN5.out⟩
    cases e7
    case true =>
      go_wp2
      go_ret
      exact ⟨rfl, HN5.out⟩
    have g8 := HG8.out (HNX.out rfl rfl rfl)
    obtain ⟨bl, hbl⟩ : ∃ bl, w9.heap.size = bl := ⟨_, rfl⟩
    rw [hbl] at HL5
    have HBL := Lib.hid hbl
    clear hbl HG8 HNX HF5
    go_wp2_with fail
    rw [HBL.out]
    clear HBL g5 g6 g7 t0 t1 l0 l1 l2 l3 f0 f1 f2 f3
    refine wp_region_class (fun w' => (w'.heap[W.heap.size + 1]? = some (.cells #[.int .u64 (W64 t.a), .int .u64 (W64 t.b)] 53 (0, 0)) ∧ w'.heap[bl]? = some (.cells #[.int .u64 (W64 a0), .int .u64 (W64 a1), .int .u64 0, .int .u64 0] 45 (0, 0))) ∧ New W5 w') (by kernel_rfl) (by kernel_rfl) ⟨⟨((New.refl W5).drew.block _ (lt_of_block HT5.out)).trans HT5.out, ((New.refl W5).drew.block _ (lt_of_block HL5.out)).trans HL5.out⟩, (New.refl _).drew⟩ ?_
    intro I _ f hall hback
    have HSTEP : Hid (∀ n w', New (f n) w' → ∃ m, w' = f m) := Lib.hid fun n w' hn => hback w' ⟨⟨(hn.block _ (lt_of_block ((hall n).1.1))).trans ((hall n).1.1), (hn.block _ (lt_of_block ((hall n).1.2))).trans ((hall n).1.2)⟩, (hall n).2.trans hn⟩
    have HALL := Lib.hid fun n => (hall n).2
    have s0 := fun n => cell_of_row _ _ 0 _ _ _ ((hall n).1.1)
    have s1 := fun n => cell_of_row _ _ 1 _ _ _ ((hall n).1.1)
    have s2 := fun n => cell_of_row _ _ 0 _ _ _ ((hall n).1.2)
    have s3 := fun n => cell_of_row _ _ 1 _ _ _ ((hall n).1.2)
    have s4 := fun n => cell_of_row _ _ 2 _ _ _ ((hall n).1.2)
    have s5 := fun n => cell_of_row _ _ 3 _ _ _ ((hall n).1.2)
    clear hall hback
    repeat (go_big_quiet_step (first
      | (go_at_call 43; refine class_new HSTEP.out (HJU.out _))))
    refine wpQuiet_nil ?_
    rintro w9 ⟨n1, hw1⟩
    have hS := HALL.out n1
    rw [← hw1] at hS
    replace HT5 := Lib.hid ((hS.block _ (lt_of_block HT5.out)).trans HT5.out)
    replace HL5 := Lib.hid ((hS.block _ (lt_of_block HL5.out)).trans HL5.out)
    replace HN5 := Lib.hid (HN5.out.trans hS)
    clear HALL HSTEP hw1 hS s0 s1 s2 s3 s4 s5
    go_wp2
    go_ret
    exact ⟨rfl, HN5.out⟩
theorem LeapPeriod_walk (W : World) (x0_0 : BitVec 64) (x0_1 : BitVec 64) (x0_2 : BitVec 64) (x0_3 : BitVec 64) (a1 : Int) (w1 : (Lit.int .i64 a1).wf = true) (x2_0 : BitVec 64) (x2_1 : BitVec 64) (x3_0 : BitVec 64) (x3_1 : BitVec 64) (x3_2 : BitVec 64) (x3_3 : BitVec 64) :
    Calls Try.prog 13 #[.agg #[.int .u64 (W64 x0_0), .int .u64 (W64 x0_1), .int .u64 (W64 x0_2), .int .u64 (W64 x0_3)], .int .i64 a1, .agg #[.int .u64 (W64 x2_0), .int .u64 (W64 x2_1)], .agg #[.int .u64 (W64 x3_0), .int .u64 (W64 x3_1), .int .u64 (W64 x3_2), .int .u64 (W64 x3_3)]] W fun e w' => e = .returned (.bool true) ∧ Below W.heap.size W w' :=
  LeapPeriod_any W ⟨x0_0, x0_1, x0_2, x0_3⟩ a1 ⟨x2_0, x2_1⟩ x3_0 x3_1 x3_2 x3_3
end Go.Proofs.Ytppmpledcaonkaa
