/- Contracts of mers89's Fold, Mul, Pow and Inv: for all numbers. -/
import Derived.Test.YtagidgboebjkhaaDoorMeiD
import Derived.Test.YtagidgboebjkhaaDoorBut
namespace Go.Proofs.YtagidgboebjkhaaDoor
open Go.RowKit Go.Bv
set_option linter.unusedVariables false
set_option maxHeartbeats 4000000 in
theorem fold_89 (X : BitVec 256) (w : World) : Calls Tryd.prog 8 #[.agg #[.int .u64 (W64 (X.extractLsb' 0 64)), .int .u64 (W64 (X.extractLsb' 64 64)), .int .u64 (W64 (X.extractLsb' 128 64)), .int .u64 (W64 (X.extractLsb' 192 64))]] w fun e w' => e = .returned (.agg #[.int .u64 (W64 (hi128 (m89 X.toNat))), .int .u64 (W64 (lo128 (m89 X.toNat)))]) ∧ New w w' := by
  have hmf : ∀ (fn : Fn) (first cap : Array Value) (w : World), (Instr.makeFunc fn first cap).run Tryd.prog w = .ok (.func fn first cap) w := fun _ _ _ _ => rfl
  have C0 := Lib.hid (fun b w h => part_0 X b w h)
  have C1 := Lib.hid (fun b w h => part_1 X b w h)
  have C2 := Lib.hid (fun b w h => part_2 X b w h)
  have D1 := Lib.hid (fun w => plus_89 (part89 X 0) (part89 X 1) w)
  have D2 := Lib.hid (fun w => plus_89 (part89 X 0 + part89 X 1) (part89 X 2) w)
  have d3 := fun w => reduce_89 (part89 X 0 + part89 X 1 + part89 X 2) w
  rw [parts_sum] at d3
  have D3 := Lib.hid d3
  clear d3
  obtain ⟨h1, h2, h3, h4⟩ := three_blocks w (.cells #[.int .u64 (W64 (X.extractLsb' 0 64)), .int .u64 (W64 (X.extractLsb' 64 64)), .int .u64 (W64 (X.extractLsb' 128 64)), .int .u64 (W64 (X.extractLsb' 192 64))] 24) (.cells #[.int .u64 0, .int .u64 0] 26) (.cells #[.int .u64 (W64 (X.extractLsb' 0 64)), .int .u64 (W64 (X.extractLsb' 64 64)), .int .u64 (W64 (X.extractLsb' 128 64)), .int .u64 (W64 (X.extractLsb' 192 64)), .int .u64 0, .int .u64 0] 43)
  have H2 := Lib.hid (show Z2 _ _ _ from h2)
  have H3 := Lib.hid h3
  have H4 := Lib.hid h4
  have HB0 := Lib.hid h1
  clear h1 h2 h3 h4
  generalize part89 X 0 + part89 X 1 + part89 X 2 = s3 at *
  generalize part89 X 0 + part89 X 1 = s2 at *
  generalize part89 X 0 = p0 at *
  generalize part89 X 1 = p1 at *
  generalize part89 X 2 = p2 at *
  generalize m89 X.toNat = r at *
  go_enter Tryd.func8, Tryd.ntmps8
  go_wp2_with fail
  generalize ((w.alloc (.cells #[.int .u64 (W64 (X.extractLsb' 0 64)), .int .u64 (W64 (X.extractLsb' 64 64)), .int .u64 (W64 (X.extractLsb' 128 64)), .int .u64 (W64 (X.extractLsb' 192 64))] 24)).alloc (.cells #[.int .u64 0, .int .u64 0] 26)).alloc (.cells #[.int .u64 (W64 (X.extractLsb' 0 64)), .int .u64 (W64 (X.extractLsb' 64 64)), .int .u64 (W64 (X.extractLsb' 128 64)), .int .u64 (W64 (X.extractLsb' 192 64)), .int .u64 0, .int .u64 0] 43) = w0 at H2 H3 H4 HB0 ⊢
  refine (C0.out _ _ H3.out).mono ?_
  rintro e w1 ⟨rfl, hn1⟩
  have HN1 := Lib.hid hn1
  clear hn1
  go_wp2_with fail
  refine (C1.out _ _ ((HN1.out.block _ (lt_of_block H3.out)).trans H3.out)).mono ?_
  rintro e w2 ⟨rfl, hn2⟩
  have HN2 := Lib.hid (HN1.out.trans hn2)
  clear hn2
  go_wp2_with fail
  refine (D1.out _).mono ?_
  rintro e w3 ⟨rfl, hn3⟩
  have HN3 := Lib.hid (HN2.out.trans hn3)
  clear hn3
  go_wp2_with fail
  refine (C2.out _ _ ((HN3.out.block _ (lt_of_block H3.out)).trans H3.out)).mono ?_
  rintro e w4 ⟨rfl, hn4⟩
  have HN4 := Lib.hid (HN3.out.trans hn4)
  clear hn4
  go_wp2_with fail
  refine (D2.out _).mono ?_
  rintro e w5 ⟨rfl, hn5⟩
  have HN5 := Lib.hid (HN4.out.trans hn5)
  clear hn5
  go_wp2_with fail
  refine (D3.out _).mono ?_
  rintro e w6 ⟨rfl, hn6⟩
  have HN6 := Lib.hid (HN5.out.trans hn6)
  clear hn6
  have hz := H2.out.stay HN6.out
  have k0 := hz.c0
  have k1 := hz.c1
  have kf := hz.free
  have HN := Lib.hid (H4.out.trans HN6.out)
  clear hz
  go_wp2
  refine bodyPost_ret (by simp [results, Tryd.results8, go_sem, k0, k1]; try rfl) rfl ?_
  exact ⟨rfl, put2_new _ HN.out (by omega)⟩
theorem word256 (N j : Nat) (hj : j < 4) : (BitVec.ofNat 256 N).extractLsb' (64 * j) 64 = BitVec.ofNat 64 (N / 2 ^ (64 * j)) := by
  apply BitVec.eq_of_getLsbD_eq
  intro i hi
  rw [BitVec.getLsbD_extractLsb', BitVec.getLsbD_ofNat, BitVec.getLsbD_ofNat, ← Nat.shiftRight_eq_div_pow, Nat.testBit_shiftRight]
  have : 64 * j + i < 256 := by omega
  simp [this]
theorem wfull_x (x y : BitVec 128) (w : World) : Calls Tryd.prog 49 #[.agg #[.int .u64 (W64 (hi128 x)), .int .u64 (W64 (lo128 x))], .agg #[.int .u64 (W64 (hi128 y)), .int .u64 (W64 (lo128 y))]] w fun e w' =>
    e = .returned (.agg #[.int .u64 (W64 ((BitVec.ofNat 256 (x.toNat * y.toNat)).extractLsb' 0 64)), .int .u64 (W64 ((BitVec.ofNat 256 (x.toNat * y.toNat)).extractLsb' 64 64)), .int .u64 (W64 ((BitVec.ofNat 256 (x.toNat * y.toNat)).extractLsb' 128 64)), .int .u64 (W64 ((BitVec.ofNat 256 (x.toNat * y.toNat)).extractLsb' 192 64))]) ∧ New w w' := by
  have h := wfull_two (hi128 x) (lo128 x) (hi128 y) (lo128 y) w
  rw [two_x, two_x] at h
  have e0 := word256 (x.toNat * y.toNat) 0 (by omega)
  have e1 := word256 (x.toNat * y.toNat) 1 (by omega)
  have e2 := word256 (x.toNat * y.toNat) 2 (by omega)
  have e3 := word256 (x.toNat * y.toNat) 3 (by omega)
  rw [Nat.mul_zero, Nat.pow_zero, Nat.div_one] at e0
  rw [show 64 * 1 = 64 from rfl] at e1
  rw [show 64 * 2 = 128 from rfl] at e2
  rw [show 64 * 3 = 192 from rfl] at e3
  rw [e0, e1, e2, e3]
  exact h
set_option maxHeartbeats 2000000 in
theorem mul_89 (x y : BitVec 128) (w : World) : Calls Tryd.prog 38 #[.agg #[.int .u64 (W64 (hi128 x)), .int .u64 (W64 (lo128 x))], .agg #[.int .u64 (W64 (hi128 y)), .int .u64 (W64 (lo128 y))]] w fun e w' => e = .returned (.agg #[.int .u64 (W64 (hi128 (m89 (x.toNat * y.toNat)))), .int .u64 (W64 (lo128 (m89 (x.toNat * y.toNat))))]) ∧ New w w' := by
  obtain ⟨h1, h2, h3, h4⟩ := three_blocks w (.cells #[.int .u64 (W64 (hi128 x)), .int .u64 (W64 (lo128 x))] 26) (.cells #[.int .u64 (W64 (hi128 y)), .int .u64 (W64 (lo128 y))] 26) (.cells #[.int .u64 0, .int .u64 0] 26)
  have H1 := Lib.hid (show B2 _ _ _ x from h1)
  have H2 := Lib.hid (show B2 _ _ _ y from h2)
  have H3 := Lib.hid (show Z2 _ _ _ from h3)
  have H4 := Lib.hid h4
  have C1 := Lib.hid (fun w => wfull_x x y w)
  have c2 := fun w => fold_89 (BitVec.ofNat 256 (x.toNat * y.toNat)) w
  rw [BitVec.toNat_ofNat, Nat.mod_eq_of_lt (show x.toNat * y.toNat < 2 ^ 256 from by rw [show (2 : Nat) ^ 256 = 2 ^ 128 * 2 ^ 128 from by rw [← Nat.pow_add]]; exact Nat.mul_lt_mul_of_lt_of_lt x.isLt y.isLt)] at c2
  have C2 := Lib.hid c2
  clear h1 h2 h3 h4 c2
  generalize BitVec.ofNat 256 (x.toNat * y.toNat) = X at *
  generalize m89 (x.toNat * y.toNat) = r at *
  have x0 := H1.out.c0
  have x1 := H1.out.c1
  have y0 := H2.out.c0
  have y1 := H2.out.c1
  go_enter Tryd.func38, Tryd.ntmps38
  go_wp2_with fail
  generalize ((w.alloc (.cells #[.int .u64 (W64 (hi128 x)), .int .u64 (W64 (lo128 x))] 26)).alloc (.cells #[.int .u64 (W64 (hi128 y)), .int .u64 (W64 (lo128 y))] 26)).alloc (.cells #[.int .u64 0, .int .u64 0] 26) = w0 at H1 H2 H3 H4 x0 x1 y0 y1 ⊢
  refine (C1.out _).mono ?_
  rintro e w1 ⟨rfl, hn1⟩
  have HN1 := Lib.hid hn1
  clear hn1
  go_wp2_with fail
  refine (C2.out _).mono ?_
  rintro e w2 ⟨rfl, hn2⟩
  have HN2 := Lib.hid (HN1.out.trans hn2)
  clear hn2
  have hz := H3.out.stay HN2.out
  have k0 := hz.c0
  have k1 := hz.c1
  have kf := hz.free
  have HN := Lib.hid (H4.out.trans HN2.out)
  clear hz
  go_wp2
  refine bodyPost_ret (by simp [results, Tryd.results38, go_sem, k0, k1]; try rfl) rfl ?_
  exact ⟨rfl, put2_new _ HN.out (by omega)⟩
end Go.Proofs.YtagidgboebjkhaaDoor
