/- The contract of the document's own Pow modulo the prime of 89 bits; the example of mers89 (awake). -/
import Derived.Test.YtadaaihbeapibaaMeiH
namespace Go.Bv
open Go Go.RowKit
theorem nat_u64 (k : Nat) (h : k < 18446744073709551616) : W64 (BitVec.ofNat 64 k) = (k : Int) := W64_lit k h
theorem next_u64 (k : Nat) : BitVec.ofNat 64 k + 1#64 = BitVec.ofNat 64 (k + 1) := by rw [BitVec.ofNat_add]
end Go.Bv
namespace Go.Proofs.Ytadaaihbeapibaa
open Go.RowKit Go.Bv
set_option linter.unusedVariables false
set_option maxHeartbeats 2000000 in
theorem rpow_89 (a : BitVec 128) (e : BitVec 64) (m : Nat) (hm : e.toNat = m) (hm2 : m ≤ 4096) (w : World) : Calls Try.prog 46 #[.agg #[.int .u64 (W64 (hi128 a)), .int .u64 (W64 (lo128 a))], .int .u64 (W64 e)] w fun e w' => e = .returned (.agg #[.int .u64 (W64 (hi128 (m89 (a.toNat ^ m)))), .int .u64 (W64 (lo128 (m89 (a.toNat ^ m))))]) ∧ New w w' := by
  obtain ⟨h1, h2, h3, h4⟩ := three_blocks w (.cells #[.int .u64 (W64 (hi128 a)), .int .u64 (W64 (lo128 a))] 35) (.cells #[.int .u64 0, .int .u64 0] 35) (.cells #[.int .u64 0, .int .u64 1] 35)
  have H1 := Lib.hid (show B2 _ _ _ a from h1)
  have H2 := Lib.hid (show Z2 _ _ _ from h2)
  have H3 : Hid (B2 _ (w.heap.size + 1 + 1) 35 (m89 (a.toNat ^ 0))) := Lib.hid (by rw [Nat.pow_zero, m89_one]; unfold B2; rw [ohi, olo]; exact h3)
  have H4 := Lib.hid h4
  have h0 : W64 (BitVec.ofNat 64 0) = 0 := nat_u64 0 (by omega)
  have H0 := Lib.hid h0
  have HM := Lib.hid hm
  clear h1 h2 h3 h4 h0 hm
  go_enter Try.func46, Try.ntmps46
  go_wp2_with fail
  generalize ((w.alloc (.cells #[.int .u64 (W64 (hi128 a)), .int .u64 (W64 (lo128 a))] 35)).alloc (.cells #[.int .u64 0, .int .u64 0] 35)).alloc (.cells #[.int .u64 0, .int .u64 1] 35) = w0 at H1 H2 H3 H4 ⊢
  go_loopw [6] (fun i wr => ∃ k : Nat, k ≤ m ∧ i = .int .u64 (W64 (BitVec.ofNat 64 k)) ∧ B2 wr w.heap.size 35 a ∧ Z2 wr (w.heap.size + 1) 35 ∧ B2 wr (w.heap.size + 1 + 1) 35 (m89 (a.toNat ^ k)) ∧ New w wr) (fun i _ => m - (intOf i).toNat)
  case atStart => exact ⟨0, by omega, by rw [H0.out], H1.out, H2.out, H3.out, H4.out⟩
  case round =>
    clear H1 H2 H3 H4
    obtain ⟨k, hk, rfl, ha, hz, hp, hnew⟩ := hrel
    have HA := Lib.hid ha
    have HZ := Lib.hid hz
    have HNEW := Lib.hid hnew
    have hmul := fun w => rmul_89 (m89 (a.toNat ^ k)) a w
    have hpw : m89 ((m89 (a.toNat ^ k)).toNat * a.toNat) = m89 (a.toNat ^ (k + 1)) := by
      apply m89_congr
      rw [m89_nat, Nat.mod_mul_mod, ← Nat.pow_succ]
    rw [hpw] at hmul
    have HMUL := Lib.hid hmul
    obtain ⟨q, hq⟩ : ∃ q, m89 (a.toNat ^ (k + 1)) = q := ⟨_, rfl⟩
    rw [hq] at HMUL
    have HQ := Lib.hid hq
    obtain ⟨p, hpe⟩ : ∃ q, m89 (a.toNat ^ k) = q := ⟨_, rfl⟩
    rw [hpe] at hp HMUL
    have HPE := Lib.hid hpe
    have HP := Lib.hid hp
    have hk64 := nat_u64 k (by omega)
    have HK64 := Lib.hid hk64
    have HK1 := Lib.hid (nat_u64 (k + 1) (by omega))
    have HNX := Lib.hid (next_u64 k)
    have p0 := hp.c0
    have p1 := hp.c1
    clear ha hz hnew hmul hpw hq hpe hp hk64
    by_cases hlt : k < m
    · have hd : decide (W64 (BitVec.ofNat 64 k) < W64 e) = true := by rw [HK64.out]; unfold W64; rw [HM.out]; exact decide_eq_true (by omega)
      have a0 := HA.out.c0
      have a1 := HA.out.c1
      go_wp2_with fail
      refine (HMUL.out _).mono ?_
      rintro e w1 ⟨rfl, hn1⟩
      have hp1 := HP.out.stay hn1
      have p0 := hp1.c0
      have p1 := hp1.c1
      have pf := hp1.free
      have HP1 := Lib.hid hp1
      have HN1 := Lib.hid hn1
      clear hp1 hn1 a0 a1
      go_wp2
      have hO := fun j hj => put2_other (w := w1) (b := w.heap.size + 1 + 1) (k := j) q hj
      refine ⟨⟨k + 1, by omega, by rw [← HNX.out], (hO _ (by omega)).trans (HA.out.stay HN1.out), (hO _ (by omega)).trans (HZ.out.stay HN1.out), by rw [HQ.out]; exact B2.put q HP1.out, put2_new q (HNEW.out.trans HN1.out) (by omega)⟩, ?_⟩
      rw [HNX.out, HK1.out, HK64.out]; simp [intOf]; omega
    · have hd : decide (W64 (BitVec.ofNat 64 k) < W64 e) = false := by rw [HK64.out]; unfold W64; rw [HM.out]; exact decide_eq_false (by omega)
      have k0 := HZ.out.c0
      have k1 := HZ.out.c1
      have kf := HZ.out.free
      have HE : Hid (p = m89 (a.toNat ^ m)) := Lib.hid (by rw [← HPE.out, show k = m by omega])
      go_wp2
      refine bodyPost_ret (by simp [results, Try.results46, go_sem, k0, k1]; try rfl) rfl ?_
      rw [← HE.out]
      exact ⟨rfl, put2_new _ HNEW.out (by omega)⟩
theorem two_inv89 : m89 ((2#128).toNat ^ 618970019642690137449562109) = 309485009821345068724781056#128 := by
  have h := Fer.powm_eq 618970019642690137449562111 89 2 618970019642690137449562109 (by decide +kernel)
  apply BitVec.eq_of_toNat_eq
  rw [m89_nat, show (2#128).toNat = 2 from rfl, ← h]; decide +kernel
set_option maxHeartbeats 1000000 in
theorem awake05 (w : World) : Calls Try.prog 36 #[] w fun e w' => e = .returned (.bool true) ∧ New w w' := by
  have h1 : ∀ w, Calls Try.prog 50 #[.agg #[.int .u64 0, .int .u64 2]] w fun e w' => e = .returned (.tuple #[.agg #[.int .u64 16777216, .int .u64 0], .bool true]) ∧ New w w' := by
    intro w
    have h := inv_89 2#128 w
    rw [thi, tlo, two_inv89, show m89 (2#128).toNat = 2#128 by decide +kernel, if_neg (by decide), show W64 (hi128 309485009821345068724781056#128) = 16777216 from by unfold W64; decide +kernel, show W64 (lo128 309485009821345068724781056#128) = 0 from by unfold W64; decide +kernel] at h
    exact h
  have h2 : ∀ w, Calls Try.prog 63 #[.agg #[.int .u64 0, .int .u64 33554432, .int .u64 0, .int .u64 0]] w fun e w' => e = .returned (.agg #[.int .u64 0, .int .u64 1]) ∧ New w w' := by
    intro w
    have h := fold_89 618970019642690137449562112#256 w
    rw [show W64 ((618970019642690137449562112#256).extractLsb' 0 64) = 0 from by unfold W64; decide +kernel, show W64 ((618970019642690137449562112#256).extractLsb' 64 64) = 33554432 from by unfold W64; decide +kernel,
      show W64 ((618970019642690137449562112#256).extractLsb' 128 64) = 0 from by unfold W64; decide +kernel, show W64 ((618970019642690137449562112#256).extractLsb' 192 64) = 0 from by unfold W64; decide +kernel,
      show m89 (618970019642690137449562112#256).toNat = 1#128 by decide +kernel, ohi, olo] at h
    exact h
  have e1 := fun w => equ_x w 1#128 1#128
  rw [ohi, olo, BEq.rfl] at e1
  have e2 := fun w => equ_x w 309485009821345068724781056#128 309485009821345068724781056#128
  rw [show W64 (hi128 309485009821345068724781056#128) = 16777216 from by unfold W64; decide +kernel, show W64 (lo128 309485009821345068724781056#128) = 0 from by unfold W64; decide +kernel, BEq.rfl] at e2
  have HC1 := Lib.hid h1
  have HC2 := Lib.hid h2
  clear h1 h2
  go_enter Try.func36, Try.ntmps36
  go_wp2_with fail
  refine (HC1.out _).mono ?_
  rintro e w1 ⟨rfl, hn1⟩
  have hB := heap_alloc_new w1 (.cells #[.int .u64 16777216, .int .u64 0] 35)
  have hn2 := hn1.alloc (.cells #[.int .u64 16777216, .int .u64 0] 35)
  go_wp2_with fail
  generalize w1.heap.size = g at *
  generalize w1.alloc (.cells #[.int .u64 16777216, .int .u64 0] 35) = w2 at *
  refine (HC2.out _).mono ?_
  rintro e w3 ⟨rfl, hn3⟩
  have hb3 := (hn3.block _ (lt_of_block hB)).trans hB
  have c0 := cell_of_row _ _ 0 _ _ _ hb3
  have c1 := cell_of_row _ _ 1 _ _ _ hb3
  have HN := Lib.hid (hn2.trans hn3)
  clear hB hn1 hn2 hn3 hb3
  go_wp2
  go_ret
  exact ⟨rfl, HN.out⟩
end Go.Proofs.Ytadaaihbeapibaa
