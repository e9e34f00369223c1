import Derived.Test.YtfaobdmoifnglaaGreatZLpB
import Derived.Test.YtfaobdmoifnglaaGreatZGf2R
/- Contract of charpoly.count. · Contract of charpoly.differs. · Contract of charpoly.polynomial. -/
namespace Go.Proofs.YtfaobdmoifnglaaGreat
open Go Go.RowKit Go.Bv Go.G2
set_option linter.unusedVariables false
theorem count_q (n : Nat) (h : n ≤ 4096) (w : World) :
    Calls Tryz.prog 168 #[.int .i64 (n : Int)] w fun e w' => e = .returned (.int .i64 (n : Int)) ∧ w' = w := by
  have h1 : max (n : Int) 0 = (n : Int) := by omega
  have h2 : min (n : Int) 4096 = (n : Int) := by omega
  have h3 : ¬ (n : Int) < 0 := by omega
  have h4 : ¬ (4096 : Int) < (n : Int) := by omega
  go_enter Tryz.func168, Tryz.ntmps168
  go_wp2
  go_ret
  exact ⟨rfl, rfl⟩
end Go.Proofs.YtfaobdmoifnglaaGreat
namespace Go.Proofs.YtfaobdmoifnglaaGreat
open Go Go.RowKit Go.Bv Go.G2
set_option linter.unusedVariables false
set_option maxRecDepth 100000 in
set_option maxHeartbeats 1000000 in
theorem differs_q (a b : Option Addr) (D N c c2 R V : Nat) (w : World) (h : LRow w a D c (bO R D)) (h2 : LRow w b N c2 (bO V N)) (hD : D ≤ N) (hN : N ≤ 100000) :
    Calls Tryz.prog 165 #[.slice a D c, .slice b N c2] w fun e w' => e = .returned (.bool (dfB R V (N - 1) D)) ∧ w' = w := by
  have HA := Lib.hid h
  have HB := Lib.hid h2
  have HS : Hid (∀ i, dfB R V (N - 1) (i + 1) = (dfB R V (N - 1) i != (R.testBit i && V.testBit (N - 1 - i)))) := Lib.hid (fun i => rfl)
  have H0 : Hid (dfB R V (N - 1) 0 = false) := Lib.hid rfl
  obtain ⟨f, hf⟩ : ∃ f, dfB R V (N - 1) = f := ⟨_, rfl⟩
  rw [hf] at HS H0 ⊢
  clear h h2 hf
  go_enter Tryz.func165, Tryz.ntmps165
  go_wp2_with fail
  go_loop [5, 10] (fun sv iv => ∃ i : Nat, i ≤ D ∧ iv = .int .i64 (i : Int) ∧ sv = .bool (f i)) (fun _ iv => D - (intOf iv).toNat)
  case atStart => exact ⟨0, by omega, rfl, by rw [H0.out]⟩
  case round =>
    obtain ⟨i, hi, rfl, rfl⟩ := hrel
    by_cases hlt : i < D
    · obtain ⟨b1, o1, rfl, hc⟩ := HA.out.addr (by omega)
      obtain ⟨b2, o2, rfl, hd⟩ := HB.out.addr (by omega)
      have c1 := hc i (by omega)
      have d1 := hd (N - 1 - i) (by omega)
      rw [bO_get R hlt] at c1
      rw [bO_get V (show N - 1 - i < N by omega)] at d1
      obtain ⟨k, hk⟩ : ∃ k, N - 1 - i = k := ⟨_, rfl⟩
      have hk2 : (N : Int) - 1 - (i : Int) = (k : Int) := by omega
      have HE := Lib.hid (HS.out i)
      rw [hk] at d1 HE
      have hi1 : (i : Int) < (D : Int) := by omega
      have hi2 : (0 : Int) ≤ (i : Int) := by omega
      have hk0 : (0 : Int) ≤ (k : Int) := by omega
      have hk1 : (k : Int) < (N : Int) := by omega
      clear hc hd hk
      obtain ⟨s, hs⟩ : ∃ s, f i = s := ⟨_, rfl⟩
      obtain ⟨y, hy⟩ : ∃ y, V.testBit k = y := ⟨_, rfl⟩
      rw [hs, hy] at HE
      rw [hy] at d1
      rw [hs]
      rcases hx : R.testBit i with _ | _
      · rw [hx] at c1 HE
        have HF : Hid (f (i + 1) = s) := Lib.hid (by rw [HE.out]; cases s <;> rfl)
        clear HE hs hy hx
        cases s <;> (go_wp2; exact ⟨⟨i + 1, by omega, rfl, by rw [HF.out]⟩, by simp [intOf] <;> omega⟩)
      · rw [hx] at c1 HE
        clear hs hy hx
        cases s <;> cases y
        · have HF : Hid (f (i + 1) = false) := Lib.hid (by rw [HE.out]; rfl)
          clear HE
          go_wp2; exact ⟨⟨i + 1, by omega, rfl, by rw [HF.out]⟩, by simp [intOf] <;> omega⟩
        · have HF : Hid (f (i + 1) = true) := Lib.hid (by rw [HE.out]; rfl)
          clear HE
          go_wp2; exact ⟨⟨i + 1, by omega, rfl, by rw [HF.out]⟩, by simp [intOf] <;> omega⟩
        · have HF : Hid (f (i + 1) = true) := Lib.hid (by rw [HE.out]; rfl)
          clear HE
          go_wp2; exact ⟨⟨i + 1, by omega, rfl, by rw [HF.out]⟩, by simp [intOf] <;> omega⟩
        · have HF : Hid (f (i + 1) = false) := Lib.hid (by rw [HE.out]; rfl)
          clear HE
          go_wp2; exact ⟨⟨i + 1, by omega, rfl, by rw [HF.out]⟩, by simp [intOf] <;> omega⟩
    · obtain rfl : i = D := by omega
      go_wp2
      go_ret
      exact ⟨rfl, rfl⟩
end Go.Proofs.YtfaobdmoifnglaaGreat
namespace Go.G2
theorem rev_bit (R d : Nat) : ∀ i x, i ≤ d + 1 → x ≤ d → (revB R d i).testBit x = (decide (d - x < i) && R.testBit (d - x))
  | 0, x, hi, hx => by show (0 : Nat).testBit x = _; simp
  | i + 1, x, hi, hx => by
    show (revB R d i ^^^ (if R.testBit i then 2 ^ (d - i) else 0)).testBit x = _
    rw [Nat.testBit_xor, rev_bit R d i x (by omega) hx]
    by_cases h : d - x < i
    · have h2 : (if R.testBit i then 2 ^ (d - i) else 0).testBit x = false := by
        cases R.testBit i
        · simp
        · rw [if_pos rfl, Nat.testBit_two_pow]; simp; omega
      rw [h2]; simp [h]; omega
    · by_cases h3 : d - x = i
      · rw [h3]
        by_cases hb : R.testBit i = true
        · rw [if_pos hb, Nat.testBit_two_pow]; simp [hb]; omega
        · simp [hb]
      · have h2 : (if R.testBit i then 2 ^ (d - i) else 0).testBit x = false := by
          by_cases hb : R.testBit i = true
          · rw [if_pos hb, Nat.testBit_two_pow]; simp; omega
          · simp [hb]
        have h4 : ¬ d - x < i + 1 := by omega
        rw [h2]; simp [h, h4]
theorem rev_lt (R d : Nat) : ∀ i, revB R d i < 2 ^ (d + 1)
  | 0 => Nat.two_pow_pos _
  | i + 1 => by
    show revB R d i ^^^ (if R.testBit i then 2 ^ (d - i) else 0) < _
    refine Nat.xor_lt_two_pow (rev_lt R d i) ?_
    by_cases hb : R.testBit i = true
    · rw [if_pos hb]; exact Nat.pow_lt_pow_right (by decide) (by omega)
    · rw [if_neg hb]; exact Nat.two_pow_pos _
end Go.G2
namespace Go.Proofs.YtfaobdmoifnglaaGreat
open Go Go.RowKit Go.Bv Go.G2
set_option linter.unusedVariables false
set_option maxRecDepth 100000 in
set_option maxHeartbeats 2000000 in
theorem polynomial_q (a : Option Addr) (D c R : Nat) (w : World) (h : LRow w a D c (bO R D)) (hD : 0 < D) (hm : D ≤ 100000) :
    Calls Tryz.prog 167 #[.slice a D c] w fun e w' => ∃ a' c', e = .returned (.slice a' (tW (revB R (D - 1) D)).length c') ∧ QRow w' a' (tW (revB R (D - 1) D)).length c' (tW (revB R (D - 1) D)) ∧ New w w' := by
  have HA := Lib.hid h
  obtain ⟨K0, hK0⟩ : ∃ K0, D / 64 = K0 := ⟨_, rfl⟩
  have hKi : (D : Int) / 64 = (K0 : Int) := by omega
  have hKt : (D : Int).tdiv 64 = (K0 : Int) := by rw [Int.tdiv_eq_ediv_of_nonneg (by omega)]; exact hKi
  have hK0b : (0 : Int) ≤ (K0 : Int) := by omega
  obtain ⟨K, hK⟩ : ∃ K, K0 + 1 = K := ⟨_, rfl⟩
  have hK2 : (K0 : Int) + 1 = (K : Int) := by omega
  have hKb : K ≤ 50000 := by omega
  have HDK : Hid (D ≤ 64 * K) := Lib.hid (by omega)
  have hs0 : ∀ i, revB R (D - 1) (i + 1) = revB R (D - 1) i ^^^ (if R.testBit i then 2 ^ (D - 1 - i) else 0) := fun i => rfl
  have HSTEP := Lib.hid hs0
  have HBIT : Hid (∀ i, i < D → (revB R (D - 1) i).testBit (D - 1 - i) = false) := Lib.hid (fun i hi => by
    rw [rev_bit R (D - 1) i _ (by omega) (by omega)]
    have : ¬ D - 1 - (D - 1 - i) < i := by omega
    simp [this])
  have HLT : Hid (revB R (D - 1) D < 2 ^ (64 * K)) := Lib.hid (Nat.lt_of_lt_of_le (rev_lt R (D - 1) D) (Nat.pow_le_pow_right (by decide) (by omega)))
  have H0 : Hid (revB R (D - 1) 0 = 0) := Lib.hid rfl
  obtain ⟨f, hf⟩ : ∃ f, revB R (D - 1) = f := ⟨_, rfl⟩
  rw [hf] at HSTEP HBIT HLT H0 ⊢
  have HMK := Lib.hid (make_w64 K (by omega))
  have hnz : New w (w.alloc (.cells (madeCells #[.int .u64 0] K) 22)) := (New.refl w).alloc _
  have hoz := ow_zeros w K (by omega)
  obtain ⟨W2, hW2⟩ : ∃ z, w.alloc (.cells (madeCells #[.int .u64 0] K) 22) = z := ⟨_, rfl⟩
  rw [hW2] at hnz hoz
  have HN := Lib.hid hnz
  have HO := Lib.hid hoz
  have HW2 := Lib.hid hW2
  obtain ⟨g, hg⟩ : ∃ g, w.heap.size = g := ⟨_, rfl⟩
  rw [hg] at HO
  have HLE : Hid (w.heap.size ≤ g) := Lib.hid (by omega)
  clear h hf hs0 hnz hoz hW2 hK hK0
  have hg2 := Lib.hid hg
  clear hg
  go_enter Tryz.func167, Tryz.ntmps167
  go_wp2_with fail
  rw [HMK.out _ _ (by omega)]
  rw [HW2.out, hg2.out]
  clear HW2 HMK
  go_wp2_with fail
  go_loopw [14] (fun iv wr => ∃ i : Nat, i ≤ D ∧ iv = .int .i64 (i : Int) ∧ wr.ownsRow g 22 1 (.slice (some ⟨g, 0, none⟩) K K) K ((wL K (f i)).map fun x => .int .u64 (W64 x)) ∧ New w wr) (fun iv _ => D - (intOf iv).toNat)
  case atStart => exact ⟨0, by omega, rfl, by rw [H0.out]; exact HO.out, HN.out⟩
  case round =>
    clear HO HN
    obtain ⟨i, hi, rfl, hown, hnew⟩ := hrel
    obtain ⟨wq, hwq⟩ : ∃ z, z = wr := ⟨_, rfl⟩
    rw [← hwq] at hown hnew ⊢
    clear hwq
    by_cases hlt : i < D
    · obtain ⟨b1, o1, rfl, hc⟩ := (HA.out.stay hnew).addr (by omega)
      have c1 := hc i (by omega)
      rw [bO_get R hlt] at c1
      obtain ⟨t, ht⟩ : ∃ t, D - 1 - i = t := ⟨_, rfl⟩
      have ht2 : (D : Int) - 1 - (i : Int) = (t : Int) := by omega
      have HWR : Hid (wrap64 (wrap64 ((D : Int) - 1) - (i : Int)) = (t : Int)) := Lib.hid (by rw [wrap_64 (x := (D : Int) - 1) (by omega) (by omega), ht2]; exact wrap_64 (by omega) (by omega))
      have hi1 : (i : Int) < (D : Int) := by omega
      have hi2 : (0 : Int) ≤ (i : Int) := by omega
      have HE := Lib.hid (HSTEP.out i)
      have HB := Lib.hid (HBIT.out i hlt)
      rw [ht] at HE HB
      have HO1 := Lib.hid hown
      have HN1 := Lib.hid hnew
      have htD : t < 64 * K := by have := HDK.out; omega
      clear hc hown hnew
      rcases hx : R.testBit i with _ | _
      · rw [hx] at c1 HE
        have HF : Hid (f (i + 1) = f i) := Lib.hid (by rw [HE.out]; simp)
        clear HE HB hx ht htD
        go_wp2
        exact ⟨⟨i + 1, by omega, rfl, by rw [HF.out]; exact HO1.out, HN1.out⟩, by simp [intOf] <;> omega⟩
      · rw [hx] at c1 HE
        have HF : Hid (f (i + 1) = f i ^^^ 2 ^ t) := Lib.hid (by rw [HE.out]; simp)
        obtain ⟨q, hq⟩ : ∃ q, f i = q := ⟨_, rfl⟩
        rw [hq] at HO1 HF HB
        obtain ⟨j, hj⟩ : ∃ j, t / 64 = j := ⟨_, rfl⟩
        obtain ⟨s, hs⟩ : ∃ s, t % 64 = s := ⟨_, rfl⟩
        have hOR := or_xor_bit q K t HB.out
        have hs64 : s < 64 := by omega
        have htj : 2 ^ (64 * j) * (1#64 <<< s).toNat = 2 ^ t := by
          rw [shl_one s hs64, ← Nat.pow_add]; congr 1; omega
        rw [hj, hs] at hOR
        obtain ⟨e1, e2, e3, e4, e5, e6, e7, e8, e9, e10, e11, e12, e13, hjn⟩ := div_idx hj hs htD hKb
        obtain ⟨d1, f1⟩ := ow_w64 HO1.out (k := j) hjn
        have hset : (wL K q).set j ((wL K q).getD j 0 ||| 1#64 <<< s) = wL K (q ^^^ 2 ^ t) := by
          rw [wL_get hjn, hOR, wL_xor hjn, htj]
        obtain ⟨u, hu⟩ : ∃ u, (wL K q).getD j 0 = u := ⟨_, rfl⟩
        rw [hu] at d1 hset
        have HP2 : Hid (((wq.setCell ⟨g, j, none⟩ (.int .u64 (W64 (u ||| 1#64 <<< s)))).drew).ownsRow g 22 1 (.slice (some ⟨g, 0, none⟩) K K) K ((wL K (q ^^^ 2 ^ t)).map fun x => .int .u64 (W64 x))) := Lib.hid (by
          rw [← hset, List.map_set]; exact ow_new (ow_set HO1.out j _) (New.refl _).drew)
        have HPN : Hid (New w ((wq.setCell ⟨g, j, none⟩ (.int .u64 (W64 (u ||| 1#64 <<< s)))).drew)) := Lib.hid (New.drew (HN1.out.setCell (p := ⟨g, j, none⟩) HLE.out _))
        clear HE HB hx hOR htj hset hu hj hs HO1 HN1 hjn hq ht htD
        go_wp2_with fail
        rw [HWR.out]
        clear HWR ht2
        go_region
        clear d1 f1 e1 e2 e3 e4 e5 e6 e7 e8 e9 e10 e11 e12 e13
        go_wp2
        exact ⟨⟨i + 1, by omega, rfl, by rw [HF.out]; exact HP2.out, HPN.out⟩, by simp [intOf] <;> omega⟩
    · obtain rfl : i = D := by omega
      obtain ⟨a9, c9, he9, hq9⟩ := QRow.of_owns hown (by omega)
      cases he9
      have HT := Lib.hid (trim_q _ _ _ _ wq hq9)
      rw [vW_wL, Nat.mod_eq_of_lt HLT.out] at HT
      have HN1 := Lib.hid hnew
      clear hown hnew hq9
      go_wp2_with fail
      refine HT.out.mono ?_
      rintro e w3 ⟨a1, c1, rfl, hq3, hn3⟩
      have HQ := Lib.hid hq3
      have HN2 := Lib.hid (HN1.out.trans hn3)
      clear hq3 hn3 HT
      go_wp2
      go_ret
      exact ⟨_, _, rfl, HQ.out, HN2.out⟩
end Go.Proofs.YtfaobdmoifnglaaGreat
