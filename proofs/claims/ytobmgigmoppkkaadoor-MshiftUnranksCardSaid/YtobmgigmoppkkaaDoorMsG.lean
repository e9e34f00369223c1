/- Layer 20: Rank as one function, Bound, Meets; the laws MshiftRanks, MshiftEvals, walked. -/
import Derived.Test.YtobmgigmoppkkaaDoorMsF
namespace Go.Bv
open Go Go.RowKit
/-- the rank of a multiplier, and whether it is close -/
def rkM (a x y : BitVec 64) (t : Nat) : BitVec 64 × Bool :=
  if t ≤ tzN (x - y) then (0#64, false)
  else if W64 (lowM (a * ((x - y) >>> tzN (x - y))) (tzN (x - y))) < W64 (1#64 <<< (t - tzN (x - y))) then ((lowM (a * ((x - y) >>> tzN (x - y))) (tzN (x - y)) - 1#64) <<< tzN (x - y) + (a * ((x - y) >>> tzN (x - y))) >>> (64 - tzN (x - y)), true)
  else if W64 (lowM (-(a * ((x - y) >>> tzN (x - y)))) (tzN (x - y))) < W64 (1#64 <<< (t - tzN (x - y))) then (lowM (-(a * ((x - y) >>> tzN (x - y)))) (tzN (x - y)) <<< tzN (x - y) + (a * ((x - y) >>> tzN (x - y))) >>> (64 - tzN (x - y)), true)
  else (0#64, false)
def rkA (a x y : BitVec 64) (k : Int) : BitVec 64 × Bool := if x = y then (0#64, false) else if chkM a k = 0 then rkM a x y (64 - k.toNat) else (0#64, false)
/-- how many multipliers at most -/
def bndM (k : Int) : BitVec 64 := if k < 1 ∨ 64 < k then 0#64 else 1#64 <<< (64 - k.toNat)
theorem not_low (m : BitVec 64) (s : Nat) : ¬ W64 (lowM m s) < W64 0#64 := by unfold W64; simp
end Go.Bv
namespace Go.Proofs.YtobmgigmoppkkaaDoor
open Go.RowKit Go.Bv
set_option linter.unusedVariables false
theorem rank_d (a x y : BitVec 64) (k : Int) (w : World) (ht : TabD w) : Calls Tryd.prog 15 #[.int .u64 (W64 a), .int .i64 k, .int .u64 (W64 x), .int .u64 (W64 y)] w fun e w' => e = .returned (.tuple #[.int .u64 (W64 (rkA a x y k).1), .bool (rkA a x y k).2]) ∧ New w w' := by
  unfold rkA
  by_cases hxy : x = y
  · rw [if_pos hxy]; subst hxy; exact rank_same x a k w
  rw [if_neg hxy]
  by_cases hc : ¬ chkM a k = 0
  · rw [if_neg hc]; exact rank_bad x y a k hxy (beq_false_of_ne hc) w
  rw [Classical.not_not] at hc
  rw [if_pos hc]
  obtain ⟨j, t, rfl, hj, hjt, hodd⟩ := chkM_good hc
  obtain rfl : t = 64 - ((j : Int)).toNat := by omega
  have hs := tz_lt (diff_ne hxy)
  have HG := Lib.hid (fun (w' : World) (h : New w w') => gap_d x y hxy w' (ht.stay h))
  have HL := Lib.hid (fun (w' : World) (h : New w w') => limit_d x y hxy j _ hjt w' (ht.stay h))
  unfold rkM
  by_cases hts : 64 - ((j : Int)).toNat ≤ tzN (x - y)
  · rw [if_pos hts]
    have e : limM (64 - ((j : Int)).toNat) (tzN (x - y)) = 0#64 := if_pos hts
    rw [e] at HL
    exact rank_no x y a _ _ _ _ _ j _ hs rfl rfl rfl (decide_eq_true (Int.not_lt.1 (not_low _ _))) (decide_eq_true (Int.not_lt.1 (not_low _ _))) hxy hc w HG HL
  rw [if_neg hts]
  have e : limM (64 - ((j : Int)).toNat) (tzN (x - y)) = 1#64 <<< (64 - ((j : Int)).toNat - tzN (x - y)) := if_neg hts
  rw [e] at HL
  split
  · rename_i h1
    exact rank_one x y a _ _ _ _ _ j _ hs rfl rfl rfl (decide_eq_false (Int.not_le.2 h1)) hxy hc w HG HL
  · rename_i h1
    split
    · rename_i h2
      exact rank_two x y a _ _ _ _ _ j _ hs rfl rfl rfl (decide_eq_true (Int.not_lt.1 h1)) (decide_eq_false (Int.not_le.2 h2)) hxy hc w HG HL
    · rename_i h2
      exact rank_no x y a _ _ _ _ _ j _ hs rfl rfl rfl (decide_eq_true (Int.not_lt.1 h1)) (decide_eq_true (Int.not_lt.1 h2)) hxy hc w HG HL
theorem rrank_d (a x y : BitVec 64) (k : Int) (w : World) : Calls Tryd.prog 16 #[.int .u64 (W64 a), .int .i64 k, .int .u64 (W64 x), .int .u64 (W64 y)] w fun e w' => e = .returned (.tuple #[.int .u64 (W64 (rkA a x y k).1), .bool (rkA a x y k).2]) ∧ w' = w := by
  unfold rkA
  by_cases hc : ¬ chkM a k = 0
  · rw [if_neg hc]
    have e : (if x = y then ((0#64, false) : BitVec 64 × Bool) else (0#64, false)) = (0#64, false) := by split <;> rfl
    rw [e]
    exact rrank_early x y a k (Or.inl (beq_false_of_ne hc)) w
  rw [Classical.not_not] at hc
  by_cases hxy : x = y
  · rw [if_pos hxy]; exact rrank_early x y a k (Or.inr ⟨by rw [hc]; rfl, hxy⟩) w
  rw [if_neg hxy, if_pos hc]
  obtain ⟨j, t, rfl, hj, hjt, hodd⟩ := chkM_good hc
  obtain rfl : t = 64 - ((j : Int)).toNat := by omega
  have hz := diff_ne hxy
  have hs := tz_lt hz
  have hb := tz_back hz
  have HTW := Lib.hid (twos_m (x - y) hz w)
  generalize 64 - ((j : Int)).toNat = t at *
  unfold rkM
  have p1 := one_shl_ne hs
  have e1 := div_shl (x - y) hs
  have e3 : a * (x - y) / 1#64 <<< tzN (x - y) = lowM (a * ((x - y) >>> tzN (x - y))) (tzN (x - y)) := by rw [div_shl _ hs, low_mul _ _ _ hb]
  have e4 : -(a * (x - y)) / 1#64 <<< tzN (x - y) = lowM (-(a * ((x - y) >>> tzN (x - y)))) (tzN (x - y)) := by rw [div_shl _ hs, low_neg _ _ _ hb]
  generalize (x - y) >>> tzN (x - y) = d at *
  generalize tzN (x - y) = s at *
  have HPS := Lib.hid (power_m s (by omega) w)
  have HPR := Lib.hid (fun _ : t - s + s = t => power_m (t - s) (by omega) w)
  have hp2 := power_m (64 - s) (by omega) w
  rw [show ((64 - s : Nat) : Int) = 64 - (s : Int) by omega] at hp2
  have HP2 := Lib.hid hp2
  have hxb := beq_false_of_ne hxy
  by_cases h0 : 0 < s
  · have p2 := one_shl_ne (show 64 - s < 64 by omega)
    have e5 := div_shl (a * d) (show 64 - s < 64 by omega)
    have e6 : (lowM (a * d) s - 1#64) * 1#64 <<< s + (a * d) >>> (64 - s) = (lowM (a * d) s - 1#64) <<< s + (a * d) >>> (64 - s) := by rw [mul_pshl]
    have e7 : lowM (-(a * d)) s * 1#64 <<< s + (a * d) >>> (64 - s) = lowM (-(a * d)) s <<< s + (a * d) >>> (64 - s) := by rw [mul_pshl]
    by_cases hts : t ≤ s
    · rw [if_pos hts]
      exact rrank_fewp x y a d _ _ _ _ _ _ _ j t s hjt h0 hs hts hxb hc e1 rfl e3 e4 e5 e6 e7 p1 p2 w HTW HPS HPR HP2
    rw [if_neg hts]
    split
    · rename_i h1
      exact rrank_onep x y a d _ _ _ _ _ _ _ j t s hjt h0 hs hts (decide_eq_true h1) hxb hc e1 rfl e3 e4 e5 e6 e7 p1 p2 w HTW HPS HPR HP2
    · rename_i h1
      split
      · rename_i h2
        exact rrank_twop x y a d _ _ _ _ _ _ _ j t s hjt h0 hs hts (decide_eq_false h1) (decide_eq_true h2) hxb hc e1 rfl e3 e4 e5 e6 e7 p1 p2 w HTW HPS HPR HP2
      · rename_i h2
        exact rrank_nop x y a d _ _ _ _ _ _ _ j t s hjt h0 hs hts (decide_eq_false h1) (decide_eq_false h2) hxb hc e1 rfl e3 e4 e5 e6 e7 p1 p2 w HTW HPS HPR HP2
  · obtain rfl : s = 0 := by omega
    have e5 : (0#64 : BitVec 64) = (a * d) >>> (64 - 0) := by
      apply BitVec.eq_of_toNat_eq
      rw [shr_nat]
      exact (Nat.div_eq_of_lt (a * d).isLt).symm
    have e6 : (lowM (a * d) 0 - 1#64) * 1#64 <<< 0 = (lowM (a * d) 0 - 1#64) <<< 0 + (a * d) >>> (64 - 0) := by rw [mul_pshl, ← e5, BitVec.add_zero]
    have e7 : lowM (-(a * d)) 0 * 1#64 <<< 0 = lowM (-(a * d)) 0 <<< 0 + (a * d) >>> (64 - 0) := by rw [mul_pshl, ← e5, BitVec.add_zero]
    by_cases hts : t ≤ 0
    · rw [if_pos hts]
      exact rrank_few0 x y a d _ _ _ _ _ _ j t 0 hjt h0 hs hts hxb hc e1 rfl e3 e4 e5 e6 e7 p1 w HTW HPS HPR
    rw [if_neg hts]
    split
    · rename_i h1
      exact rrank_one0 x y a d _ _ _ _ _ _ j t 0 hjt h0 hs hts (decide_eq_true h1) hxb hc e1 rfl e3 e4 e5 e6 e7 p1 w HTW HPS HPR
    · rename_i h1
      split
      · rename_i h2
        exact rrank_two0 x y a d _ _ _ _ _ _ j t 0 hjt h0 hs hts (decide_eq_false h1) (decide_eq_true h2) hxb hc e1 rfl e3 e4 e5 e6 e7 p1 w HTW HPS HPR
      · rename_i h2
        exact rrank_no0 x y a d _ _ _ _ _ _ j t 0 hjt h0 hs hts (decide_eq_false h1) (decide_eq_false h2) hxb hc e1 rfl e3 e4 e5 e6 e7 p1 w HTW HPS HPR
theorem good_bits {k : Int} (h : ¬ (k < 1 ∨ 64 < k)) : ∃ j t : Nat, k = (j : Int) ∧ j + t = 64 ∧ t = 64 - ((j : Nat) : Int).toNat := ⟨k.toNat, 64 - k.toNat, by omega, by omega, by omega⟩
set_option maxHeartbeats 1000000 in
theorem bound_m (k : Int) (w : World) : Calls Tryd.prog 12 #[.int .i64 k] w fun e w' => e = .returned (.agg #[.int .u64 0, .int .u64 (W64 (bndM k))]) ∧ New w w' := by
  have HA := Lib.hid (fun w' => calls_fresh (allowed_m k) w')
  unfold bndM
  by_cases h : k < 1 ∨ 64 < k
  · rw [if_pos h, show W64 0#64 = 0 by decide]
    rw [decide_eq_true h, Bool.not_true] at HA
    clear h
    have hz := heap_alloc_new w (.cells #[.int .u64 0, .int .u64 0] 32)
    have HN0 := Lib.hid ((New.refl w).alloc (.cells #[.int .u64 0, .int .u64 0] 32))
    have hsz : (w.alloc (.cells #[.int .u64 0, .int .u64 0] 32)).heap.size = w.heap.size + 1 := by simp
    obtain ⟨w0, hw0⟩ : ∃ w0, w.alloc (.cells #[.int .u64 0, .int .u64 0] 32) = w0 := ⟨_, rfl⟩
    rw [hw0] at HN0 hz hsz
    have HW0 := Lib.hid hw0
    have HZ := Lib.hid hz
    have HSZ := Lib.hid hsz
    have HN := Lib.hid (New.refl w0)
    clear hw0 hz hsz
    go_enter Tryd.func12, Tryd.ntmps12
    go_wp2_with fail
    rw [HW0.out]
    refine (HA.out _).mono ?_
    rintro e w9 ⟨rfl, hn⟩
    replace HN := Lib.hid (HN.out.trans hn)
    clear hn
    have hb := (HN.out.block _ (lt_of_block HZ.out)).trans HZ.out
    have k0 := cell_of_row _ _ 0 _ _ _ hb
    have k1 := cell_of_row _ _ 1 _ _ _ hb
    have kf : ∀ i, w9.frozen? ⟨w.heap.size, i, none⟩ = false := fun i => frozen_of_row _ _ _ _ _ hb
    clear hb
    go_wp2
    refine bodyPost_ret (by simp [results, Tryd.results12, go_sem, k0, k1]; try rfl) rfl ?_
    exact ⟨rfl, ((HN0.out.trans HN.out).setCell (Nat.le_refl _) _).setCell (Nat.le_refl _) _⟩
  · rw [if_neg h]
    rw [decide_eq_false h, Bool.not_false] at HA
    obtain ⟨j, t, rfl, hjt, ht⟩ := good_bits h
    rw [← ht]
    have hb := bits_less hjt
    clear h hjt ht
    have hz := heap_alloc_new w (.cells #[.int .u64 0, .int .u64 0] 32)
    have HN0 := Lib.hid ((New.refl w).alloc (.cells #[.int .u64 0, .int .u64 0] 32))
    have hsz : (w.alloc (.cells #[.int .u64 0, .int .u64 0] 32)).heap.size = w.heap.size + 1 := by simp
    obtain ⟨w0, hw0⟩ : ∃ w0, w.alloc (.cells #[.int .u64 0, .int .u64 0] 32) = w0 := ⟨_, rfl⟩
    rw [hw0] at HN0 hz hsz
    have HW0 := Lib.hid hw0
    have HZ := Lib.hid hz
    have HSZ := Lib.hid hsz
    have HN := Lib.hid (New.refl w0)
    clear hw0 hz hsz
    go_enter Tryd.func12, Tryd.ntmps12
    go_wp2_with fail
    rw [HW0.out]
    refine (HA.out _).mono ?_
    rintro e w9 ⟨rfl, hn⟩
    replace HN := Lib.hid (HN.out.trans hn)
    clear hn
    have hb := (HN.out.block _ (lt_of_block HZ.out)).trans HZ.out
    have k0 := cell_of_row _ _ 0 _ _ _ hb
    have k1 := cell_of_row _ _ 1 _ _ _ hb
    have kf : ∀ i, w9.frozen? ⟨w.heap.size, i, none⟩ = false := fun i => frozen_of_row _ _ _ _ _ hb
    clear hb
    go_wp2
    refine bodyPost_ret (by simp [results, Tryd.results12, go_sem, k0, k1]; try rfl) rfl ?_
    exact ⟨rfl, ((HN0.out.trans HN.out).setCell (Nat.le_refl _) _).setCell (Nat.le_refl _) _⟩
set_option maxHeartbeats 1000000 in
theorem rbound_m (k : Int) (w : World) : Calls Tryd.prog 13 #[.int .i64 k] w fun e w' => e = .returned (.agg #[.int .u64 0, .int .u64 (W64 (bndM k))]) ∧ New w w' := by
  unfold bndM
  by_cases h : k < 1 ∨ 64 < k
  · rw [if_pos h, show W64 0#64 = 0 by decide]
    have hz := heap_alloc_new w (.cells #[.int .u64 0, .int .u64 0] 32)
    have k0 := cell_of_row _ _ 0 _ _ _ hz
    have k1 := cell_of_row _ _ 1 _ _ _ hz
    have kf : ∀ i, (w.alloc (.cells #[.int .u64 0, .int .u64 0] 32)).frozen? ⟨w.heap.size, i, none⟩ = false := fun i => frozen_of_row _ _ _ _ _ hz
    have HN0 := Lib.hid ((New.refl w).alloc (.cells #[.int .u64 0, .int .u64 0] 32))
    clear hz
    by_cases h1 : k < 1
    · clear h
      go_enter Tryd.func13, Tryd.ntmps13
      go_wp2
      refine bodyPost_ret (by simp [results, Tryd.results13, go_sem, k0, k1]; try rfl) rfl ?_
      exact ⟨rfl, HN0.out⟩
    · have h2 : 64 < k := by omega
      clear h
      go_enter Tryd.func13, Tryd.ntmps13
      go_wp2
      refine bodyPost_ret (by simp [results, Tryd.results13, go_sem, k0, k1]; try rfl) rfl ?_
      exact ⟨rfl, HN0.out⟩
  · rw [if_neg h]
    obtain ⟨j, t, rfl, hjt, ht⟩ := good_bits h
    rw [← ht]
    have hb := bits_less hjt
    have hp := fun w' => calls_fresh (power_m t (by omega)) w'
    rw [show ((t : Nat) : Int) = 64 - (j : Int) by omega] at hp
    have HP := Lib.hid hp
    clear hp
    have h1 : ¬ (j : Int) < 1 := by omega
    have h2 : ¬ 64 < (j : Int) := by omega
    clear h hjt ht
    have hz := heap_alloc_new w (.cells #[.int .u64 0, .int .u64 0] 32)
    have HN0 := Lib.hid ((New.refl w).alloc (.cells #[.int .u64 0, .int .u64 0] 32))
    have hsz : (w.alloc (.cells #[.int .u64 0, .int .u64 0] 32)).heap.size = w.heap.size + 1 := by simp
    obtain ⟨w0, hw0⟩ : ∃ w0, w.alloc (.cells #[.int .u64 0, .int .u64 0] 32) = w0 := ⟨_, rfl⟩
    rw [hw0] at HN0 hz hsz
    have HW0 := Lib.hid hw0
    have HZ := Lib.hid hz
    have HSZ := Lib.hid hsz
    have HN := Lib.hid (New.refl w0)
    clear hw0 hz hsz
    go_enter Tryd.func13, Tryd.ntmps13
    go_wp2_with fail
    rw [HW0.out]
    refine (HP.out _).mono ?_
    rintro e w9 ⟨rfl, hn⟩
    replace HN := Lib.hid (HN.out.trans hn)
    clear hn
    have hb := (HN.out.block _ (lt_of_block HZ.out)).trans HZ.out
    have k0 := cell_of_row _ _ 0 _ _ _ hb
    have k1 := cell_of_row _ _ 1 _ _ _ hb
    have kf : ∀ i, w9.frozen? ⟨w.heap.size, i, none⟩ = false := fun i => frozen_of_row _ _ _ _ _ hb
    clear hb
    go_wp2
    refine bodyPost_ret (by simp [results, Tryd.results13, go_sem, k0, k1]; try rfl) rfl ?_
    exact ⟨rfl, ((HN0.out.trans HN.out).setCell (Nat.le_refl _) _).setCell (Nat.le_refl _) _⟩
theorem meets_bad (a x y : BitVec 64) (k : Int) (h : (chkM a k == 0) = false) (w : World) : Calls Tryd.prog 9 #[.int .u64 (W64 a), .int .i64 k, .int .u64 (W64 x), .int .u64 (W64 y)] w fun e w' => e = .returned (.tuple #[.bool false, .int .i64 (chkM a k)]) ∧ New w w' := by
  have HC := Lib.hid (check_m a k w)
  generalize chkM a k = c at *
  go_enter Tryd.func9, Tryd.ntmps9
  go_wp2_with fail
  refine HC.out.mono ?_
  rintro e w9 ⟨rfl, rfl⟩
  go_wp2
  go_returns
  exact ⟨rfl, New.refl _⟩
theorem meets_same (a x : BitVec 64) (j : Nat) (h : chkM a (j : Int) = 0) (w : World) : Calls Tryd.prog 9 #[.int .u64 (W64 a), .int .i64 (j : Int), .int .u64 (W64 x), .int .u64 (W64 x)] w fun e w' => e = .returned (.tuple #[.bool false, .int .i64 15]) ∧ New w w' := by
  have HC := Lib.hid (check_m a (j : Int) w)
  rw [h] at HC
  have hsm := same_m x x
  rw [show (x == x) = true by simp] at hsm
  have HSM := Lib.hid hsm
  clear hsm h
  have hx := heap_alloc_new w (.cells #[.int .u64 (W64 x), .int .u64 (W64 x)] 41)
  have HN := Lib.hid ((New.refl w).alloc (.cells #[.int .u64 (W64 x), .int .u64 (W64 x)] 41))
  obtain ⟨w0, hw0⟩ : ∃ w0, w.alloc (.cells #[.int .u64 (W64 x), .int .u64 (W64 x)] 41) = w0 := ⟨_, rfl⟩
  rw [hw0] at HN hx
  have HW0 := Lib.hid hw0
  have x0 := cell_of_row _ _ 0 _ _ _ hx
  have x1 := cell_of_row _ _ 1 _ _ _ hx
  clear hw0 hx
  go_enter Tryd.func9, Tryd.ntmps9
  go_wp2_with fail
  refine HC.out.mono ?_
  rintro e w9 ⟨rfl, rfl⟩
  go_wp2_with (rw [HW0.out])
  refine (HSM.out _).mono ?_
  rintro e w9 ⟨rfl, hn⟩
  replace HN := Lib.hid (HN.out.trans hn)
  clear hn x0 x1
  go_wp2
  go_returns
  exact ⟨rfl, HN.out⟩
theorem meets_ok (a x y : BitVec 64) (j t : Nat) (hjt : j + t = 64) (h : chkM a (j : Int) = 0) (hxy : ¬ x = y) (w : World) : Calls Tryd.prog 9 #[.int .u64 (W64 a), .int .i64 (j : Int), .int .u64 (W64 x), .int .u64 (W64 y)] w fun e w' => e = .returned (.tuple #[.bool ((a * x) >>> t == (a * y) >>> t), .int .i64 0]) ∧ New w w' := by
  have HC := Lib.hid (check_m a (j : Int) w)
  rw [h] at HC
  have hsm := same_m x y
  rw [beq_false_of_ne hxy] at hsm
  have HSM := Lib.hid hsm
  have HE1 := Lib.hid (fun w' => eval_ok a x j t hjt h w')
  have HE2 := Lib.hid (fun w' => eval_ok a y j t hjt h w')
  generalize (a * x) >>> t = u at *
  generalize (a * y) >>> t = v at *
  clear hsm h hxy hjt
  have hx := heap_alloc_new w (.cells #[.int .u64 (W64 x), .int .u64 (W64 y)] 41)
  have HN := Lib.hid ((New.refl w).alloc (.cells #[.int .u64 (W64 x), .int .u64 (W64 y)] 41))
  obtain ⟨w0, hw0⟩ : ∃ w0, w.alloc (.cells #[.int .u64 (W64 x), .int .u64 (W64 y)] 41) = w0 := ⟨_, rfl⟩
  rw [hw0] at HN hx
  have HW0 := Lib.hid hw0
  have x0 := cell_of_row _ _ 0 _ _ _ hx
  have x1 := cell_of_row _ _ 1 _ _ _ hx
  clear hw0 hx
  go_enter Tryd.func9, Tryd.ntmps9
  go_wp2_with fail
  refine HC.out.mono ?_
  rintro e w9 ⟨rfl, rfl⟩
  go_wp2_with (rw [HW0.out])
  refine (HSM.out _).mono ?_
  rintro e w9 ⟨rfl, hn⟩
  replace HN := Lib.hid (HN.out.trans hn)
  clear hn x0 x1
  go_wp2_with fail
  refine (HE1.out _).mono ?_
  rintro e w9 ⟨rfl, rfl⟩
  go_wp2_with fail
  refine (HE2.out _).mono ?_
  rintro e w9 ⟨rfl, rfl⟩
  go_wp2
  go_returns
  exact ⟨rfl, HN.out⟩
set_option maxHeartbeats 1000000 in
theorem awake_20 (w : World) (ht : TabD w) : Calls Tryd.prog 7 #[] w fun e w' => e = .returned (.bool true) ∧ New w w' := by
  have h1 := fun w' => calls_fresh (eval_ok 1#64 72057594037927936#64 8 56 rfl (by decide +kernel)) w'
  rw [show W64 ((1#64 * 72057594037927936#64) >>> 56) = 1 by decide +kernel, show W64 1#64 = 1 by decide, show W64 72057594037927936#64 = 72057594037927936 by decide] at h1
  have h2 := fun (w' : World) (hn : New w w') => rank_d 1#64 1#64 0#64 8 w' (ht.stay hn)
  rw [show (rkA 1#64 1#64 0#64 8).2 = true by decide +kernel, show W64 1#64 = 1 by decide, show W64 0#64 = 0 by decide] at h2
  have h3 := bound_m 60
  rw [show W64 (bndM 60) = 16 by decide +kernel] at h3
  have heq := fun w => equ128 w 0#64 16#64 0#64 16#64
  rw [show W64 16#64 = 16 by decide, show W64 0#64 = 0 by decide] at heq
  have H1 := Lib.hid h1
  have H2 := Lib.hid h2
  have H3 := Lib.hid h3
  have HN := Lib.hid (New.refl w)
  generalize (rkA 1#64 1#64 0#64 8).1 = r at *
  clear h1 h2 h3 ht
  go_enter Tryd.func7, Tryd.ntmps7
  go_wp2_with fail
  refine (H1.out _).mono ?_
  rintro e w9 ⟨rfl, hn⟩
  replace HN := Lib.hid (HN.out.trans hn)
  clear hn
  go_wp2_with fail
  refine (H2.out _ HN.out).mono ?_
  rintro e w9 ⟨rfl, hn⟩
  replace HN := Lib.hid (HN.out.trans hn)
  clear hn
  go_wp2_with fail
  refine (H3.out _).mono ?_
  rintro e w9 ⟨rfl, hn⟩
  replace HN := Lib.hid (HN.out.trans hn)
  clear hn
  go_wp2
  go_ret
  exact ⟨rfl, HN.out⟩
set_option maxHeartbeats 2000000 in
theorem MshiftRanks_walk (a0 : Int) (a1 : Int) (a2 : Int) (a3 : Int) (w0 : (Lit.int .u64 a0).wf = true) (w1 : (Lit.int .i64 a1).wf = true) (w2 : (Lit.int .u64 a2).wf = true) (w3 : (Lit.int .u64 a3).wf = true) (W : World) (hT : TabD W) :
    Calls Tryd.prog 4 #[.int .u64 a0, .int .i64 a1, .int .u64 a2, .int .u64 a3] W fun e w' => e = .returned (.bool true) ∧ Below W.heap.size W w' := by
  obtain ⟨a, rfl⟩ := ex64 a0 (by simp [Lit.wf, IntKind.min, IntKind.max, IntKind.signed, IntKind.bits] at w0; omega)
  obtain ⟨x, rfl⟩ := ex64 a2 (by simp [Lit.wf, IntKind.min, IntKind.max, IntKind.signed, IntKind.bits] at w2; omega)
  obtain ⟨y, rfl⟩ := ex64 a3 (by simp [Lit.wf, IntKind.min, IntKind.max, IntKind.signed, IntKind.bits] at w3; omega)
  clear w0 w1 w2 w3
  have HN := Lib.hid (New.refl W)
  have HA := Lib.hid (fun (_ : Unit) => awake_20 W hT)
  have HR := Lib.hid (fun (w' : World) (h : New W w') => rank_d a x y a1 w' (hT.stay h))
  have HS := Lib.hid (fun w' => calls_fresh (rrank_d a x y a1) w')
  generalize (rkA a x y a1).1 = r at *
  generalize (rkA a x y a1).2 = b at *
  clear hT
  go_enter Tryd.func4, Tryd.ntmps4
  go_wp2_with fail
  refine (HA.out ()).mono ?_
  rintro e w9 ⟨rfl, hn⟩
  replace HN := Lib.hid (HN.out.trans hn)
  clear hn
  go_wp2_with fail
  refine (HR.out _ HN.out).mono ?_
  rintro e w9 ⟨rfl, hn⟩
  replace HN := Lib.hid (HN.out.trans hn)
  clear hn
  go_wp2_with fail
  refine (HS.out _).mono ?_
  rintro e w9 ⟨rfl, hn⟩
  replace HN := Lib.hid (HN.out.trans hn)
  clear hn
  go_wp2
  go_ret
  exact ⟨rfl, HN.out⟩
set_option maxHeartbeats 2000000 in
theorem MshiftEvals_walk (a0 : Int) (a1 : Int) (a2 : Int) (a3 : Int) (w0 : (Lit.int .u64 a0).wf = true) (w1 : (Lit.int .i64 a1).wf = true) (w2 : (Lit.int .u64 a2).wf = true) (w3 : (Lit.int .u64 a3).wf = true) (W : World) (hT : TabD W) :
    Calls Tryd.prog 3 #[.int .u64 a0, .int .i64 a1, .int .u64 a2, .int .u64 a3] W fun e w' => e = .returned (.bool true) ∧ Below W.heap.size W w' := by
  obtain ⟨a, rfl⟩ := ex64 a0 (by simp [Lit.wf, IntKind.min, IntKind.max, IntKind.signed, IntKind.bits] at w0; omega)
  obtain ⟨x, rfl⟩ := ex64 a2 (by simp [Lit.wf, IntKind.min, IntKind.max, IntKind.signed, IntKind.bits] at w2; omega)
  obtain ⟨y, rfl⟩ := ex64 a3 (by simp [Lit.wf, IntKind.min, IntKind.max, IntKind.signed, IntKind.bits] at w3; omega)
  clear w0 w1 w2 w3
  have HN := Lib.hid (New.refl W)
  have HA := Lib.hid (fun (_ : Unit) => awake_20 W hT)
  have heq := equ128
  have H1 := Lib.hid (fun w' => calls_fresh (check_m a a1) w')
  have H2 := Lib.hid (fun w' => calls_fresh (rcheck_m a a1) w')
  have hb1 := bound_m a1
  have hb2 := rbound_m a1
  rw [show (0 : Int) = W64 0#64 by decide] at hb1 hb2
  have H3 := Lib.hid hb1
  have H4 := Lib.hid hb2
  generalize bndM a1 = b at *
  clear hb1 hb2 hT
  by_cases hc : ¬ chkM a a1 = 0
  · have hcb := beq_false_of_ne hc
    have HE := Lib.hid (fun w' => calls_fresh (eval_bad a x a1 hcb) w')
    have HM := Lib.hid (meets_bad a x y a1 hcb)
    generalize chkM a a1 = c at *
    go_enter Tryd.func3, Tryd.ntmps3
    go_wp2_with fail
    refine (HA.out ()).mono ?_
    rintro e w9 ⟨rfl, hn⟩
    replace HN := Lib.hid (HN.out.trans hn)
    clear hn
    go_wp2_with fail
    refine (HE.out _).mono ?_
    rintro e w9 ⟨rfl, hn⟩
    replace HN := Lib.hid (HN.out.trans hn)
    clear hn
    go_wp2_with fail
    refine (HM.out _).mono ?_
    rintro e w9 ⟨rfl, hn⟩
    replace HN := Lib.hid (HN.out.trans hn)
    clear hn
    go_wp2_with fail
    refine (H2.out _).mono ?_
    rintro e w9 ⟨rfl, hn⟩
    replace HN := Lib.hid (HN.out.trans hn)
    clear hn
    go_wp2_with fail
    refine (H1.out _).mono ?_
    rintro e w9 ⟨rfl, hn⟩
    replace HN := Lib.hid (HN.out.trans hn)
    clear hn
    go_wp2_with fail
    refine (H3.out _).mono ?_
    rintro e w9 ⟨rfl, hn⟩
    replace HN := Lib.hid (HN.out.trans hn)
    clear hn
    go_wp2_with fail
    refine (H4.out _).mono ?_
    rintro e w9 ⟨rfl, hn⟩
    replace HN := Lib.hid (HN.out.trans hn)
    clear hn
    go_wp2
    go_ret
    exact ⟨rfl, HN.out⟩
  rw [Classical.not_not] at hc
  obtain ⟨j, t, rfl, hj, hjt, hodd⟩ := chkM_good hc
  have HE := Lib.hid (fun w' => calls_fresh (eval_ok a x j t hjt hc) w')
  have HT1 := Lib.hid (fun w' => calls_fresh (top_m (a * x) j t hjt) w')
  have HT2 := Lib.hid (fun w' => calls_fresh (top_m (a * y) j t hjt) w')
  rw [hc] at H1 H2
  by_cases hxy : x = y
  · subst hxy
    have HM := Lib.hid (meets_same a x j hc)
    generalize (a * x) >>> t = u at *
    clear hc hj hjt hodd
    go_enter Tryd.func3, Tryd.ntmps3
    go_wp2_with fail
    refine (HA.out ()).mono ?_
    rintro e w9 ⟨rfl, hn⟩
    replace HN := Lib.hid (HN.out.trans hn)
    clear hn
    go_wp2_with fail
    refine (HE.out _).mono ?_
    rintro e w9 ⟨rfl, hn⟩
    replace HN := Lib.hid (HN.out.trans hn)
    clear hn
    go_wp2_with fail
    refine (HM.out _).mono ?_
    rintro e w9 ⟨rfl, hn⟩
    replace HN := Lib.hid (HN.out.trans hn)
    clear hn
    go_wp2_with fail
    refine (H2.out _).mono ?_
    rintro e w9 ⟨rfl, hn⟩
    replace HN := Lib.hid (HN.out.trans hn)
    clear hn
    go_wp2_with fail
    refine (H1.out _).mono ?_
    rintro e w9 ⟨rfl, hn⟩
    replace HN := Lib.hid (HN.out.trans hn)
    clear hn
    go_wp2_with fail
    refine (H3.out _).mono ?_
    rintro e w9 ⟨rfl, hn⟩
    replace HN := Lib.hid (HN.out.trans hn)
    clear hn
    go_wp2_with fail
    refine (H4.out _).mono ?_
    rintro e w9 ⟨rfl, hn⟩
    replace HN := Lib.hid (HN.out.trans hn)
    clear hn
    go_wp2_with fail
    refine (HT1.out _).mono ?_
    rintro e w9 ⟨rfl, hn⟩
    replace HN := Lib.hid (HN.out.trans hn)
    clear hn
    go_wp2
    go_ret
    exact ⟨rfl, HN.out⟩
  · have HM := Lib.hid (meets_ok a x y j t hjt hc hxy)
    have zz := beq_false_of_ne hxy
    generalize (a * x) >>> t = u at *
    generalize (a * y) >>> t = v at *
    clear hc hj hjt hodd hxy
    go_enter Tryd.func3, Tryd.ntmps3
    go_wp2_with fail
    refine (HA.out ()).mono ?_
    rintro e w9 ⟨rfl, hn⟩
    replace HN := Lib.hid (HN.out.trans hn)
    clear hn
    go_wp2_with fail
    refine (HE.out _).mono ?_
    rintro e w9 ⟨rfl, hn⟩
    replace HN := Lib.hid (HN.out.trans hn)
    clear hn
    go_wp2_with fail
    refine (HM.out _).mono ?_
    rintro e w9 ⟨rfl, hn⟩
    replace HN := Lib.hid (HN.out.trans hn)
    clear hn
    go_wp2_with fail
    refine (H2.out _).mono ?_
    rintro e w9 ⟨rfl, hn⟩
    replace HN := Lib.hid (HN.out.trans hn)
    clear hn
    go_wp2_with fail
    refine (H1.out _).mono ?_
    rintro e w9 ⟨rfl, hn⟩
    replace HN := Lib.hid (HN.out.trans hn)
    clear hn
    go_wp2_with fail
    refine (H3.out _).mono ?_
    rintro e w9 ⟨rfl, hn⟩
    replace HN := Lib.hid (HN.out.trans hn)
    clear hn
    go_wp2_with fail
    refine (H4.out _).mono ?_
    rintro e w9 ⟨rfl, hn⟩
    replace HN := Lib.hid (HN.out.trans hn)
    clear hn
    go_wp2_with fail
    refine (HT1.out _).mono ?_
    rintro e w9 ⟨rfl, hn⟩
    replace HN := Lib.hid (HN.out.trans hn)
    clear hn
    go_wp2_with fail
    refine (HT1.out _).mono ?_
    rintro e w9 ⟨rfl, hn⟩
    replace HN := Lib.hid (HN.out.trans hn)
    clear hn
    go_wp2_with fail
    refine (HT2.out _).mono ?_
    rintro e w9 ⟨rfl, hn⟩
    replace HN := Lib.hid (HN.out.trans hn)
    clear hn
    go_wp2
    go_ret
    exact ⟨rfl, HN.out⟩
end Go.Proofs.YtobmgigmoppkkaaDoor
