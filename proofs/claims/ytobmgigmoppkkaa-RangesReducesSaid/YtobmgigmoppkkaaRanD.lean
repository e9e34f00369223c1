/- Contracts of layer 26: Rank, Unrank; what numbers, ranks and ranges have to do with each other. -/
import Derived.Test.YtobmgigmoppkkaaRanC
import Derived.BigQuiet
namespace Go.Bv
open Go Go.RowKit
/-- the rank of a number -/
def rnkR (x m : BitVec 64) (k : Nat) : BitVec 64 := loN (x.toNat - frst (redR x m k) m k)
/-- the number of a rank -/
def numR (v r m : BitVec 64) (k : Nat) : BitVec 64 := loN (frst v m k) + r
theorem ceil_least (n x y : Nat) (hn : 0 < n) : (y + (n - 1)) / n ≤ x ↔ y ≤ x * n := by
  rw [← Nat.lt_succ_iff, Nat.div_lt_iff_lt_mul hn, Nat.succ_mul]
  omega
theorem frst_le (v m : BitVec 64) (k x : Nat) (hm : ¬ m = 0#64) : frst v m k ≤ x ↔ v.toNat * 2 ^ k ≤ x * m.toNat := ceil_least m.toNat x _ (pos_of_ne hm)
theorem red_quo (x m : BitVec 64) (k : Nat) (hx : x.toNat < 2 ^ k) (hm : ¬ m = 0#64) : (redR x m k).toNat = x.toNat * m.toNat / 2 ^ k ∧ x.toNat * m.toNat / 2 ^ k < m.toNat := by
  have hp := pos_of_ne hm
  have h : x.toNat * m.toNat / 2 ^ k < m.toNat := Nat.div_lt_of_lt_mul (Nat.mul_lt_mul_of_pos_right hx hp)
  refine ⟨?_, h⟩
  unfold redR loN
  rw [BitVec.toNat_ofNat]
  exact Nat.mod_eq_of_lt (Nat.lt_trans h m.isLt)
/-- a number lies among those that are brought to what it is brought to -/
theorem red_between (x m : BitVec 64) (k : Nat) (hx : x.toNat < 2 ^ k) (hm : ¬ m = 0#64) : frst (redR x m k) m k ≤ x.toNat ∧ x.toNat < frst (redR x m k + 1#64) m k ∧ (redR x m k).toNat < m.toNat := by
  obtain ⟨h1, h2⟩ := red_quo x m k hx hm
  have h3 := Nat.div_mul_le_self (x.toNat * m.toNat) (2 ^ k)
  have h4 := Nat.lt_div_mul_add (a := x.toNat * m.toNat) (Nat.two_pow_pos k)
  refine ⟨(frst_le _ _ _ _ hm).2 (by rw [h1]; exact h3), ?_, by omega⟩
  rw [← Nat.not_le, frst_le _ _ _ _ hm, next_nat (redR x m k) m (by omega), h1, Nat.add_mul, Nat.one_mul]
  omega
/-- the numbers of a range's number -/
theorem num_all (v r m : BitVec 64) (k : Nat) (hk : k ≤ 64) (hm : ¬ m = 0#64) (hv : v.toNat < m.toNat) (hr : r.toNat < cntR v m k) : (numR v r m k).toNat = frst v m k + r.toNat ∧ (numR v r m k).toNat < 2 ^ k ∧ redR (numR v r m k) m k = v ∧ rnkR (numR v r m k) m k = r := by
  have hp := pos_of_ne hm
  unfold cntR at hr
  have hn := next_nat v m hv
  have a : frst v m k + r.toNat < frst (v + 1#64) m k := by omega
  have b : frst (v + 1#64) m k ≤ 2 ^ k := by
    rw [frst_le _ _ _ _ hm, hn, Nat.mul_comm (2 ^ k)]
    exact Nat.mul_le_mul_right _ (by omega)
  have hpk := pow_le hk
  have e : (numR v r m k).toNat = frst v m k + r.toNat := by
    unfold numR loN
    rw [BitVec.toNat_add, BitVec.toNat_ofNat]
    omega
  have hlt : (numR v r m k).toNat < 2 ^ k := by omega
  have hred : redR (numR v r m k) m k = v := by
    apply BitVec.eq_of_toNat_eq
    rw [(red_quo _ _ _ hlt hm).1, e]
    have c1 := (frst_le v m k (frst v m k + r.toNat) hm).1 (by omega)
    have c2 := mt (frst_le (v + 1#64) m k (frst v m k + r.toNat) hm).2 (by omega)
    rw [hn, Nat.add_mul, Nat.one_mul] at c2
    exact Nat.div_eq_of_lt_le c1 (by rw [show (v.toNat + 1) * 2 ^ k = v.toNat * 2 ^ k + 2 ^ k from Nat.succ_mul _ _]; omega)
  refine ⟨e, hlt, hred, ?_⟩
  unfold rnkR
  rw [hred, e, Nat.add_sub_cancel_left]
  exact lo_word r
theorem num_back (x m : BitVec 64) (k : Nat) (hk : k ≤ 64) (hx : x.toNat < 2 ^ k) (hm : ¬ m = 0#64) : (rnkR x m k).toNat = x.toNat - frst (redR x m k) m k ∧ (rnkR x m k).toNat < cntR (redR x m k) m k ∧ numR (redR x m k) (rnkR x m k) m k = x := by
  obtain ⟨a, b, c⟩ := red_between x m k hx hm
  have hxl := x.isLt
  have e : (rnkR x m k).toNat = x.toNat - frst (redR x m k) m k := by
    unfold rnkR loN
    rw [BitVec.toNat_ofNat]
    omega
  have hr : (rnkR x m k).toNat < cntR (redR x m k) m k := by unfold cntR; omega
  refine ⟨e, hr, ?_⟩
  apply BitVec.eq_of_toNat_eq
  rw [(num_all _ _ _ _ hk hm c hr).1, e]
  omega
end Go.Bv
namespace Go.Proofs.Ytobmgigmoppkkaa
open Go.RowKit Go.Bv
set_option linter.unusedVariables false
theorem rank_bad (x m : BitVec 64) (k c : Int) (h : (c == 0) = false) (hb : ∀ w, Calls Try.prog 21 #[.int .u64 (W64 x), .int .i64 k, .int .u64 (W64 m)] w fun e w' => e = .returned (.tuple #[.int .u64 0, .int .i64 c]) ∧ New w w') (w : World) : Calls Try.prog 33 #[.int .u64 (W64 x), .int .i64 k, .int .u64 (W64 m)] w fun e w' => e = .returned (.tuple #[.int .u64 0, .int .u64 0, .int .i64 c]) ∧ New w w' := by
  have HB := Lib.hid hb
  have HN := Lib.hid (New.refl w)
  clear hb
  go_enter Try.func33, Try.ntmps33
  go_wp2_with fail
  refine (HB.out _).mono ?_
  rintro e w9 ⟨rfl, hn⟩
  replace HN := Lib.hid (HN.out.trans hn)
  clear hn
  go_wp2
  go_returns
  exact ⟨rfl, HN.out⟩
set_option maxHeartbeats 1000000 in
theorem rank_ok (x m : BitVec 64) (k : Nat) (hk : k ≤ 64) (hm : ¬ m = 0#64) (h : chkR k m = 0) (hx : x.toNat < 2 ^ k) (w : World) : Calls Try.prog 33 #[.int .u64 (W64 x), .int .i64 (k : Int), .int .u64 (W64 m)] w fun e w' => e = .returned (.tuple #[.int .u64 (W64 (redR x m k)), .int .u64 (W64 (rnkR x m k)), .int .i64 0]) ∧ New w w' := by
  have HR := Lib.hid (reduce_r x m k hk h hx)
  obtain ⟨a, b, c⟩ := red_between x m k hx hm
  have hs := sub_le x.toNat (frst (redR x m k) m k) (by have := x.isLt; omega) a
  rw [hi_word, lo_word, show loN (x.toNat - frst (redR x m k) m k) = rnkR x m k from rfl] at hs
  have HS := Lib.hid hs
  have HF := Lib.hid (fun p q w hp hq => first_r (redR x m k) m k hk hm p q w hp hq)
  have HN := Lib.hid (New.refl w)
  generalize rnkR x m k = r at *
  generalize hiN (x.toNat - frst (redR x m k) m k) = r1 at *
  generalize decide (x.toNat < frst (redR x m k) m k) = o at *
  generalize frst (redR x m k) m k = B at *
  generalize redR x m k = v at *
  clear a b c hs h hk hm hx
  go_enter Try.func33, Try.ntmps33
  go_wp2_with fail
  refine (HR.out _).mono ?_
  rintro e w9 ⟨rfl, hn⟩
  replace HN := Lib.hid (HN.out.trans hn)
  clear hn
  go_wp2_with fail
  refine (firsts_r _ _ _).mono ?_
  rintro e w9 ⟨p, q, rfl, hp, hq, hn⟩
  replace HN := Lib.hid (HN.out.trans hn)
  have HFF := Lib.hid (HF.out p q w9 hp hq)
  clear hp hq hn
  go_wp2_with fail
  refine HFF.out.mono ?_
  rintro e w9 ⟨rfl, hn⟩
  replace HN := Lib.hid (HN.out.trans hn)
  clear hn
  go_wp2_with fail
  refine (HS.out _).mono ?_
  rintro e w9 ⟨rfl, hn⟩
  replace HN := Lib.hid (HN.out.trans hn)
  clear hn
  have hx := heap_alloc_new w9 (.cells #[.int .u64 (W64 r1), .int .u64 (W64 r)] 24)
  have hn2 := (New.refl w9).alloc (.cells #[.int .u64 (W64 r1), .int .u64 (W64 r)] 24)
  obtain ⟨wb1, hw2⟩ : ∃ w2, w9.alloc (.cells #[.int .u64 (W64 r1), .int .u64 (W64 r)] 24) = w2 := ⟨_, rfl⟩
  rw [hw2] at hx hn2
  obtain ⟨q1, hq⟩ : ∃ q, w9.heap.size = q := ⟨_, rfl⟩
  rw [hq] at hx
  have HX1 := Lib.hid hx
  replace HN := Lib.hid (HN.out.trans hn2)
  have HM1 := Lib.hid hn2
  have HE1 := Lib.hid (show w9.alloc (.cells #[.int .u64 (W64 r1), .int .u64 (W64 r)] 24) = wb1 ∧ w9.heap.size = q1 from ⟨hw2, hq⟩)
  clear hx hn2 hw2 hq
  have x0 := cell_of_row _ _ 0 _ _ _ HX1.out
  have x1 := cell_of_row _ _ 1 _ _ _ HX1.out
  go_wp2_with (rw [HE1.out.1, HE1.out.2])
  go_quiet (fail)
  go_wp2
  go_returns
  exact ⟨rfl, HN.out.drewN nq⟩
theorem unrank_bad (v r m : BitVec 64) (k c : Int) (h : (c == 0) = false) (hb : ∀ w, Calls Try.prog 27 #[.int .u64 (W64 v), .int .i64 k, .int .u64 (W64 m)] w fun e w' => e = .returned (.tuple #[.agg #[.int .u64 0, .int .u64 0], .int .i64 c]) ∧ New w w') (w : World) : Calls Try.prog 34 #[.int .u64 (W64 v), .int .u64 (W64 r), .int .i64 k, .int .u64 (W64 m)] w fun e w' => e = .returned (.tuple #[.int .u64 0, .int .i64 c]) ∧ New w w' := by
  have HB := Lib.hid hb
  have HN := Lib.hid (New.refl w)
  clear hb
  go_enter Try.func34, Try.ntmps34
  go_wp2_with fail
  refine (HB.out _).mono ?_
  rintro e w9 ⟨rfl, hn⟩
  replace HN := Lib.hid (HN.out.trans hn)
  clear hn
  go_wp2
  go_returns
  exact ⟨rfl, HN.out.alloc _⟩
theorem cmpR (r : BitVec 64) (D : Nat) (hD : D < 2 ^ 128) : ∃ c : Int, decide (0 ≤ c) = (!decide (r.toNat < D)) ∧ decide (c < 0) = decide (r.toNat < D) ∧ ∀ w : World, Calls Try.prog 35 #[.agg #[.int .u64 0, .int .u64 (W64 r)], .agg #[.int .u64 (W64 (hiN (D))), .int .u64 (W64 (loN (D)))]] w fun e w' => e = .returned (.int .i64 c) ∧ New w w' := by
  have h := cmp_n r.toNat D (by have := r.isLt; omega) hD
  rw [hi_word, lo_word] at h
  refine ⟨_, ?_, ?_, h⟩
  · by_cases h1 : r.toNat < D
    · rw [if_pos h1, decide_eq_true h1]; rfl
    · rw [if_neg h1, decide_eq_false h1]; split <;> rfl
  · by_cases h1 : r.toNat < D
    · rw [if_pos h1, decide_eq_true h1]; rfl
    · rw [if_neg h1, decide_eq_false h1]; split <;> rfl
theorem cnt_lt (v m : BitVec 64) (k : Nat) (hk : k ≤ 64) (hm : ¬ m = 0#64) : cntR v m k < 2 ^ 128 := by
  have := frst_lt (v + 1#64) m k hk hm
  unfold cntR; omega
set_option maxHeartbeats 1000000 in
theorem unrank_no (v r m : BitVec 64) (k : Nat) (hk : k ≤ 64) (hm : ¬ m = 0#64) (h : chkR k m = 0) (hv : v.toNat < m.toNat) (hr : ¬ r.toNat < cntR v m k) (w : World) : Calls Try.prog 34 #[.int .u64 (W64 v), .int .u64 (W64 r), .int .i64 (k : Int), .int .u64 (W64 m)] w fun e w' => e = .returned (.tuple #[.int .u64 0, .int .i64 2]) ∧ New w w' := by
  have HB := Lib.hid (count_ok v m k hk hm h hv)
  obtain ⟨c, hc, _, h2⟩ := cmpR r (cntR v m k) (cnt_lt v m k hk hm)
  rw [decide_eq_false hr] at hc
  replace hc : decide (0 ≤ c) = true := hc
  have HC := Lib.hid h2
  have HN := Lib.hid (New.refl w)
  generalize hiN (cntR v m k) = d1 at *
  generalize loN (cntR v m k) = d0 at *
  clear h2 h hk hm hv hr
  go_enter Try.func34, Try.ntmps34
  go_wp2_with fail
  refine (HB.out _).mono ?_
  rintro e w9 ⟨rfl, hn⟩
  replace HN := Lib.hid (HN.out.trans hn)
  clear hn
  have hx := heap_alloc_new w9 (.cells #[.int .u64 (W64 d1), .int .u64 (W64 d0)] 24)
  have hn2 := (New.refl w9).alloc (.cells #[.int .u64 (W64 d1), .int .u64 (W64 d0)] 24)
  obtain ⟨wb1, hw2⟩ : ∃ w2, w9.alloc (.cells #[.int .u64 (W64 d1), .int .u64 (W64 d0)] 24) = w2 := ⟨_, rfl⟩
  rw [hw2] at hx hn2
  obtain ⟨q1, hq⟩ : ∃ q, w9.heap.size = q := ⟨_, rfl⟩
  rw [hq] at hx
  have HX1 := Lib.hid hx
  replace HN := Lib.hid (HN.out.trans hn2)
  have HM1 := Lib.hid hn2
  have HE1 := Lib.hid (show w9.alloc (.cells #[.int .u64 (W64 d1), .int .u64 (W64 d0)] 24) = wb1 ∧ w9.heap.size = q1 from ⟨hw2, hq⟩)
  clear hx hn2 hw2 hq
  have x0 := cell_of_row _ _ 0 _ _ _ HX1.out
  have x1 := cell_of_row _ _ 1 _ _ _ HX1.out
  go_wp2_with (rw [HE1.out.1, HE1.out.2])
  refine (HC.out _).mono ?_
  rintro e w9 ⟨rfl, hn⟩
  replace HN := Lib.hid (HN.out.trans hn)
  clear hn x0 x1
  go_wp2
  go_returns
  exact ⟨rfl, HN.out⟩
set_option maxHeartbeats 1000000 in
theorem unrank_ok (v r m : BitVec 64) (k : Nat) (hk : k ≤ 64) (hm : ¬ m = 0#64) (h : chkR k m = 0) (hv : v.toNat < m.toNat) (hr : r.toNat < cntR v m k) (w : World) : Calls Try.prog 34 #[.int .u64 (W64 v), .int .u64 (W64 r), .int .i64 (k : Int), .int .u64 (W64 m)] w fun e w' => e = .returned (.tuple #[.int .u64 (W64 (numR v r m k)), .int .i64 0]) ∧ New w w' := by
  have HB := Lib.hid (count_ok v m k hk hm h hv)
  obtain ⟨c, hc, _, h2⟩ := cmpR r (cntR v m k) (cnt_lt v m k hk hm)
  rw [decide_eq_true hr] at hc
  replace hc : decide (0 ≤ c) = false := hc
  have HC := Lib.hid h2
  have HF := Lib.hid (fun p q w hp hq => first_r v m k hk hm p q w hp hq)
  have HN := Lib.hid (New.refl w)
  unfold numR
  generalize hiN (cntR v m k) = d1 at *
  generalize loN (cntR v m k) = d0 at *
  generalize hiN (frst v m k) = f1 at *
  generalize loN (frst v m k) = f0 at *
  have hfd : ∀ w, (Instr.field 24 (.agg #[.int .u64 (W64 f1), .int .u64 (W64 f0)]) 1).run Try.prog w = .ok (.int .u64 (W64 f0)) w := fun w => by kernel_rfl
  clear h2 h hk hm hv hr
  go_enter Try.func34, Try.ntmps34
  go_wp2_with fail
  refine (HB.out _).mono ?_
  rintro e w9 ⟨rfl, hn⟩
  replace HN := Lib.hid (HN.out.trans hn)
  clear hn
  have hx := heap_alloc_new w9 (.cells #[.int .u64 (W64 d1), .int .u64 (W64 d0)] 24)
  have hn2 := (New.refl w9).alloc (.cells #[.int .u64 (W64 d1), .int .u64 (W64 d0)] 24)
  obtain ⟨wb1, hw2⟩ : ∃ w2, w9.alloc (.cells #[.int .u64 (W64 d1), .int .u64 (W64 d0)] 24) = w2 := ⟨_, rfl⟩
  rw [hw2] at hx hn2
  obtain ⟨q1, hq⟩ : ∃ q, w9.heap.size = q := ⟨_, rfl⟩
  rw [hq] at hx
  have HX1 := Lib.hid hx
  replace HN := Lib.hid (HN.out.trans hn2)
  have HM1 := Lib.hid hn2
  have HE1 := Lib.hid (show w9.alloc (.cells #[.int .u64 (W64 d1), .int .u64 (W64 d0)] 24) = wb1 ∧ w9.heap.size = q1 from ⟨hw2, hq⟩)
  clear hx hn2 hw2 hq
  have x0 := cell_of_row _ _ 0 _ _ _ HX1.out
  have x1 := cell_of_row _ _ 1 _ _ _ HX1.out
  go_wp2_with (rw [HE1.out.1, HE1.out.2])
  refine (HC.out _).mono ?_
  rintro e w9 ⟨rfl, hn⟩
  replace HN := Lib.hid (HN.out.trans hn)
  clear hn x0 x1
  go_wp2_with fail
  refine (firsts_r _ _ _).mono ?_
  rintro e w9 ⟨p, q, rfl, hp, hq, hn⟩
  replace HN := Lib.hid (HN.out.trans hn)
  have HFF := Lib.hid (HF.out p q w9 hp hq)
  clear hp hq hn
  go_wp2_with fail
  refine HFF.out.mono ?_
  rintro e w9 ⟨rfl, hn⟩
  replace HN := Lib.hid (HN.out.trans hn)
  clear hn
  go_wp2
  go_returns
  exact ⟨rfl, HN.out⟩
end Go.Proofs.Ytobmgigmoppkkaa
