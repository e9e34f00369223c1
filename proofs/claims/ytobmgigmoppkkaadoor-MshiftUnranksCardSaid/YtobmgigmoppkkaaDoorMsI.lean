/- Layer 20: the mathematics of close multipliers; no program in sight. -/
import Derived.Test.YtobmgigmoppkkaaDoorMsH
namespace Go.Bv
open Go Go.RowKit
theorem pow_split {s : Nat} (hs : s ≤ 64) : 2 ^ (64 - s) * 2 ^ s = 2 ^ 64 := by rw [← Nat.pow_add]; congr 1; omega
theorem shl_low (m : BitVec 64) {s : Nat} (hs : s ≤ 64) : (m <<< s).toNat = m.toNat % 2 ^ (64 - s) * 2 ^ s := by
  rw [shl_nat, ← pow_split hs, Nat.mul_mod_mul_right]
theorem low_nat (m : BitVec 64) {s : Nat} (hs : s ≤ 64) : (lowM m s).toNat = m.toNat % 2 ^ (64 - s) := by
  unfold lowM
  rw [shr_nat, shl_low m hs, Nat.mul_div_cancel _ (Nat.two_pow_pos s)]
theorem low_lt (m : BitVec 64) {s : Nat} (hs : s ≤ 64) : (lowM m s).toNat < 2 ^ (64 - s) := by
  rw [low_nat m hs]; exact Nat.mod_lt _ (Nat.two_pow_pos _)
theorem low_sum (m : BitVec 64) {s : Nat} (hs : s ≤ 64) (h0 : (lowM m s).toNat ≠ 0) : (lowM (-m) s).toNat + (lowM m s).toNat = 2 ^ (64 - s) := by
  rw [low_nat _ hs, low_nat m hs] at *
  have hm := m.isLt
  have e : (-m).toNat = 2 ^ 64 - m.toNat := by
    rw [BitVec.toNat_neg]
    refine Nat.mod_eq_of_lt ?_
    have : m.toNat ≠ 0 := fun e => h0 (by rw [e, Nat.zero_mod])
    omega
  rw [e]
  have hp := pow_split hs
  have hP := Nat.two_pow_pos (64 - s)
  generalize 2 ^ (64 - s) = P at *
  generalize 2 ^ s = S at *
  have h1 := Nat.div_add_mod m.toNat P
  have h2 := Nat.mod_lt m.toNat hP
  generalize m.toNat / P = k at *
  generalize m.toNat % P = u at *
  have hkS : k < S := by
    rcases Nat.lt_or_ge k S with h | h
    · exact h
    · exfalso
      have := Nat.mul_le_mul_left P h
      omega
  obtain ⟨c, hc⟩ : ∃ c, S = k + 1 + c := ⟨S - k - 1, by omega⟩
  have e2 : 2 ^ 64 - m.toNat = P * c + (P - u) := by
    rw [← hp, hc, Nat.mul_add, Nat.mul_add, Nat.mul_one, ← h1]
    omega
  rw [e2, Nat.mul_add_mod, Nat.mod_eq_of_lt (by omega)]
  omega
theorem low_odd (m : BitVec 64) {s : Nat} (hs : s < 64) : (lowM m s).toNat % 2 = m.toNat % 2 := by
  rw [low_nat m (by omega)]
  exact Nat.mod_mod_of_dvd _ ⟨2 ^ (63 - s), by rw [← Nat.pow_succ']; congr 1; omega⟩
theorem join_nat (tp q : BitVec 64) {s : Nat} (hs : s ≤ 64) (ht : tp.toNat < 2 ^ s) (hq : q.toNat < 2 ^ (64 - s)) : (tp <<< (64 - s) ||| q).toNat = 2 ^ (64 - s) * tp.toNat + q.toNat := by
  have h1 : tp.toNat * 2 ^ (64 - s) < 2 ^ 64 := by
    rw [← pow_split hs, Nat.mul_comm]
    exact (Nat.mul_lt_mul_left (Nat.two_pow_pos _)).2 ht
  rw [BitVec.toNat_or, shl_nat, Nat.mod_eq_of_lt h1, Nat.mul_comm, ← Nat.two_pow_add_eq_or_of_lt hq]
theorem join_back (m : BitVec 64) {s : Nat} (hs : s ≤ 64) : (m >>> (64 - s)) <<< (64 - s) ||| lowM m s = m := by
  have h1 : (m >>> (64 - s)).toNat < 2 ^ s := by
    rw [shr_nat]
    refine Nat.div_lt_of_lt_mul ?_
    rw [pow_split hs]; exact m.isLt
  apply BitVec.eq_of_toNat_eq
  rw [join_nat _ _ hs h1 (low_lt m hs), shr_nat, low_nat m hs]
  exact Nat.div_add_mod _ _
theorem high_lt (m : BitVec 64) {s : Nat} (hs : s ≤ 64) : (m >>> (64 - s)).toNat < 2 ^ s := by
  rw [shr_nat]
  refine Nat.div_lt_of_lt_mul ?_
  rw [pow_split hs]; exact m.isLt
theorem and_one (q : BitVec 64) : (q &&& 1#64 == 1#64) = decide (q.toNat % 2 = 1) := by
  have h : (q &&& 1#64).toNat = q.toNat % 2 := by rw [BitVec.toNat_and]; exact Nat.and_two_pow_sub_one_eq_mod _ 1
  rw [Bool.eq_iff_iff, beq_iff_eq, decide_eq_true_eq]
  constructor
  · intro e; rw [← h, e]; rfl
  · intro e; apply BitVec.eq_of_toNat_eq; rw [h, e]; rfl
theorem or_one_nat (q : BitVec 64) : (q ||| 1#64).toNat = 2 * (q.toNat / 2) + 1 := by
  rw [BitVec.toNat_or]
  show q.toNat ||| 1 = _
  have h : ∀ h, 2 * h ||| 1 = 2 * h + 1 := fun h => (Nat.two_pow_add_eq_or_of_lt (i := 1) (b := 1) (by decide) h).symm
  rcases Nat.mod_two_eq_zero_or_one q.toNat with h0 | h0
  · have e : q.toNat = 2 * (q.toNat / 2) := by omega
    conv => lhs; lhs; rw [e]
    exact h _
  · have e : q.toNat = 2 * (q.toNat / 2) + 1 := by omega
    conv => lhs; lhs; rw [e, ← h]
    rw [Nat.or_assoc, Nat.or_self, h]
theorem rank_nat (q tp : BitVec 64) {s : Nat} (hs : s ≤ 64) (hq : q.toNat < 2 ^ (64 - s)) (ht : tp.toNat < 2 ^ s) : (q <<< s + tp).toNat = q.toNat * 2 ^ s + tp.toNat := by
  have h := pow_split hs
  have h1 : (q.toNat + 1) * 2 ^ s ≤ 2 ^ (64 - s) * 2 ^ s := Nat.mul_le_mul_right _ hq
  rw [Nat.add_mul, Nat.one_mul] at h1
  rw [BitVec.toNat_add, shl_nat, Nat.mod_eq_of_lt (by omega), Nat.mod_eq_of_lt (by omega)]
theorem rank_rest (q tp : BitVec 64) {s : Nat} (hs : s ≤ 64) (hq : q.toNat < 2 ^ (64 - s)) (ht : tp.toNat < 2 ^ s) : (q <<< s + tp) >>> s = q ∧ q <<< s + tp - ((q <<< s + tp) >>> s) <<< s = tp := by
  have e : (q <<< s + tp) >>> s = q := by
    apply BitVec.eq_of_toNat_eq
    rw [shr_nat, rank_nat q tp hs hq ht, Nat.mul_comm, Nat.mul_add_div (Nat.two_pow_pos s), Nat.div_eq_of_lt ht, Nat.add_zero]
  refine ⟨e, ?_⟩
  rw [e, BitVec.add_comm, BitVec.add_sub_cancel]
theorem rest_back (r : BitVec 64) {s : Nat} (hs : s < 64) : (r >>> s) <<< s + (r - (r >>> s) <<< s) = r ∧ (r - (r >>> s) <<< s).toNat < 2 ^ s ∧ (r >>> s).toNat < 2 ^ (64 - s) := by
  have hr := r.isLt
  have h1 : (r >>> s).toNat < 2 ^ (64 - s) := by
    rw [shr_nat]
    refine Nat.div_lt_of_lt_mul ?_
    rw [Nat.mul_comm, pow_split (by omega)]; exact hr
  have h2 : ((r >>> s) <<< s).toNat = r.toNat / 2 ^ s * 2 ^ s := by
    rw [shl_low _ (by omega), Nat.mod_eq_of_lt h1, shr_nat]
  have h3 := Nat.div_add_mod r.toNat (2 ^ s)
  have h4 := Nat.mod_lt r.toNat (Nat.two_pow_pos s)
  have h5 : r.toNat / 2 ^ s * 2 ^ s = 2 ^ s * (r.toNat / 2 ^ s) := Nat.mul_comm _ _
  refine ⟨by rw [BitVec.add_comm, BitVec.sub_add_cancel], ?_, h1⟩
  rw [BitVec.toNat_sub_of_le (by rw [BitVec.le_def, h2]; omega), h2]
  omega
theorem tz_odd {z : BitVec 64} (h : ¬ z = 0#64) : (z >>> tzN z).toNat % 2 = 1 := by
  have := tz_there h
  rw [mod_two, decide_eq_false_iff_not] at this
  omega
theorem mul_odd2 {a d : BitVec 64} (ha : a.toNat % 2 = 1) (hd : d.toNat % 2 = 1) : (a * d).toNat % 2 = 1 := by
  rw [BitVec.toNat_mul, Nat.mod_mod_of_dvd _ (show 2 ∣ 2 ^ 64 from ⟨2 ^ 63, rfl⟩), Nat.mul_mod, ha, hd]
theorem odd_of_and {a : BitVec 64} (h : ¬ a &&& 1#64 = 0#64) : a.toNat % 2 = 1 := by
  rcases Nat.mod_two_eq_zero_or_one a.toNat with h0 | h0
  · exfalso
    apply h
    apply BitVec.eq_of_toNat_eq
    rw [BitVec.toNat_and]
    exact (Nat.and_two_pow_sub_one_eq_mod _ 1).trans h0
  · exact h0
theorem and_of_odd {a : BitVec 64} (h : a.toNat % 2 = 1) : ¬ a &&& 1#64 = 0#64 := fun e => by
  have := congrArg BitVec.toNat e
  rw [BitVec.toNat_and, show (1#64).toNat = 2 ^ 1 - 1 from rfl, Nat.and_two_pow_sub_one_eq_mod, Nat.pow_one, h] at this
  exact absurd this (by decide)
theorem lim_nat {t s : Nat} (h : ¬ t ≤ s) (ht : t < 64) : (1#64 <<< (t - s)).toNat = 2 ^ (t - s) := one_shl (by omega)
theorem lt_words {p q : BitVec 64} : W64 p < W64 q ↔ p.toNat < q.toNat := by unfold W64; omega
/-- two keys that a multiplier lets meet: it is close -/
theorem close_of_meet (a x y : BitVec 64) (t : Nat) (ha : a.toNat % 2 = 1) (hxy : ¬ x = y) (hm : (a * x) >>> t = (a * y) >>> t) :
    ¬ t ≤ tzN (x - y) ∧ ((lowM (a * ((x - y) >>> tzN (x - y))) (tzN (x - y))).toNat < 2 ^ (t - tzN (x - y)) ∨ (lowM (-(a * ((x - y) >>> tzN (x - y)))) (tzN (x - y))).toNat < 2 ^ (t - tzN (x - y))) := by
  have hz := diff_ne hxy
  have hs := tz_lt hz
  have hb := tz_back hz
  have hd := tz_odd hz
  have hmo := mul_odd2 ha hd
  have e1 : a * x - a * y = (a * ((x - y) >>> tzN (x - y))) <<< tzN (x - y) := by
    rw [← BitVec.mul_sub]
    conv => lhs; rw [← hb, ← mul_pshl, ← BitVec.mul_assoc, mul_pshl]
  have e2 : a * y - a * x = (-(a * ((x - y) >>> tzN (x - y)))) <<< tzN (x - y) := by
    rw [← mul_pshl, BitVec.neg_mul, mul_pshl, ← e1, BitVec.neg_sub, BitVec.sub_eq_add_neg, BitVec.add_comm]
  generalize (x - y) >>> tzN (x - y) = d at *
  generalize tzN (x - y) = s at *
  have n1 := shl_low (a * d) (show s ≤ 64 by omega)
  have n2 := shl_low (-(a * d)) (show s ≤ 64 by omega)
  rw [← low_nat _ (show s ≤ 64 by omega)] at n1 n2
  have o1 := low_odd (a * d) hs
  have o2 := low_sum (a * d) (show s ≤ 64 by omega) (by omega)
  rw [← e1] at n1
  rw [← e2] at n2
  have hmn := congrArg BitVec.toNat hm
  rw [shr_nat, shr_nat] at hmn
  have hA := Nat.div_add_mod (a * x).toNat (2 ^ t)
  have hB := Nat.div_add_mod (a * y).toNat (2 ^ t)
  have hA2 := Nat.mod_lt (a * x).toNat (Nat.two_pow_pos t)
  have hB2 := Nat.mod_lt (a * y).toNat (Nat.two_pow_pos t)
  rw [hmn] at hA
  generalize 2 ^ t * ((a * y).toNat / 2 ^ t) = K at hA hB
  generalize (a * x).toNat % 2 ^ t = A2 at hA hA2
  generalize (a * y).toNat % 2 ^ t = B2 at hB hB2
  have key : ∀ Q : Nat, 1 ≤ Q → Q * 2 ^ s < 2 ^ t → ¬ t ≤ s ∧ Q < 2 ^ (t - s) := by
    intro Q h1 h2
    have h3 : 2 ^ s < 2 ^ t := Nat.lt_of_le_of_lt (Nat.le_mul_of_pos_left _ h1) h2
    have h4 : ¬ t ≤ s := fun h => by have := Nat.pow_le_pow_right (show 0 < 2 by decide) h; omega
    refine ⟨h4, ?_⟩
    rw [show t = t - s + s by omega, Nat.pow_add] at h2
    exact Nat.lt_of_mul_lt_mul_right h2
  rcases Nat.lt_or_ge (a * x).toNat (a * y).toNat with h | h
  · have h2 : (a * y - a * x).toNat = (a * y).toNat - (a * x).toNat := BitVec.toNat_sub_of_le (by rw [BitVec.le_def]; omega)
    have h3 : (lowM (-(a * d)) s).toNat ≠ 0 := by
      intro e
      rw [e, Nat.zero_mul] at n2
      omega
    obtain ⟨k1, k2⟩ := key (lowM (-(a * d)) s).toNat (by omega) (by rw [← n2, h2]; omega)
    exact ⟨k1, Or.inr k2⟩
  · have h2 : (a * x - a * y).toNat = (a * x).toNat - (a * y).toNat := BitVec.toNat_sub_of_le (by rw [BitVec.le_def]; omega)
    obtain ⟨k1, k2⟩ := key (lowM (a * d) s).toNat (by omega) (by rw [← n1, h2]; omega)
    exact ⟨k1, Or.inl k2⟩
/-- what Unrank makes of a number -/
def unM (r x y : BitVec 64) : BitVec 64 :=
  (((r - (r >>> tzN (x - y)) <<< tzN (x - y)) <<< (64 - tzN (x - y))) ||| lowM (if (r >>> tzN (x - y)).toNat % 2 = 1 then -(r >>> tzN (x - y) ||| 1#64) else (r >>> tzN (x - y) ||| 1#64)) (tzN (x - y))) * invR ((x - y) >>> tzN (x - y)) 5
/-- a close multiplier is that of its rank -/
theorem un_of_rank (a x y : BitVec 64) (t : Nat) (ht : t < 64) (ha : a.toNat % 2 = 1) (hxy : ¬ x = y) (r : BitVec 64) (hr : rkM a x y t = (r, true)) :
    r.toNat < 2 ^ t ∧ ¬ t ≤ tzN (x - y) ∧ (r >>> tzN (x - y) ||| 1#64).toNat < 2 ^ (t - tzN (x - y)) ∧ unM r x y = a := by
  have hz := diff_ne hxy
  have hs := tz_lt hz
  have hd := tz_odd hz
  have hmo := mul_odd2 ha hd
  have hinv := inv_odd _ hd
  unfold rkM at hr
  unfold unM
  generalize (x - y) >>> tzN (x - y) = d at *
  generalize tzN (x - y) = s at *
  have hs2 : s ≤ 64 := by omega
  by_cases hts : t ≤ s
  · rw [if_pos hts] at hr; cases hr
  rw [if_neg hts] at hr
  have hL := lim_nat hts ht
  have hpt : 2 ^ (t - s) * 2 ^ s = 2 ^ t := by rw [← Nat.pow_add]; congr 1; omega
  have hple : 2 ^ (t - s) ≤ 2 ^ (64 - s) := Nat.pow_le_pow_right (by decide) (by omega)
  have htp := high_lt (a * d) hs2
  have hjb := join_back (a * d) hs2
  have ho := low_odd (a * d) hs
  have hsum := low_sum (a * d) hs2 (by omega)
  have hev : 2 ^ (64 - s) % 2 = 0 := by
    rw [show 64 - s = (63 - s) + 1 by omega, Nat.pow_succ]; exact Nat.mul_mod_left _ _
  have hfin : ∀ J : BitVec 64, J = a * d → J * invR d 5 = a := fun J e => by rw [e, BitVec.mul_assoc, hinv, BitVec.mul_one]
  split at hr
  · rename_i h1
    rw [lt_words, hL] at h1
    simp only [Prod.mk.injEq, and_true] at hr
    subst hr
    have hq1 : (lowM (a * d) s - 1#64).toNat = (lowM (a * d) s).toNat - 1 := by
      rw [BitVec.toNat_sub_of_le (by rw [BitVec.le_def]; show 1 ≤ _; omega)]; rfl
    obtain ⟨e1, e2⟩ := rank_rest (lowM (a * d) s - 1#64) ((a * d) >>> (64 - s)) hs2 (by omega) htp
    have e3 := rank_nat (lowM (a * d) s - 1#64) ((a * d) >>> (64 - s)) hs2 (by omega) htp
    rw [e1] at e2 ⊢
    have e4 : lowM (a * d) s - 1#64 ||| 1#64 = lowM (a * d) s := by
      apply BitVec.eq_of_toNat_eq; rw [or_one_nat, hq1]; omega
    refine ⟨?_, hts, by rw [e4]; exact h1, ?_⟩
    · rw [e3, hq1]
      have : (lowM (a * d) s).toNat * 2 ^ s ≤ 2 ^ (t - s) * 2 ^ s := Nat.mul_le_mul_right _ (by omega)
      have h5 : ((lowM (a * d) s).toNat - 1) * 2 ^ s + 2 ^ s = (lowM (a * d) s).toNat * 2 ^ s := by
        rw [← Nat.succ_mul]; congr 1; omega
      omega
    · rw [e2, if_neg (by omega), e4]
      apply hfin
      have e5 : lowM (lowM (a * d) s) s = lowM (a * d) s := by
        apply BitVec.eq_of_toNat_eq
        rw [low_nat _ hs2, Nat.mod_eq_of_lt (low_lt _ hs2)]
      rw [e5]; exact hjb
  · rename_i h1
    split at hr
    · rename_i h2
      rw [lt_words, hL] at h2
      simp only [Prod.mk.injEq, and_true] at hr
      subst hr
      obtain ⟨e1, e2⟩ := rank_rest (lowM (-(a * d)) s) ((a * d) >>> (64 - s)) hs2 (low_lt _ hs2) htp
      have e3 := rank_nat (lowM (-(a * d)) s) ((a * d) >>> (64 - s)) hs2 (low_lt _ hs2) htp
      rw [e1] at e2 ⊢
      have hodd : (lowM (-(a * d)) s).toNat % 2 = 1 := by omega
      have e4 : lowM (-(a * d)) s ||| 1#64 = lowM (-(a * d)) s := by
        apply BitVec.eq_of_toNat_eq; rw [or_one_nat]; omega
      refine ⟨?_, hts, by rw [e4]; exact h2, ?_⟩
      · rw [e3]
        have : ((lowM (-(a * d)) s).toNat + 1) * 2 ^ s ≤ 2 ^ (t - s) * 2 ^ s := Nat.mul_le_mul_right _ h2
        rw [Nat.add_mul, Nat.one_mul] at this
        omega
      · rw [e2, if_pos hodd, e4]
        apply hfin
        have e5 : lowM (-(lowM (-(a * d)) s)) s = lowM (a * d) s := by
          apply BitVec.eq_of_toNat_eq
          have e6 : lowM (lowM (-(a * d)) s) s = lowM (-(a * d)) s := by
            apply BitVec.eq_of_toNat_eq
            rw [low_nat _ hs2, Nat.mod_eq_of_lt (low_lt _ hs2)]
          have := low_sum (lowM (-(a * d)) s) hs2 (by rw [e6]; omega)
          rw [e6] at this
          omega
        rw [e5]; exact hjb
    · cases hr
/-- the multiplier of a number: it is odd, and has this rank -/
theorem rank_of_un (x y r : BitVec 64) (t : Nat) (ht : t < 64) (hxy : ¬ x = y) (hts : ¬ t ≤ tzN (x - y)) (hq : (r >>> tzN (x - y) ||| 1#64).toNat < 2 ^ (t - tzN (x - y))) :
    (unM r x y).toNat % 2 = 1 ∧ rkM (unM r x y) x y t = (r, true) := by
  have hz := diff_ne hxy
  have hs := tz_lt hz
  have hd := tz_odd hz
  have hinv := inv_odd _ hd
  have hrb := rest_back r hs
  unfold rkM
  rw [if_neg hts]
  have hL := lim_nat hts ht
  obtain ⟨J, hJ⟩ : ∃ J, ((r - (r >>> tzN (x - y)) <<< tzN (x - y)) <<< (64 - tzN (x - y))) ||| lowM (if (r >>> tzN (x - y)).toNat % 2 = 1 then -(r >>> tzN (x - y) ||| 1#64) else (r >>> tzN (x - y) ||| 1#64)) (tzN (x - y)) = J := ⟨_, rfl⟩
  have hu : unM r x y = J * invR ((x - y) >>> tzN (x - y)) 5 := by unfold unM; rw [hJ]
  rw [hu]
  generalize (x - y) >>> tzN (x - y) = d at *
  generalize tzN (x - y) = s at *
  have hs2 : s ≤ 64 := by omega
  have hJd : J * invR d 5 * d = J := by rw [BitVec.mul_assoc, BitVec.mul_comm (invR d 5) d, hinv, BitVec.mul_one]
  rw [hJd]
  obtain ⟨hr1, hr2, hr3⟩ := hrb
  generalize r >>> s = rest at *
  have hor := or_one_nat rest
  generalize rest ||| 1#64 = q at *
  have hple : 2 ^ (t - s) * 2 ≤ 2 ^ (64 - s) := by
    rw [← Nat.pow_succ]; exact Nat.pow_le_pow_right (by decide) (by omega)
  have hpos := Nat.two_pow_pos (t - s)
  have hlq : lowM q s = q := by
    apply BitVec.eq_of_toNat_eq
    rw [low_nat _ hs2, Nat.mod_eq_of_lt (by omega)]
  have hev : 2 ^ (64 - s) % 2 = 0 := by
    rw [show 64 - s = (63 - s) + 1 by omega, Nat.pow_succ]; exact Nat.mul_mod_left _ _
  have hqsum := low_sum q hs2 (by rw [hlq]; omega)
  rw [hlq] at hqsum
  have hJn := join_nat (r - rest <<< s) (lowM (if rest.toNat % 2 = 1 then -q else q) s) hs2 hr2 (low_lt _ hs2)
  rw [hJ] at hJn
  have hJlow : (lowM J s).toNat = (lowM (if rest.toNat % 2 = 1 then -q else q) s).toNat := by
    rw [low_nat J hs2, hJn, Nat.mul_add_mod, Nat.mod_eq_of_lt (low_lt _ hs2)]
  have hJtop : J >>> (64 - s) = r - rest <<< s := by
    apply BitVec.eq_of_toNat_eq
    rw [shr_nat, hJn, Nat.mul_add_div (Nat.two_pow_pos _), Nat.div_eq_of_lt (low_lt _ hs2), Nat.add_zero]
  have hJo : J.toNat % 2 = 1 := by
    have := low_odd J hs
    rw [← this, hJlow]
    split
    · omega
    · rw [hlq]; omega
  have hao : (J * invR d 5).toNat % 2 = 1 := by
    rcases Nat.mod_two_eq_zero_or_one (J * invR d 5).toNat with h0 | h0
    · exfalso
      have h1 := congrArg BitVec.toNat hJd
      rw [BitVec.toNat_mul] at h1
      have h2 : (J * invR d 5).toNat * d.toNat % 2 ^ 64 % 2 = 0 := by
        rw [Nat.mod_mod_of_dvd _ (show 2 ∣ 2 ^ 64 from ⟨2 ^ 63, rfl⟩), Nat.mul_mod, h0, Nat.zero_mul, Nat.zero_mod]
      omega
    · exact h0
  refine ⟨hao, ?_⟩
  have hJsum := low_sum J hs2 (by have := low_odd J hs; omega)
  by_cases hp : rest.toNat % 2 = 1
  · rw [if_pos hp] at hJlow
    have hqr : q = rest := BitVec.eq_of_toNat_eq (by omega)
    rw [if_neg (by rw [lt_words, hL]; omega)]
    have e1 : lowM (-J) s = rest := BitVec.eq_of_toNat_eq (by omega)
    rw [e1, if_pos (by rw [lt_words, hL]; omega), hJtop, hr1]
  · rw [if_neg hp] at hJlow
    rw [hlq] at hJlow
    have e1 : lowM J s = q := BitVec.eq_of_toNat_eq hJlow
    have e2 : q - 1#64 = rest := by
      apply BitVec.eq_of_toNat_eq
      rw [BitVec.toNat_sub_of_le (by rw [BitVec.le_def]; show 1 ≤ _; omega)]
      show q.toNat - 1 = _
      omega
    rw [e1, if_pos (by rw [lt_words, hL]; exact hq), e2, hJtop, hr1]
end Go.Bv
