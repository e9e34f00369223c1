/- The laws MshiftFew, MshiftUnranks, walked. -/
import Derived.Test.YtobmgigmoppkkaaDoorMsI
namespace Go.Bv
open Go Go.RowKit
theorem bit_even {r : BitVec 64} (h : ¬ r.toNat % 2 = 1) : (r &&& 1#64 == 1#64) = false := by rw [and_one, decide_eq_false h]
theorem bit_odd {r : BitVec 64} (h : r.toNat % 2 = 1) : (r &&& 1#64 == 1#64) = true := by rw [and_one, decide_eq_true h]
end Go.Bv
namespace Go.Proofs.YtobmgigmoppkkaaDoor
open Go.RowKit Go.Bv
set_option linter.unusedVariables false
/-- Unrank of a number that is low enough -/
theorem unrank_d (r x y : BitVec 64) (j t : Nat) (hj : 1 ≤ j) (hjt : j + t = 64) (hxy : ¬ x = y) (hts : ¬ t ≤ tzN (x - y)) (hq : (r >>> tzN (x - y) ||| 1#64).toNat < 2 ^ (t - tzN (x - y))) (w : World) (ht : TabD w) :
    Calls Tryd.prog 17 #[.int .u64 (W64 r), .int .i64 (j : Int), .int .u64 (W64 x), .int .u64 (W64 y)] w fun e w' => e = .returned (.tuple #[.int .u64 (W64 (unM r x y)), .bool true]) ∧ New w w' := by
  have hz := diff_ne hxy
  have hs := tz_lt hz
  have hd := tz_odd hz
  have HG := Lib.hid (fun (w' : World) (h : New w w') => gap_d x y hxy w' (ht.stay h))
  have HL := Lib.hid (fun (w' : World) (h : New w w') => limit_d x y hxy j t hjt w' (ht.stay h))
  have e : limM t (tzN (x - y)) = 1#64 <<< (t - tzN (x - y)) := if_neg hts
  rw [e] at HL
  have hlt : decide (W64 (1#64 <<< (t - tzN (x - y))) ≤ W64 (r >>> tzN (x - y) ||| 1#64)) = false := by
    rw [decide_eq_false_iff_not, Int.not_le, lt_words, lim_nat hts (by omega)]; exact hq
  have HO := Lib.hid (fun w' => odd_m ((x - y) >>> tzN (x - y)) (beq_false_of_ne (and_of_odd hd)) w')
  unfold unM
  by_cases hp : (r >>> tzN (x - y)).toNat % 2 = 1
  · rw [if_pos hp]
    exact unrank_one x y _ r _ _ _ j _ hs hj (by omega) rfl hlt (bit_odd hp) hxy w HG HL HO
  · rw [if_neg hp]
    exact unrank_zero x y _ r _ _ _ j _ hs hj (by omega) rfl hlt (bit_even hp) hxy w HG HL HO
/-- Unrank of a number that is too great -/
theorem unrank_far (r x y : BitVec 64) (j t : Nat) (hj : 1 ≤ j) (hjt : j + t = 64) (hxy : ¬ x = y) (hq : t ≤ tzN (x - y) ∨ ¬ (r >>> tzN (x - y) ||| 1#64).toNat < 2 ^ (t - tzN (x - y))) (w : World) (ht : TabD w) :
    Calls Tryd.prog 17 #[.int .u64 (W64 r), .int .i64 (j : Int), .int .u64 (W64 x), .int .u64 (W64 y)] w fun e w' => e = .returned (.tuple #[.int .u64 0, .bool false]) ∧ New w w' := by
  have hz := diff_ne hxy
  have hs := tz_lt hz
  have HG := Lib.hid (fun (w' : World) (h : New w w') => gap_d x y hxy w' (ht.stay h))
  have HL := Lib.hid (fun (w' : World) (h : New w w') => limit_d x y hxy j t hjt w' (ht.stay h))
  have hlt : decide (W64 (limM t (tzN (x - y))) ≤ W64 (r >>> tzN (x - y) ||| 1#64)) = true := by
    rw [decide_eq_true_eq, ← Int.not_lt, lt_words]
    unfold limM
    by_cases hts : t ≤ tzN (x - y)
    · rw [if_pos hts]; exact Nat.not_lt_zero _
    · rw [if_neg hts, lim_nat hts (by omega)]
      rcases hq with h | h
      · exact absurd h hts
      · exact h
  exact unrank_no x y _ r _ _ 0#64 j _ hs hj (by omega) rfl hlt hxy w HG HL
theorem power_less {j t : Nat} (h : j + t = 64) (w : World) : Calls Tryd.prog 18 #[.int .i64 (64 - (j : Int))] w fun e w' => e = .returned (.int .u64 (W64 (1#64 <<< t))) ∧ New w w' := by
  have hp := calls_fresh (power_m t (by omega)) w
  rw [show ((t : Nat) : Int) = 64 - (j : Int) by omega] at hp
  exact hp
theorem power_less2 {j t : Nat} (h : j + t = 64) (w : World) : Calls Tryd.prog 18 #[.int .i64 (t : Int)] w fun e w' => e = .returned (.int .u64 (W64 (1#64 <<< t))) ∧ New w w' :=
  calls_fresh (power_m t (by omega)) w
set_option maxHeartbeats 2000000 in
theorem MshiftFew_walk (a0 : Int) (a1 : Int) (a2 : Int) (a3 : Int) (w0 : (Lit.int .u64 a0).wf = true) (w1 : (Lit.int .i64 a1).wf = true) (w2 : (Lit.int .u64 a2).wf = true) (w3 : (Lit.int .u64 a3).wf = true) (W : World) (hT : TabD W) :
    Calls Tryd.prog 5 #[.int .u64 a0, .int .i64 a1, .int .u64 a2, .int .u64 a3] W fun e w' => e = .returned (.bool true) ∧ Below W.heap.size W w' := by
  obtain ⟨a, rfl⟩ := ex64 a0 (by simp [Lit.wf, IntKind.min, IntKind.max, IntKind.signed, IntKind.bits] at w0; omega)
  obtain ⟨x, rfl⟩ := ex64 a2 (by simp [Lit.wf, IntKind.min, IntKind.max, IntKind.signed, IntKind.bits] at w2; omega)
  obtain ⟨y, rfl⟩ := ex64 a3 (by simp [Lit.wf, IntKind.min, IntKind.max, IntKind.signed, IntKind.bits] at w3; omega)
  clear w0 w1 w2 w3
  have HN := Lib.hid (New.refl W)
  have HA := Lib.hid (fun (_ : Unit) => awake_20 W hT)
  by_cases hc : ¬ chkM a a1 = 0
  · have hcb := beq_false_of_ne hc
    have HM := Lib.hid (meets_bad a x y a1 hcb)
    generalize chkM a a1 = c at *
    have hne : (c != 0) = true := by rw [bne, hcb]; rfl
    clear hc
    go_enter Tryd.func5, Tryd.ntmps5
    go_wp2_with fail
    refine (HA.out ()).mono ?_
    rintro e w9 ⟨rfl, hn⟩
    replace HN := Lib.hid (HN.out.trans hn)
    clear hn
    go_wp2_with fail
    refine (HM.out _).mono ?_
    rintro e w9 ⟨rfl, hn⟩
    replace HN := Lib.hid (HN.out.trans hn)
    clear hn
    go_wp2
    go_ret
    exact ⟨rfl, HN.out⟩
  rw [Classical.not_not] at hc
  obtain ⟨j, t, rfl, hj, hjt, hodd⟩ := chkM_good hc
  by_cases hxy : x = y
  · subst hxy
    have HM := Lib.hid (meets_same a x j hc)
    clear hc hj hjt hodd
    go_enter Tryd.func5, Tryd.ntmps5
    go_wp2_with fail
    refine (HA.out ()).mono ?_
    rintro e w9 ⟨rfl, hn⟩
    replace HN := Lib.hid (HN.out.trans hn)
    clear hn
    go_wp2_with fail
    refine (HM.out _).mono ?_
    rintro e w9 ⟨rfl, hn⟩
    replace HN := Lib.hid (HN.out.trans hn)
    clear hn
    go_wp2
    go_ret
    exact ⟨rfl, HN.out⟩
  have HM := Lib.hid (meets_ok a x y j t hjt hc hxy)
  by_cases hmt : ¬ (a * x) >>> t = (a * y) >>> t
  · rw [beq_false_of_ne hmt] at HM
    clear hc hj hjt hodd hxy hmt
    go_enter Tryd.func5, Tryd.ntmps5
    go_wp2_with fail
    refine (HA.out ()).mono ?_
    rintro e w9 ⟨rfl, hn⟩
    replace HN := Lib.hid (HN.out.trans hn)
    clear hn
    go_wp2_with fail
    refine (HM.out _).mono ?_
    rintro e w9 ⟨rfl, hn⟩
    replace HN := Lib.hid (HN.out.trans hn)
    clear hn
    go_wp2
    go_ret
    exact ⟨rfl, HN.out⟩
  rw [Classical.not_not] at hmt
  rw [hmt, beq_self_eq_true] at HM
  have hao := odd_of_and hodd
  have ht64 : t < 64 := by omega
  obtain ⟨c1, c2⟩ := close_of_meet a x y t hao hxy hmt
  have hrk : (rkM a x y t).2 = true := by
    unfold rkM
    rw [if_neg c1]
    split
    · rfl
    · rename_i h1
      split
      · rfl
      · rename_i h2
        rw [lt_words, lim_nat c1 ht64] at h1 h2
        rcases c2 with h | h
        · exact absurd h h1
        · exact absurd h h2
  obtain ⟨r, hr⟩ : ∃ r, (rkM a x y t).1 = r := ⟨_, rfl⟩
  have hre : rkM a x y t = (r, true) := by rw [← hr, ← hrk]
  obtain ⟨d1, d2, d3, d4⟩ := un_of_rank a x y t ht64 hao hxy r hre
  have HR := Lib.hid (fun (w' : World) (h : New W w') => rank_d a x y (j : Int) w' (hT.stay h))
  have e1 : rkA a x y (j : Int) = (r, true) := by
    unfold rkA
    rw [if_neg hxy, if_pos hc, show 64 - ((j : Int)).toNat = t by omega]
    exact hre
  rw [e1] at HR
  have HU := Lib.hid (fun (w' : World) (h : New W w') => unrank_d r x y j t hj hjt hxy d2 d3 w' (hT.stay h))
  rw [d4] at HU
  have HP := Lib.hid (power_less hjt)
  have z1 : decide (W64 r ≤ W64 (1#64 <<< t - 1#64)) = true := by
    have h1 : (1#64 <<< t).toNat = 2 ^ t := one_shl ht64
    have h2 : (1#64 <<< t - 1#64).toNat = 2 ^ t - 1 := by
      rw [BitVec.toNat_sub_of_le (by rw [BitVec.le_def, h1]; exact Nat.one_le_two_pow), h1]; rfl
    rw [decide_eq_true_eq]; unfold W64; omega
  clear hc hj hodd hxy hmt hao ht64 c1 c2 hrk hr hre d1 d2 d3 d4 e1
  have hb := bits_less hjt
  have hj1 : (j : Int) ≤ 64 := by omega
  clear hjt
  go_enter Tryd.func5, Tryd.ntmps5
  go_wp2_with fail
  refine (HA.out ()).mono ?_
  rintro e w9 ⟨rfl, hn⟩
  replace HN := Lib.hid (HN.out.trans hn)
  clear hn
  go_wp2_with fail
  refine (HM.out _).mono ?_
  rintro e w9 ⟨rfl, hn⟩
  replace HN := Lib.hid (HN.out.trans hn)
  clear hn
  go_wp2_with fail
  refine (HR.out _ HN.out).mono ?_
  rintro e w9 ⟨rfl, hn⟩
  replace HN := Lib.hid (HN.out.trans hn)
  clear hn
  go_wp2_with fail
  refine (HU.out _ HN.out).mono ?_
  rintro e w9 ⟨rfl, hn⟩
  replace HN := Lib.hid (HN.out.trans hn)
  clear hn
  go_wp2_with fail
  with_reducible refine (HP.out _).mono ?_
  rintro e w9 ⟨rfl, hn⟩
  replace HN := Lib.hid (HN.out.trans hn)
  clear hn
  go_wp2
  go_ret
  exact ⟨rfl, HN.out⟩
theorem odd_rem {q : BitVec 64} (h : q.toNat % 2 = 1) : (q % 2#64 == 1#64) = true := by
  rw [beq_iff_eq]
  apply BitVec.eq_of_toNat_eq
  rw [BitVec.toNat_umod]
  exact h
theorem far_nat (r : BitVec 64) {t s : Nat} (ht : t < 64) (hts : ¬ t ≤ s) (hq : ¬ (r >>> s ||| 1#64).toNat < 2 ^ (t - s)) : 2 ^ t ≤ r.toNat := by
  rw [or_one_nat, shr_nat] at hq
  have h1 : 2 ^ (t - s) % 2 = 0 := by
    rw [show t - s = (t - s - 1) + 1 by omega, Nat.pow_succ]; exact Nat.mul_mod_left _ _
  have h2 : 2 ^ (t - s) ≤ r.toNat / 2 ^ s := by omega
  have h3 := Nat.mul_le_mul_right (2 ^ s) h2
  rw [← Nat.pow_add, show t - s + s = t by omega] at h3
  exact Nat.le_trans h3 (Nat.div_mul_le_self _ _)
set_option maxHeartbeats 2000000 in
theorem MshiftUnranks_walk (a0 : Int) (a1 : Int) (a2 : Int) (a3 : Int) (w0 : (Lit.int .u64 a0).wf = true) (w1 : (Lit.int .i64 a1).wf = true) (w2 : (Lit.int .u64 a2).wf = true) (w3 : (Lit.int .u64 a3).wf = true) (W : World) (hT : TabD W) :
    Calls Tryd.prog 6 #[.int .u64 a0, .int .i64 a1, .int .u64 a2, .int .u64 a3] W fun e w' => e = .returned (.bool true) ∧ Below W.heap.size W w' := by
  obtain ⟨r, rfl⟩ := ex64 a0 (by simp [Lit.wf, IntKind.min, IntKind.max, IntKind.signed, IntKind.bits] at w0; omega)
  obtain ⟨x, rfl⟩ := ex64 a2 (by simp [Lit.wf, IntKind.min, IntKind.max, IntKind.signed, IntKind.bits] at w2; omega)
  obtain ⟨y, rfl⟩ := ex64 a3 (by simp [Lit.wf, IntKind.min, IntKind.max, IntKind.signed, IntKind.bits] at w3; omega)
  clear w0 w1 w2 w3
  have HN := Lib.hid (New.refl W)
  have HA := Lib.hid (fun (_ : Unit) => awake_20 W hT)
  have HTW := Lib.hid (fun (hz : ¬ x - y = 0#64) (w' : World) => calls_fresh (twos_m (x - y) hz) w')
  by_cases hxy : x = y
  · subst hxy
    have HU := Lib.hid (unrank_same r x a1)
    have hxx : (x == x) = true := by simp
    clear HTW
    by_cases k1 : 1 ≤ a1
    · by_cases k2 : a1 ≤ 64
      · skip
        go_enter Tryd.func6, Tryd.ntmps6
        go_wp2_with fail
        refine (HA.out ()).mono ?_
        rintro e w9 ⟨rfl, hn⟩
        replace HN := Lib.hid (HN.out.trans hn)
        clear hn
        go_wp2_with fail
        refine (HU.out _).mono ?_
        rintro e w9 ⟨rfl, hn⟩
        replace HN := Lib.hid (HN.out.trans hn)
        clear hn
        go_wp2
        go_ret
        exact ⟨rfl, HN.out⟩
      · skip
        go_enter Tryd.func6, Tryd.ntmps6
        go_wp2_with fail
        refine (HA.out ()).mono ?_
        rintro e w9 ⟨rfl, hn⟩
        replace HN := Lib.hid (HN.out.trans hn)
        clear hn
        go_wp2_with fail
        refine (HU.out _).mono ?_
        rintro e w9 ⟨rfl, hn⟩
        replace HN := Lib.hid (HN.out.trans hn)
        clear hn
        go_wp2
        go_ret
        exact ⟨rfl, HN.out⟩
    · skip
      go_enter Tryd.func6, Tryd.ntmps6
      go_wp2_with fail
      refine (HA.out ()).mono ?_
      rintro e w9 ⟨rfl, hn⟩
      replace HN := Lib.hid (HN.out.trans hn)
      clear hn
      go_wp2_with fail
      refine (HU.out _).mono ?_
      rintro e w9 ⟨rfl, hn⟩
      replace HN := Lib.hid (HN.out.trans hn)
      clear hn
      go_wp2
      go_ret
      exact ⟨rfl, HN.out⟩
  have zz := beq_false_of_ne hxy
  have zz2 : (x != y) = true := by rw [bne, zz]; rfl
  replace HTW := Lib.hid (HTW.out (diff_ne hxy))
  by_cases hk : a1 < 1 ∨ 64 < a1
  · have HU := Lib.hid (unrank_bad r x y a1 hxy hk)
    clear HTW
    by_cases k1 : 1 ≤ a1
    · have k2 : ¬ a1 ≤ 64 := by omega
      clear hk hxy
      go_enter Tryd.func6, Tryd.ntmps6
      go_wp2_with fail
      refine (HA.out ()).mono ?_
      rintro e w9 ⟨rfl, hn⟩
      replace HN := Lib.hid (HN.out.trans hn)
      clear hn
      go_wp2_with fail
      refine (HU.out _).mono ?_
      rintro e w9 ⟨rfl, hn⟩
      replace HN := Lib.hid (HN.out.trans hn)
      clear hn
      go_wp2
      go_ret
      exact ⟨rfl, HN.out⟩
    · clear hk hxy
      go_enter Tryd.func6, Tryd.ntmps6
      go_wp2_with fail
      refine (HA.out ()).mono ?_
      rintro e w9 ⟨rfl, hn⟩
      replace HN := Lib.hid (HN.out.trans hn)
      clear hn
      go_wp2_with fail
      refine (HU.out _).mono ?_
      rintro e w9 ⟨rfl, hn⟩
      replace HN := Lib.hid (HN.out.trans hn)
      clear hn
      go_wp2
      go_ret
      exact ⟨rfl, HN.out⟩
  obtain ⟨j, t, rfl, hjt, hdrop⟩ := good_bits hk
  clear hdrop
  have hj : 1 ≤ j := by omega
  have k1 : 1 ≤ (j : Int) := by omega
  have k2 : (j : Int) ≤ 64 := by omega
  have hb := bits_less hjt
  have ht64 : t < 64 := by omega
  have HP := Lib.hid (power_less hjt)
  by_cases hts : t ≤ tzN (x - y)
  · have HU := Lib.hid (fun (w' : World) (h : New W w') => unrank_far r x y j t hj hjt hxy (Or.inl hts) w' (hT.stay h))
    have z1 : ¬ (tzN (x - y) : Int) < 64 - (j : Int) := by omega
    have z2 : ¬ tzN (x - y) < t := by omega
    generalize tzN (x - y) = s at *
    clear hk hxy hjt hj ht64
    go_enter Tryd.func6, Tryd.ntmps6
    go_wp2_with fail
    refine (HA.out ()).mono ?_
    rintro e w9 ⟨rfl, hn⟩
    replace HN := Lib.hid (HN.out.trans hn)
    clear hn
    go_wp2_with fail
    refine (HU.out _ HN.out).mono ?_
    rintro e w9 ⟨rfl, hn⟩
    replace HN := Lib.hid (HN.out.trans hn)
    clear hn
    go_wp2_with fail
    with_reducible refine (HTW.out _).mono ?_
    rintro e w9 ⟨rfl, hn⟩
    replace HN := Lib.hid (HN.out.trans hn)
    clear hn
    go_wp2
    go_ret
    exact ⟨rfl, HN.out⟩
  by_cases hq : ¬ (r >>> tzN (x - y) ||| 1#64).toNat < 2 ^ (t - tzN (x - y))
  · have HU := Lib.hid (fun (w' : World) (h : New W w') => unrank_far r x y j t hj hjt hxy (Or.inr hq) w' (hT.stay h))
    have z1 : (tzN (x - y) : Int) < 64 - (j : Int) := by omega
    have z2 : tzN (x - y) < t := by omega
    have z3 : decide (W64 (1#64 <<< t) ≤ W64 r) = true := by
      have := far_nat r ht64 hts hq
      have h1 : (1#64 <<< t).toNat = 2 ^ t := one_shl ht64
      rw [decide_eq_true_eq]; unfold W64; omega
    clear hq
    generalize tzN (x - y) = s at *
    clear hk hxy hjt hj ht64
    go_enter Tryd.func6, Tryd.ntmps6
    go_wp2_with fail
    refine (HA.out ()).mono ?_
    rintro e w9 ⟨rfl, hn⟩
    replace HN := Lib.hid (HN.out.trans hn)
    clear hn
    go_wp2_with fail
    refine (HU.out _ HN.out).mono ?_
    rintro e w9 ⟨rfl, hn⟩
    replace HN := Lib.hid (HN.out.trans hn)
    clear hn
    go_wp2_with fail
    with_reducible refine (HTW.out _).mono ?_
    rintro e w9 ⟨rfl, hn⟩
    replace HN := Lib.hid (HN.out.trans hn)
    clear hn
    go_wp2_with fail
    with_reducible refine (HP.out _).mono ?_
    rintro e w9 ⟨rfl, hn⟩
    replace HN := Lib.hid (HN.out.trans hn)
    clear hn
    go_wp2
    go_ret
    exact ⟨rfl, HN.out⟩
  rw [Classical.not_not] at hq
  obtain ⟨d1, d2⟩ := rank_of_un x y r t ht64 hxy hts hq
  have HU := Lib.hid (fun (w' : World) (h : New W w') => unrank_d r x y j t hj hjt hxy hts hq w' (hT.stay h))
  have hr := fun w' => calls_fresh (rrank_d (unM r x y) x y (j : Int)) w'
  have e1 : rkA (unM r x y) x y (j : Int) = (r, true) := by
    unfold rkA
    rw [if_neg hxy, if_pos (by unfold chkM; rw [if_neg hk, if_neg (and_of_odd d1)]), show 64 - ((j : Int)).toNat = t by omega]
    exact d2
  rw [e1] at hr
  have HR := Lib.hid hr
  have z1 := odd_rem d1
  clear hr e1 d1 d2 hq hts hk hxy hjt hj ht64 HTW
  generalize unM r x y = a at *
  go_enter Tryd.func6, Tryd.ntmps6
  go_wp2_with fail
  refine (HA.out ()).mono ?_
  rintro e w9 ⟨rfl, hn⟩
  replace HN := Lib.hid (HN.out.trans hn)
  clear hn
  go_wp2_with fail
  refine (HU.out _ HN.out).mono ?_
  rintro e w9 ⟨rfl, hn⟩
  replace HN := Lib.hid (HN.out.trans hn)
  clear hn
  go_wp2_with fail
  refine (HR.out _).mono ?_
  rintro e w9 ⟨rfl, hn⟩
  replace HN := Lib.hid (HN.out.trans hn)
  clear hn
  go_wp2
  go_ret
  exact ⟨rfl, HN.out⟩
end Go.Proofs.YtobmgigmoppkkaaDoor
