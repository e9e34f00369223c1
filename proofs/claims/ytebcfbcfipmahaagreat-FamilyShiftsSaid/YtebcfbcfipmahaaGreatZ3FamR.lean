import Derived.Test.YtebcfbcfipmahaaGreatZ3FamQ
import Derived.Test.YtebcfbcfipmahaaGreatZ3FamP
/- Layer 27: two numbers shifted: what is wrong, or what comes of it. -/
namespace Go.Proofs.YtebcfbcfipmahaaGreat
open Go Go.RowKit Go.Bv Go.Tab
set_option linter.unusedVariables false
set_option maxRecDepth 100000
/-- the words of two numbers -/
def wdsK (k : Int) (c1 c0 d1 d0 : BitVec 64) : List (BitVec 64) := if k = 3 then [c0, d0] else [c0, c1, d0, d1]
/-- what is wrong with two keys and their targets -/
def mE (k b : Int) (x y u v : BitVec 64) : Int := if (fitK k x && fitK k y && (u >>> b.toNat == 0#64) && (v >>> b.toNat == 0#64)) = true then (if x = y then 15 else 0) else 2
def MSF (k b : Int) (l : List (BitVec 64)) (x y u v c1 c0 d1 d0 : BitVec 64) (E : Int) : Prop := ∀ w : World, Calls Tryz.prog 87 #[.int .i64 k, .int .i64 b, .agg #[.int .u64 (W64 (hiN (numA k l))), .int .u64 (W64 (loN (numA k l)))], .agg #[.int .u64 (W64 (hiN (numB k l))), .int .u64 (W64 (loN (numB k l)))], .int .u64 (W64 x), .int .u64 (W64 y), .int .u64 (W64 u), .int .u64 (W64 v)] w fun e w' => e = .returned (.tuple #[.agg #[.int .u64 (W64 c1), .int .u64 (W64 c0)], .agg #[.int .u64 (W64 d1), .int .u64 (W64 d0)], .int .i64 E]) ∧ New w w'
theorem lo_back {n : Nat} (h : n < 18446744073709551616) : (loN n).toNat = n := by
  show (BitVec.ofNat 64 _).toNat = n
  rw [BitVec.toNat_ofNat]
  omega
theorem hi_lo_back {n : Nat} (h : n < 340282366920938463463374607431768211456) : (hiN n).toNat * 18446744073709551616 + (loN n).toNat = n := by
  show (BitVec.ofNat 64 _).toNat * 18446744073709551616 + (BitVec.ofNat 64 _).toNat = n
  rw [BitVec.toNat_ofNat, BitVec.toNat_ofNat]
  omega
theorem wds_num3 {l : List (BitVec 64)} (h : l.length = 2) : wdsK 3 (hiN (numA 3 l)) (loN (numA 3 l)) (hiN (numB 3 l)) (loN (numB 3 l)) = l := by
  match l, h with
  | [p, q], _ =>
    show [loN p.toNat, loN q.toNat] = [p, q]
    rw [(lo_word p).1, (lo_word q).1]
theorem wds_num4 {l : List (BitVec 64)} (h : l.length = 4) : wdsK 4 (hiN (numA 4 l)) (loN (numA 4 l)) (hiN (numB 4 l)) (loN (numB 4 l)) = l := by
  match l, h with
  | [p, q, r, s], _ =>
    show [loN (q.toNat * 18446744073709551616 + p.toNat), hiN (q.toNat * 18446744073709551616 + p.toNat), loN (s.toNat * 18446744073709551616 + r.toNat), hiN (s.toNat * 18446744073709551616 + r.toNat)] = [p, q, r, s]
    rw [(two_words q p).1, (two_words q p).2, (two_words s r).1, (two_words s r).2]
theorem num_wds3 {C D : Nat} (hC : C < 2 ^ 64) (hD : D < 2 ^ 64) : numA 3 (wdsK 3 (hiN C) (loN C) (hiN D) (loN D)) = C ∧ numB 3 (wdsK 3 (hiN C) (loN C) (hiN D) (loN D)) = D := ⟨lo_back hC, lo_back hD⟩
theorem num_wds4 {C D : Nat} (hC : C < 2 ^ 128) (hD : D < 2 ^ 128) : numA 4 (wdsK 4 (hiN C) (loN C) (hiN D) (loN D)) = C ∧ numB 4 (wdsK 4 (hiN C) (loN C) (hiN D) (loN D)) = D := ⟨hi_lo_back hC, hi_lo_back hD⟩
theorem num_lt3 (l : List (BitVec 64)) : numA 3 l < 2 ^ 64 ∧ numB 3 l < 2 ^ 64 := ⟨(l.getD 0 0#64).isLt, (l.getD 1 0#64).isLt⟩
theorem num_lt4 (l : List (BitVec 64)) : numA 4 l < 2 ^ 128 ∧ numB 4 l < 2 ^ 128 := by
  have h0 := (l.getD 0 0#64).isLt
  have h1 := (l.getD 1 0#64).isLt
  have h2 := (l.getD 2 0#64).isLt
  have h3 := (l.getD 3 0#64).isLt
  show (l.getD 1 0#64).toNat * 18446744073709551616 + (l.getD 0 0#64).toNat < 2 ^ 128 ∧ (l.getD 3 0#64).toNat * 18446744073709551616 + (l.getD 2 0#64).toNat < 2 ^ 128
  omega
theorem m_zero {k b : Int} {x y u v : BitVec 64} (h : mE k b x y u v = 0) : fitK k x = true ∧ fitK k y = true ∧ (u >>> b.toNat == 0#64) = true ∧ (v >>> b.toNat == 0#64) = true ∧ x ≠ y := by
  unfold mE at h
  cases h1 : fitK k x <;> cases h2 : fitK k y <;> cases h3 : (u >>> b.toNat == 0#64) <;> cases h4 : (v >>> b.toNat == 0#64) <;> rw [h1, h2, h3, h4] at h <;> simp at h
  exact ⟨rfl, rfl, rfl, rfl, h⟩
theorem fit_mad (z : BitVec 64) (n : Nat) {r : Bool} (h : (z >>> n == 0#64) = r) : Hid (∀ w : World, Calls Tryz.prog 127 #[.int .u64 (W64 z), .int .i64 (n : Int)] w fun e w' => e = .returned (.bool r) ∧ New w w') := Lib.hid fun w => by
  rw [← h]; exact fits_a z n w
theorem ch_sum3 {b : Int} {l : List (BitVec 64)} (h : chF 3 b l = 0) : l.length = 2 ∧ 1 ≤ b ∧ b ≤ 32 := by
  obtain ⟨_, h1, h2, h3, h4, _⟩ := chF_ok rfl h
  have e1 : lsF 3 = 2 := rfl
  have e2 : msF 3 = 2 := rfl
  have e3 : lbF 3 = 1 := rfl
  have e4 : mbF 3 = 32 := rfl
  omega
theorem sum_ch3 {b : Int} {l : List (BitVec 64)} (h1 : l.length = 2) (h2 : 1 ≤ b) (h3 : b ≤ 32) : chF 3 b l = 0 := by
  have e0 : okF 3 = true := rfl
  have e1 : lsF 3 = 2 := rfl
  have e2 : msF 3 = 2 := rfl
  have e3 : lbF 3 = 1 := rfl
  have e4 : mbF 3 = 32 := rfl
  unfold chF
  rw [e0, if_neg (by decide), if_neg (by rw [e1, e2]; omega), if_neg (by rw [e3, e4]; omega)]
  rfl
theorem madd_no3 {b : Int} {l : List (BitVec 64)} (hz : chF 3 b l = 0) (x y u v : BitVec 64) (h : mE 3 b x y u v ≠ 0) : MSF 3 b l x y u v 0#64 0#64 0#64 0#64 (mE 3 b x y u v) := by
  obtain ⟨hl, hb1, hb2⟩ := ch_sum3 hz
  obtain ⟨j, rfl⟩ : ∃ j : Nat, b = (j : Int) := ⟨b.toNat, by omega⟩
  have hj : (j : Int).toNat = j := rfl
  have hA := (num_lt3 l).1
  have hB := (num_lt3 l).2
  have HS : Hid (∀ w : World, Calls Tryz.prog 126 #[.int .i64 3] w fun e w' => e = .returned (.tuple #[.agg #[.int .i64 ((64 : Nat) : Int), .int .i64 ((32 : Nat) : Int), .int .i64 ((32 : Nat) : Int)], .bool true]) ∧ New w w') := Lib.hid fun w => shape_add w
  have HC := Lib.hid (check_ok (numA 3 l) (numB 3 l) 64 32 (by omega) (by omega) (by omega) 3 (j : Int) hb1 hb2 hA hB HS)
  have f1 := fun r => fit_mad x 32 (r := r)
  have f2 := fun r => fit_mad y 32 (r := r)
  have f3 := fun r => fit_mad u j (r := r)
  have f4 := fun r => fit_mad v j (r := r)
  unfold mE at h ⊢
  unfold MSF
  rw [hj] at h ⊢
  cases h1 : fitK 3 x with
  | false => exact fun w => shift_no1 (numA 3 l) (numB 3 l) 64 32 x y u v 3 (j : Int) HC HS (f1 _ h1) w
  | true =>
    cases h2 : fitK 3 y with
    | false => exact fun w => shift_no2 (numA 3 l) (numB 3 l) 64 32 x y u v 3 (j : Int) HC HS (f1 _ h1) (f2 _ h2) w
    | true =>
      cases h3 : (u >>> j == 0#64) with
      | false => exact fun w => shift_no3 (numA 3 l) (numB 3 l) 64 32 x y u v 3 (j : Int) HC HS (f1 _ h1) (f2 _ h2) (f3 _ h3) w
      | true =>
        cases h4 : (v >>> j == 0#64) with
        | false => exact fun w => shift_no4 (numA 3 l) (numB 3 l) 64 32 x y u v 3 (j : Int) HC HS (f1 _ h1) (f2 _ h2) (f3 _ h3) (f4 _ h4) w
        | true =>
          rw [h1, h2, h3, h4] at h
          by_cases hxy : x = y
          · rw [if_pos hxy]
            exact fun w => shift_same (numA 3 l) (numB 3 l) 64 32 x y u v (by rw [hxy]; exact beq_self_eq_true _) 3 (j : Int) HC HS (f1 _ h1) (f2 _ h2) (f3 _ h3) (f4 _ h4) w
          · rw [if_neg hxy] at h
            exact absurd rfl h
theorem vsum_is3 {b : Int} (l : List (BitVec 64)) {x : BitVec 64} (h : fitK 3 x = true) : vF 3 b l x = loN (lnN 64 (numA 3 l) (numB 3 l) x.toNat / 2 ^ (64 - b.toNat)) := by
  show vSum 3 b l x = _
  unfold vSum
  rw [if_pos h]
  rfl
theorem madd_yes3 {b : Int} {l : List (BitVec 64)} (hz : chF 3 b l = 0) (x y u v : BitVec 64) (h : mE 3 b x y u v = 0) : ∃ c1 c0 d1 d0, MSF 3 b l x y u v c1 c0 d1 d0 0 ∧ chF 3 b (wdsK 3 c1 c0 d1 d0) = 0 ∧ vF 3 b (wdsK 3 c1 c0 d1 d0) x = u ∧ vF 3 b (wdsK 3 c1 c0 d1 d0) y = v ∧ MSF 3 b (wdsK 3 c1 c0 d1 d0) x y (vF 3 b l x) (vF 3 b l y) (hiN (numA 3 l)) (loN (numA 3 l)) (hiN (numB 3 l)) (loN (numB 3 l)) 0 := by
  obtain ⟨hl, hb1, hb2⟩ := ch_sum3 hz
  obtain ⟨g1, g2, g3, g4, g5⟩ := m_zero h
  have e1 := vsum_is3 (b := b) l g1
  have e2 := vsum_is3 (b := b) l g2
  obtain ⟨j, rfl⟩ : ∃ j : Nat, b = (j : Int) := ⟨b.toNat, by omega⟩
  have hj : (j : Int).toNat = j := rfl
  rw [hj] at g3 g4 e1 e2
  have hA := (num_lt3 l).1
  have hB := (num_lt3 l).2
  have HS : Hid (∀ w : World, Calls Tryz.prog 126 #[.int .i64 3] w fun e w' => e = .returned (.tuple #[.agg #[.int .i64 ((64 : Nat) : Int), .int .i64 ((32 : Nat) : Int), .int .i64 ((32 : Nat) : Int)], .bool true]) ∧ New w w') := Lib.hid fun w => shape_add w
  have nt : ∀ (z : BitVec 64) (m : Nat), (z >>> m == 0#64) = true → z.toNat < 2 ^ m := fun z m hh => by rw [shr_none] at hh; exact of_decide_eq_true hh
  obtain ⟨C, D, hC, hD, t1, t2, s1, s2⟩ := shift_right (numA 3 l) (numB 3 l) 64 32 j hA hB (by omega) (by omega) (by omega) (by omega) x y u v (nt x 32 g1) (nt y 32 g2) (nt u j g3) (nt v j g4) g5 3 HS
  obtain ⟨nA, nB⟩ := num_wds3 hC hD
  refine ⟨hiN C, loN C, hiN D, loN D, s1, sum_ch3 rfl hb1 hb2, ?_, ?_, ?_⟩
  · rw [vsum_is3 _ g1, nA, nB, t1, hj, hd_div]; exact (lo_word u).1
  · rw [vsum_is3 _ g2, nA, nB, t2, hj, hd_div]; exact (lo_word v).1
  · unfold MSF
    rw [nA, nB, e1, e2]
    exact s2
theorem ch_sum4 {b : Int} {l : List (BitVec 64)} (h : chF 4 b l = 0) : l.length = 4 ∧ 1 ≤ b ∧ b ≤ 64 := by
  obtain ⟨_, h1, h2, h3, h4, _⟩ := chF_ok rfl h
  have e1 : lsF 4 = 4 := rfl
  have e2 : msF 4 = 4 := rfl
  have e3 : lbF 4 = 1 := rfl
  have e4 : mbF 4 = 64 := rfl
  omega
theorem sum_ch4 {b : Int} {l : List (BitVec 64)} (h1 : l.length = 4) (h2 : 1 ≤ b) (h3 : b ≤ 64) : chF 4 b l = 0 := by
  have e0 : okF 4 = true := rfl
  have e1 : lsF 4 = 4 := rfl
  have e2 : msF 4 = 4 := rfl
  have e3 : lbF 4 = 1 := rfl
  have e4 : mbF 4 = 64 := rfl
  unfold chF
  rw [e0, if_neg (by decide), if_neg (by rw [e1, e2]; omega), if_neg (by rw [e3, e4]; omega)]
  rfl
theorem madd_no4 {b : Int} {l : List (BitVec 64)} (hz : chF 4 b l = 0) (x y u v : BitVec 64) (h : mE 4 b x y u v ≠ 0) : MSF 4 b l x y u v 0#64 0#64 0#64 0#64 (mE 4 b x y u v) := by
  obtain ⟨hl, hb1, hb2⟩ := ch_sum4 hz
  obtain ⟨j, rfl⟩ : ∃ j : Nat, b = (j : Int) := ⟨b.toNat, by omega⟩
  have hj : (j : Int).toNat = j := rfl
  have hA := (num_lt4 l).1
  have hB := (num_lt4 l).2
  have HS : Hid (∀ w : World, Calls Tryz.prog 126 #[.int .i64 4] w fun e w' => e = .returned (.tuple #[.agg #[.int .i64 ((128 : Nat) : Int), .int .i64 ((64 : Nat) : Int), .int .i64 ((64 : Nat) : Int)], .bool true]) ∧ New w w') := Lib.hid fun w => shape_wide w
  have HC := Lib.hid (check_ok (numA 4 l) (numB 4 l) 128 64 (by omega) (by omega) (by omega) 4 (j : Int) hb1 hb2 hA hB HS)
  have f1 := fun r => fit_mad x 64 (r := r)
  have f2 := fun r => fit_mad y 64 (r := r)
  have f3 := fun r => fit_mad u j (r := r)
  have f4 := fun r => fit_mad v j (r := r)
  unfold mE at h ⊢
  unfold MSF
  rw [hj] at h ⊢
  cases h1 : fitK 4 x with
  | false => exact fun w => shift_no1 (numA 4 l) (numB 4 l) 128 64 x y u v 4 (j : Int) HC HS (f1 _ h1) w
  | true =>
    cases h2 : fitK 4 y with
    | false => exact fun w => shift_no2 (numA 4 l) (numB 4 l) 128 64 x y u v 4 (j : Int) HC HS (f1 _ h1) (f2 _ h2) w
    | true =>
      cases h3 : (u >>> j == 0#64) with
      | false => exact fun w => shift_no3 (numA 4 l) (numB 4 l) 128 64 x y u v 4 (j : Int) HC HS (f1 _ h1) (f2 _ h2) (f3 _ h3) w
      | true =>
        cases h4 : (v >>> j == 0#64) with
        | false => exact fun w => shift_no4 (numA 4 l) (numB 4 l) 128 64 x y u v 4 (j : Int) HC HS (f1 _ h1) (f2 _ h2) (f3 _ h3) (f4 _ h4) w
        | true =>
          rw [h1, h2, h3, h4] at h
          by_cases hxy : x = y
          · rw [if_pos hxy]
            exact fun w => shift_same (numA 4 l) (numB 4 l) 128 64 x y u v (by rw [hxy]; exact beq_self_eq_true _) 4 (j : Int) HC HS (f1 _ h1) (f2 _ h2) (f3 _ h3) (f4 _ h4) w
          · rw [if_neg hxy] at h
            exact absurd rfl h
theorem vsum_is4 {b : Int} (l : List (BitVec 64)) {x : BitVec 64} (h : fitK 4 x = true) : vF 4 b l x = loN (lnN 128 (numA 4 l) (numB 4 l) x.toNat / 2 ^ (128 - b.toNat)) := by
  show vSum 4 b l x = _
  unfold vSum
  rw [if_pos h]
  rfl
theorem madd_yes4 {b : Int} {l : List (BitVec 64)} (hz : chF 4 b l = 0) (x y u v : BitVec 64) (h : mE 4 b x y u v = 0) : ∃ c1 c0 d1 d0, MSF 4 b l x y u v c1 c0 d1 d0 0 ∧ chF 4 b (wdsK 4 c1 c0 d1 d0) = 0 ∧ vF 4 b (wdsK 4 c1 c0 d1 d0) x = u ∧ vF 4 b (wdsK 4 c1 c0 d1 d0) y = v ∧ MSF 4 b (wdsK 4 c1 c0 d1 d0) x y (vF 4 b l x) (vF 4 b l y) (hiN (numA 4 l)) (loN (numA 4 l)) (hiN (numB 4 l)) (loN (numB 4 l)) 0 := by
  obtain ⟨hl, hb1, hb2⟩ := ch_sum4 hz
  obtain ⟨g1, g2, g3, g4, g5⟩ := m_zero h
  have e1 := vsum_is4 (b := b) l g1
  have e2 := vsum_is4 (b := b) l g2
  obtain ⟨j, rfl⟩ : ∃ j : Nat, b = (j : Int) := ⟨b.toNat, by omega⟩
  have hj : (j : Int).toNat = j := rfl
  rw [hj] at g3 g4 e1 e2
  have hA := (num_lt4 l).1
  have hB := (num_lt4 l).2
  have HS : Hid (∀ w : World, Calls Tryz.prog 126 #[.int .i64 4] w fun e w' => e = .returned (.tuple #[.agg #[.int .i64 ((128 : Nat) : Int), .int .i64 ((64 : Nat) : Int), .int .i64 ((64 : Nat) : Int)], .bool true]) ∧ New w w') := Lib.hid fun w => shape_wide w
  have nt : ∀ (z : BitVec 64) (m : Nat), (z >>> m == 0#64) = true → z.toNat < 2 ^ m := fun z m hh => by rw [shr_none] at hh; exact of_decide_eq_true hh
  obtain ⟨C, D, hC, hD, t1, t2, s1, s2⟩ := shift_right (numA 4 l) (numB 4 l) 128 64 j hA hB (by omega) (by omega) (by omega) (by omega) x y u v (nt x 64 g1) (nt y 64 g2) (nt u j g3) (nt v j g4) g5 4 HS
  obtain ⟨nA, nB⟩ := num_wds4 hC hD
  refine ⟨hiN C, loN C, hiN D, loN D, s1, sum_ch4 rfl hb1 hb2, ?_, ?_, ?_⟩
  · rw [vsum_is4 _ g1, nA, nB, t1, hj, hd_div]; exact (lo_word u).1
  · rw [vsum_is4 _ g2, nA, nB, t2, hj, hd_div]; exact (lo_word v).1
  · unfold MSF
    rw [nA, nB, e1, e2]
    exact s2
end Go.Proofs.YtebcfbcfipmahaaGreat
