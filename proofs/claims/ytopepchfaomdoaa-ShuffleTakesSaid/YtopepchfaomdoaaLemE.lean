/- Layer 38: the mathematics of ranks; the document's own Loss, Each, Takes, Rank. -/
import Derived.Test.YtopepchfaomdoaaLemD
import Derived.Test.YtopepchfaomdoaaMskW
import Derived.Test.YtopepchfaomdoaaBitM
import Derived.Test.YtopepchfaomdoaaBitD
namespace Go.Bv
open Go Go.RowKit
/-- 2^64 -/
def T64 : Nat := 18446744073709551616
theorem ceil_back (n x y : Nat) (hn : 0 < n) (h : y ≤ x * n) : (y + (n - 1)) / n ≤ x ∧ x - (y + (n - 1)) / n = (x * n - y) / n := by
  have h1 := Nat.div_add_mod (y + (n - 1)) n
  have h2 := Nat.mod_lt (y + (n - 1)) hn
  generalize (y + (n - 1)) / n = c at *
  generalize (y + (n - 1)) % n = s at *
  have hc : c ≤ x := by
    rcases Nat.lt_or_ge x c with h3 | h3
    · exfalso
      have h4 : n * (x + 1) ≤ n * c := Nat.mul_le_mul_left n h3
      rw [Nat.mul_add, Nat.mul_one, Nat.mul_comm n x] at h4
      omega
    · exact h3
  refine ⟨hc, ?_⟩
  obtain ⟨k, rfl⟩ : ∃ k, x = c + k := ⟨x - c, by omega⟩
  rw [Nat.add_sub_cancel_left]
  rw [Nat.add_mul, Nat.mul_comm c n] at *
  symm
  apply Nat.div_eq_of_lt_le
  · omega
  · rw [Nat.add_mul, Nat.one_mul]; omega
/-- the least word whose product is at least N, and the words behind it -/
theorem ceil_up (n N r q L v : Nat) (hn : 0 < n) (hT : T64 = q * n + L) (hN : N = v * T64 + L) (hr : r < q) (hv : v < n) :
    (N + (n - 1)) / n + r < T64 ∧ ((N + (n - 1)) / n + r) * n / T64 = v ∧ L ≤ ((N + (n - 1)) / n + r) * n % T64 ∧ (((N + (n - 1)) / n + r) * n % T64 - L) / n = r := by
  have h1 := Nat.div_add_mod (N + (n - 1)) n
  have h2 := Nat.mod_lt (N + (n - 1)) hn
  generalize (N + (n - 1)) / n = c at *
  generalize (N + (n - 1)) % n = s at *
  have h3 : (r + 1) * n ≤ q * n := Nat.mul_le_mul_right n hr
  rw [Nat.add_mul, Nat.one_mul] at h3
  have hp : 0 < T64 := by unfold T64; omega
  obtain ⟨d, hd⟩ : ∃ d, (c + r) * n = v * T64 + d := ⟨(c + r) * n - v * T64, by rw [Nat.add_mul, Nat.mul_comm c n]; omega⟩
  have hd2 : n * c + r * n = v * T64 + d := by rw [← hd, Nat.add_mul, Nat.mul_comm c n]
  have hlo : d < T64 := by omega
  have hlo2 : L ≤ d := by omega
  have hq : (c + r) * n / T64 = v := by
    rw [hd, Nat.mul_comm v, Nat.mul_add_div hp, Nat.div_eq_of_lt hlo, Nat.add_zero]
  have hm : (c + r) * n % T64 = d := by
    rw [hd, Nat.mul_comm v, Nat.mul_add_mod, Nat.mod_eq_of_lt hlo]
  refine ⟨?_, hq, by rw [hm]; exact hlo2, ?_⟩
  · rcases Nat.lt_or_ge (c + r) T64 with h | h
    · exact h
    · exfalso
      have h4 : T64 * n ≤ (c + r) * n := Nat.mul_le_mul_right n h
      have h5 : (v + 1) * T64 ≤ n * T64 := Nat.mul_le_mul_right T64 hv
      rw [Nat.add_mul, Nat.one_mul] at h5
      rw [Nat.mul_comm T64 n] at h4
      omega
  · rw [hm]
    have e2 : d - L = n * r + (n * c - N) := by rw [Nat.mul_comm n r]; omega
    rw [e2, Nat.mul_add_div hn, Nat.div_eq_of_lt (by omega), Nat.add_zero]
theorem loss_nat (n : BitVec 64) (h : ¬ n = 0#64) : (lossN n).toNat = T64 % n.toNat := md_nat h
end Go.Bv
namespace Go.Proofs.Ytopepchfaomdoaa
open Go.RowKit Go.Bv
set_option linter.unusedVariables false
/-- how many words are taken for each number -/
def eachN (n : BitVec 64) : Nat := if n = 0#64 then 0 else T64 / n.toNat
def eachNHi (n : BitVec 64) : BitVec 64 := BitVec.ofNat 64 (eachN n / 2 ^ 64)
def eachNLo (n : BitVec 64) : BitVec 64 := BitVec.ofNat 64 (eachN n)
theorem eachN_le (n : BitVec 64) : eachN n ≤ T64 := by
  unfold eachN
  split
  · exact Nat.zero_le _
  · exact Nat.div_le_self _ _
theorem two_eachN (n : BitVec 64) : two (eachNHi n) (eachNLo n) = eachN n := by
  have h := eachN_le n
  unfold T64 at h
  unfold two eachNHi eachNLo
  rw [BitVec.toNat_ofNat, BitVec.toNat_ofNat]
  omega
theorem eachN_zero : eachNHi 0#64 = 0#64 ∧ eachNLo 0#64 = 0#64 := by
  unfold eachNHi eachNLo eachN; rw [if_pos rfl]; exact ⟨rfl, rfl⟩
theorem T64_pow : (1 : Nat) * 2 ^ 64 = T64 := rfl
set_option maxHeartbeats 1000000 in
theorem rloss_row (n : BitVec 64) (h : ¬ n = 0#64) (w : World) : Calls Try.prog 57 #[.int .u64 (W64 n)] w fun e w' => ∃ v, e = .returned v ∧ w'.ownsRow w.heap.size 3 1 v 67 ((bitsOf (lossN n).toNat 67).map fun y => .int .i64 y) ∧ New w w' := by
  have hp := pos_of_ne h
  have hsh := bshl_own 1 1 1 64 (some ⟨w.heap.size, 0, none⟩) 66 66 rfl (by omega) (by omega) (w.alloc (.cells #[.int .i64 1] 3)) (one_bit w) (by decide)
  rw [T64_pow] at hsh
  have HS := Lib.hid hsh
  have HO := Lib.hid (fun w => of_own n 64 64 (by omega) rfl w)
  have HL : Hid (T64 % n.toNat = (lossN n).toNat) := Lib.hid (loss_nat n h).symm
  have HT : Hid (T64 < 2 ^ 66) := Lib.hid (by unfold T64; omega)
  have HP := Lib.hid hp
  have HN := Lib.hid ((New.refl w).alloc (.cells #[.int .i64 1] 3))
  have HNL := Lib.hid n.isLt
  clear hsh h hp
  generalize T64 = T at *
  go_enter Try.func57, Try.ntmps57
  go_wp2_with fail
  refine HS.out.mono ?_
  rintro e w1 ⟨v1, rfl, hown1, hn1⟩
  obtain ⟨a1, c1, rfl, hz1⟩ := bits_row hown1 (by omega)
  have HN1 := Lib.hid (HN.out.trans hn1)
  have HZ1 := Lib.hid hz1
  clear hown1 hz1 hn1
  go_wp2_with fail
  refine (HO.out _).mono ?_
  rintro e w2 ⟨v2, rfl, hown2, hn2⟩
  obtain ⟨a2, c2, rfl, hz2⟩ := bits_row hown2 (by omega)
  have HN2 := Lib.hid (HN1.out.trans hn2)
  have HZ2 := Lib.hid hz2
  have HZ1b := Lib.hid (HZ1.out.stay hn2)
  clear hown2 hz2 hn2
  go_wp2_with fail
  refine (bdiv_own T n.toNat 66 64 _ _ _ _ 66 (by omega) (by omega) (by omega) _ HZ1b.out HT.out HZ2.out HNL.out HP.out).mono ?_
  rintro e w3 ⟨v3, v4, rfl, hown3, hown4, hn3⟩
  rw [HL.out] at hown4
  have hown5 := own_low hown4 HN2.out.le
  have HN3 := Lib.hid (HN2.out.trans hn3)
  have HO4 := Lib.hid hown5
  clear hown3 hown4 hown5 hn3
  go_wp2
  go_ret
  exact ⟨_, rfl, HO4.out, HN3.out⟩
set_option maxHeartbeats 1000000 in
theorem rloss_l (n : BitVec 64) (w : World) : Calls Try.prog 52 #[.int .u64 (W64 n)] w fun e w' => e = .returned (.int .u64 (W64 (lossN n))) ∧ New w w' := by
  by_cases h : n = 0#64
  · subst h
    rw [show lossN 0#64 = 0#64 from md_zero _, show W64 0#64 = 0 by decide]
    go_enter Try.func52, Try.ntmps52
    go_wp2
    go_ret
    exact ⟨rfl, New.refl _⟩
  · have hz2 : (W64 n == 0) = false := by
      have := pos_of_ne h
      rw [beq_eq_false_iff_ne]; unfold W64; omega
    have hz3 : (n == 0#64) = false := beq_false_of_ne h
    have HR := Lib.hid (rloss_row n h)
    have hl : (lossN n).toNat < 2 ^ 67 := by have := (lossN n).isLt; omega
    have hw := fun a c w hz => word_any (lossN n).toNat 67 c 0 a w hz hl (by omega)
    rw [Nat.pow_zero, Nat.div_one, BitVec.ofNat_toNat, BitVec.setWidth_eq] at hw
    have HW := Lib.hid hw
    clear h hl hw
    generalize lossN n = x at *
    go_enter Try.func52, Try.ntmps52
    go_wp2_with fail
    refine (HR.out _).mono ?_
    rintro e w1 ⟨v1, rfl, hown1, hn1⟩
    obtain ⟨a1, c1, rfl, hz1⟩ := bits_row hown1 (by omega)
    have HN1 := Lib.hid hn1
    have HZ1 := Lib.hid hz1
    clear hown1 hz1 hn1
    go_wp2_with fail
    refine (HW.out _ _ _ HZ1.out).mono ?_
    rintro e w2 ⟨rfl, rfl⟩
    go_wp2
    go_ret
    exact ⟨rfl, HN1.out⟩
set_option maxHeartbeats 1000000 in
theorem rtakes_l (x n : BitVec 64) (hn0 : ¬ n = 0#64) (w : World) : Calls Try.prog 46 #[.int .u64 (W64 x), .int .u64 (W64 n)] w fun e w' => e = .returned (.bool (takN x n)) ∧ New w w' := by
  have HL := Lib.hid (rloss_l n)
  have hpos : decide (0 < W64 n) = true := by
    have := pos_of_ne hn0
    unfold W64; rw [decide_eq_true_eq]; omega
  have HN := Lib.hid (New.refl w)
  unfold takN
  generalize lossN n = y at *
  clear hn0
  go_enter Try.func46, Try.ntmps46
  go_wp2_with fail
  refine (HL.out _).mono ?_
  rintro e w9 ⟨rfl, hn⟩
  replace HN := Lib.hid (HN.out.trans hn)
  clear hn
  go_wp2
  go_ret
  exact ⟨rfl, HN.out⟩
theorem rtakes_zero_l (x : BitVec 64) (w : World) : Calls Try.prog 46 #[.int .u64 (W64 x), .int .u64 0] w fun e w' => e = .returned (.bool false) ∧ New w w' := by
  go_enter Try.func46, Try.ntmps46
  go_wp2
  go_ret
  exact ⟨rfl, New.refl _⟩
theorem takes_zero_l (x : BitVec 64) (w : World) : Calls Try.prog 40 #[.int .u64 (W64 x), .int .u64 0] w fun e w' => e = .returned (.bool false) ∧ New w w' := by
  go_enter Try.func40, Try.ntmps40
  go_wp2
  go_ret
  exact ⟨rfl, New.refl _⟩
set_option maxHeartbeats 1000000 in
theorem rtells_l (x n : BitVec 64) (w : World) : Calls Try.prog 53 #[.int .u64 (W64 x), .int .u64 (W64 n)] w fun e w' => e = .returned (.int .u64 (W64 (telN x n))) ∧ New w w' := by
  have hx := x.isLt
  have hn := n.isLt
  have hlt : x.toNat * n.toNat < 2 ^ 128 := Nat.lt_of_lt_of_le (Nat.mul_lt_mul'' hx hn) (by decide)
  have hw := fun a c w hz => word_any (x.toNat * n.toNat) 128 c 64 a w hz hlt (by omega)
  have e : BitVec.ofNat 64 (x.toNat * n.toNat / 2 ^ 64) = telN x n := rfl
  rw [e] at hw
  have HW := Lib.hid hw
  have HO1 := Lib.hid (fun w => of_own x 64 64 (by omega) rfl w)
  have HO2 := Lib.hid (fun w => of_own n 64 64 (by omega) rfl w)
  have HM := Lib.hid fun a1 c1 a2 c2 w h1 h2 => bmul_own x.toNat n.toNat 64 64 c1 c2 a1 a2 128 128 rfl (by omega) (by omega) w h1 hx h2 hn
  generalize telN x n = y at *
  generalize x.toNat * n.toNat = N at *
  clear hw e hlt hx hn
  go_enter Try.func53, Try.ntmps53
  go_wp2_with fail
  refine (HO1.out _).mono ?_
  rintro e w1 ⟨v1, rfl, hown1, hn1⟩
  obtain ⟨a1, c1, rfl, hz1⟩ := bits_row hown1 (by omega)
  have HN1 := Lib.hid hn1
  have HZ1 := Lib.hid hz1
  clear hown1 hz1 hn1
  go_wp2_with fail
  refine (HO2.out _).mono ?_
  rintro e w2 ⟨v2, rfl, hown2, hn2⟩
  obtain ⟨a2, c2, rfl, hz2⟩ := bits_row hown2 (by omega)
  have HN2 := Lib.hid (HN1.out.trans hn2)
  have HZ2 := Lib.hid hz2
  have HZ1b := Lib.hid (HZ1.out.stay hn2)
  clear hown2 hz2 hn2
  go_wp2_with fail
  refine (HM.out _ _ _ _ _ HZ1b.out HZ2.out).mono ?_
  rintro e w3 ⟨v3, rfl, hown3, hn3⟩
  obtain ⟨a3, c3, rfl, hz3⟩ := bits_row hown3 (by omega)
  have HN3 := Lib.hid (HN2.out.trans hn3)
  have HZ3 := Lib.hid hz3
  clear hown3 hz3 hn3
  go_wp2_with fail
  refine (HW.out _ _ _ HZ3.out).mono ?_
  rintro e w4 ⟨rfl, rfl⟩
  go_wp2
  go_ret
  exact ⟨rfl, HN3.out⟩
end Go.Proofs.Ytopepchfaomdoaa
