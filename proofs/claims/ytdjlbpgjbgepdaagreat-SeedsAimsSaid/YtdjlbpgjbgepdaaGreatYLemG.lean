import Derived.Test.YtdjlbpgjbgepdaaGreatLemQ
import Derived.Test.YtdjlbpgjbgepdaaGreatYMskQ
import Derived.Test.YtdjlbpgjbgepdaaGreatYBitA
section
/- Layer 38: the mathematics of ranks; the document's own Loss, Each, Takes, Rank. · Contracts of layer 38: Each, Word; the document's own Each, Rank. · Contracts of layer 38: the document's own Rank; Word. -/
namespace Go.Bv
open Go Go.RowKit
/-- 2^64 -/
def T64 : Nat := 18446744073709551616
theorem ceil_back (n x y : Nat) (hn : 0 < n) (h : y ≤ x * n) : (y + (n - 1)) / n ≤ x ∧ x - (y + (n - 1)) / n = (x * n - y) / n := by
  have h1 := Nat.div_add_mod (y + (n - 1)) n
  have h2 := Nat.mod_lt (y + (n - 1)) hn
  generalize (y + (n - 1)) / n = c at *
  generalize (y + (n - 1)) % n = s at *
  have hc : c ≤ x := by
    rcases Nat.lt_or_ge x c with h3 | h3
    · exfalso
      have h4 : n * (x + 1) ≤ n * c := Nat.mul_le_mul_left n h3
      rw [Nat.mul_add, Nat.mul_one, Nat.mul_comm n x] at h4
      omega
    · exact h3
  refine ⟨hc, ?_⟩
  obtain ⟨k, rfl⟩ : ∃ k, x = c + k := ⟨x - c, by omega⟩
  rw [Nat.add_sub_cancel_left]
  rw [Nat.add_mul, Nat.mul_comm c n] at *
  symm
  apply Nat.div_eq_of_lt_le
  · omega
  · rw [Nat.add_mul, Nat.one_mul]; omega
/-- the least word whose product is at least N, and the words behind it -/
theorem ceil_up (n N r q L v : Nat) (hn : 0 < n) (hT : T64 = q * n + L) (hN : N = v * T64 + L) (hr : r < q) (hv : v < n) :
    (N + (n - 1)) / n + r < T64 ∧ ((N + (n - 1)) / n + r) * n / T64 = v ∧ L ≤ ((N + (n - 1)) / n + r) * n % T64 ∧ (((N + (n - 1)) / n + r) * n % T64 - L) / n = r := by
  have h1 := Nat.div_add_mod (N + (n - 1)) n
  have h2 := Nat.mod_lt (N + (n - 1)) hn
  generalize (N + (n - 1)) / n = c at *
  generalize (N + (n - 1)) % n = s at *
  have h3 : (r + 1) * n ≤ q * n := Nat.mul_le_mul_right n hr
  rw [Nat.add_mul, Nat.one_mul] at h3
  have hp : 0 < T64 := by unfold T64; omega
  obtain ⟨d, hd⟩ : ∃ d, (c + r) * n = v * T64 + d := ⟨(c + r) * n - v * T64, by rw [Nat.add_mul, Nat.mul_comm c n]; omega⟩
  have hd2 : n * c + r * n = v * T64 + d := by rw [← hd, Nat.add_mul, Nat.mul_comm c n]
  have hlo : d < T64 := by omega
  have hlo2 : L ≤ d := by omega
  have hq : (c + r) * n / T64 = v := by
    rw [hd, Nat.mul_comm v, Nat.mul_add_div hp, Nat.div_eq_of_lt hlo, Nat.add_zero]
  have hm : (c + r) * n % T64 = d := by
    rw [hd, Nat.mul_comm v, Nat.mul_add_mod, Nat.mod_eq_of_lt hlo]
  refine ⟨?_, hq, by rw [hm]; exact hlo2, ?_⟩
  · rcases Nat.lt_or_ge (c + r) T64 with h | h
    · exact h
    · exfalso
      have h4 : T64 * n ≤ (c + r) * n := Nat.mul_le_mul_right n h
      have h5 : (v + 1) * T64 ≤ n * T64 := Nat.mul_le_mul_right T64 hv
      rw [Nat.add_mul, Nat.one_mul] at h5
      rw [Nat.mul_comm T64 n] at h4
      omega
  · rw [hm]
    have e2 : d - L = n * r + (n * c - N) := by rw [Nat.mul_comm n r]; omega
    rw [e2, Nat.mul_add_div hn, Nat.div_eq_of_lt (by omega), Nat.add_zero]
theorem loss_nat (n : BitVec 64) (h : ¬ n = 0#64) : (lossN n).toNat = T64 % n.toNat := md_nat h
end Go.Bv
namespace Go.Proofs.YtdjlbpgjbgepdaaGreat
open Go.RowKit Go.Bv
set_option linter.unusedVariables false
/-- how many words are taken for each number -/
def eachN (n : BitVec 64) : Nat := if n = 0#64 then 0 else T64 / n.toNat
def eachNHi (n : BitVec 64) : BitVec 64 := BitVec.ofNat 64 (eachN n / 2 ^ 64)
def eachNLo (n : BitVec 64) : BitVec 64 := BitVec.ofNat 64 (eachN n)
theorem eachN_le (n : BitVec 64) : eachN n ≤ T64 := by
  unfold eachN
  split
  · exact Nat.zero_le _
  · exact Nat.div_le_self _ _
theorem two_eachN (n : BitVec 64) : two (eachNHi n) (eachNLo n) = eachN n := by
  have h := eachN_le n
  unfold T64 at h
  unfold two eachNHi eachNLo
  rw [BitVec.toNat_ofNat, BitVec.toNat_ofNat]
  omega
theorem eachN_zero : eachNHi 0#64 = 0#64 ∧ eachNLo 0#64 = 0#64 := by
  unfold eachNHi eachNLo eachN; rw [if_pos rfl]; exact ⟨rfl, rfl⟩
theorem T64_pow : (1 : Nat) * 2 ^ 64 = T64 := rfl
set_option maxHeartbeats 1000000 in
theorem rloss_row (n : BitVec 64) (h : ¬ n = 0#64) (w : World) : Calls Tryz.prog 70 #[.int .u64 (W64 n)] w fun e w' => ∃ v, e = .returned v ∧ w'.ownsRow w.heap.size 3 1 v 67 ((bitsOf (lossN n).toNat 67).map fun y => .int .i64 y) ∧ New w w' := by
  have hp := pos_of_ne h
  have hsh := bshl_own 1 1 1 64 (some ⟨w.heap.size, 0, none⟩) 66 66 rfl (by omega) (by omega) (w.alloc (.cells #[.int .i64 1] 3)) (one_bit w) (by decide)
  rw [T64_pow] at hsh
  have HS := Lib.hid hsh
  have HO := Lib.hid (fun w => of_own n 64 64 (by omega) rfl w)
  have HL : Hid (T64 % n.toNat = (lossN n).toNat) := Lib.hid (loss_nat n h).symm
  have HT : Hid (T64 < 2 ^ 66) := Lib.hid (by unfold T64; omega)
  have HP := Lib.hid hp
  have HN := Lib.hid ((New.refl w).alloc (.cells #[.int .i64 1] 3))
  have HNL := Lib.hid n.isLt
  clear hsh h hp
  generalize T64 = T at *
  go_enter Tryz.func70, Tryz.ntmps70
  go_wp2_with fail
  refine HS.out.mono ?_
  rintro e w1 ⟨v1, rfl, hown1, hn1⟩
  obtain ⟨a1, c1, rfl, hz1⟩ := bits_row hown1 (by omega)
  have HN1 := Lib.hid (HN.out.trans hn1)
  have HZ1 := Lib.hid hz1
  clear hown1 hz1 hn1
  go_wp2_with fail
  refine (HO.out _).mono ?_
  rintro e w2 ⟨v2, rfl, hown2, hn2⟩
  obtain ⟨a2, c2, rfl, hz2⟩ := bits_row hown2 (by omega)
  have HN2 := Lib.hid (HN1.out.trans hn2)
  have HZ2 := Lib.hid hz2
  have HZ1b := Lib.hid (HZ1.out.stay hn2)
  clear hown2 hz2 hn2
  go_wp2_with fail
  refine (bdiv_own T n.toNat 66 64 _ _ _ _ 66 (by omega) (by omega) (by omega) _ HZ1b.out HT.out HZ2.out HNL.out HP.out).mono ?_
  rintro e w3 ⟨v3, v4, rfl, hown3, hown4, hn3⟩
  rw [HL.out] at hown4
  have hown5 := own_low hown4 HN2.out.le
  have HN3 := Lib.hid (HN2.out.trans hn3)
  have HO4 := Lib.hid hown5
  clear hown3 hown4 hown5 hn3
  go_wp2
  go_ret
  exact ⟨_, rfl, HO4.out, HN3.out⟩
set_option maxHeartbeats 1000000 in
theorem rloss_l (n : BitVec 64) (w : World) : Calls Tryz.prog 65 #[.int .u64 (W64 n)] w fun e w' => e = .returned (.int .u64 (W64 (lossN n))) ∧ New w w' := by
  by_cases h : n = 0#64
  · subst h
    rw [show lossN 0#64 = 0#64 from md_zero _, show W64 0#64 = 0 by decide]
    go_enter Tryz.func65, Tryz.ntmps65
    go_wp2
    go_ret
    exact ⟨rfl, New.refl _⟩
  · have hz2 : (W64 n == 0) = false := by
      have := pos_of_ne h
      rw [beq_eq_false_iff_ne]; unfold W64; omega
    have hz3 : (n == 0#64) = false := beq_false_of_ne h
    have HR := Lib.hid (rloss_row n h)
    have hl : (lossN n).toNat < 2 ^ 67 := by have := (lossN n).isLt; omega
    have hw := fun a c w hz => word_any (lossN n).toNat 67 c 0 a w hz hl (by omega)
    rw [Nat.pow_zero, Nat.div_one, BitVec.ofNat_toNat, BitVec.setWidth_eq] at hw
    have HW := Lib.hid hw
    clear h hl hw
    generalize lossN n = x at *
    go_enter Tryz.func65, Tryz.ntmps65
    go_wp2_with fail
    refine (HR.out _).mono ?_
    rintro e w1 ⟨v1, rfl, hown1, hn1⟩
    obtain ⟨a1, c1, rfl, hz1⟩ := bits_row hown1 (by omega)
    have HN1 := Lib.hid hn1
    have HZ1 := Lib.hid hz1
    clear hown1 hz1 hn1
    go_wp2_with fail
    refine (HW.out _ _ _ HZ1.out).mono ?_
    rintro e w2 ⟨rfl, rfl⟩
    go_wp2
    go_ret
    exact ⟨rfl, HN1.out⟩
set_option maxHeartbeats 1000000 in
theorem rtakes_l (x n : BitVec 64) (hn0 : ¬ n = 0#64) (w : World) : Calls Tryz.prog 41 #[.int .u64 (W64 x), .int .u64 (W64 n)] w fun e w' => e = .returned (.bool (takN x n)) ∧ New w w' := by
  have HL := Lib.hid (rloss_l n)
  have hpos : decide (0 < W64 n) = true := by
    have := pos_of_ne hn0
    unfold W64; rw [decide_eq_true_eq]; omega
  have HN := Lib.hid (New.refl w)
  unfold takN
  generalize lossN n = y at *
  clear hn0
  go_enter Tryz.func41, Tryz.ntmps41
  go_wp2_with fail
  refine (HL.out _).mono ?_
  rintro e w9 ⟨rfl, hn⟩
  replace HN := Lib.hid (HN.out.trans hn)
  clear hn
  go_wp2
  go_ret
  exact ⟨rfl, HN.out⟩
theorem rtakes_zero_l (x : BitVec 64) (w : World) : Calls Tryz.prog 41 #[.int .u64 (W64 x), .int .u64 0] w fun e w' => e = .returned (.bool false) ∧ New w w' := by
  go_enter Tryz.func41, Tryz.ntmps41
  go_wp2
  go_ret
  exact ⟨rfl, New.refl _⟩
theorem takes_zero_l (x : BitVec 64) (w : World) : Calls Tryz.prog 74 #[.int .u64 (W64 x), .int .u64 0] w fun e w' => e = .returned (.bool false) ∧ New w w' := by
  go_enter Tryz.func74, Tryz.ntmps74
  go_wp2
  go_ret
  exact ⟨rfl, New.refl _⟩
set_option maxHeartbeats 1000000 in
theorem rtells_l (x n : BitVec 64) (w : World) : Calls Tryz.prog 66 #[.int .u64 (W64 x), .int .u64 (W64 n)] w fun e w' => e = .returned (.int .u64 (W64 (telN x n))) ∧ New w w' := by
  have hx := x.isLt
  have hn := n.isLt
  have hlt : x.toNat * n.toNat < 2 ^ 128 := Nat.lt_of_lt_of_le (Nat.mul_lt_mul'' hx hn) (by decide)
  have hw := fun a c w hz => word_any (x.toNat * n.toNat) 128 c 64 a w hz hlt (by omega)
  have e : BitVec.ofNat 64 (x.toNat * n.toNat / 2 ^ 64) = telN x n := rfl
  rw [e] at hw
  have HW := Lib.hid hw
  have HO1 := Lib.hid (fun w => of_own x 64 64 (by omega) rfl w)
  have HO2 := Lib.hid (fun w => of_own n 64 64 (by omega) rfl w)
  have HM := Lib.hid fun a1 c1 a2 c2 w h1 h2 => bmul_own x.toNat n.toNat 64 64 c1 c2 a1 a2 128 128 rfl (by omega) (by omega) w h1 hx h2 hn
  generalize telN x n = y at *
  generalize x.toNat * n.toNat = N at *
  clear hw e hlt hx hn
  go_enter Tryz.func66, Tryz.ntmps66
  go_wp2_with fail
  refine (HO1.out _).mono ?_
  rintro e w1 ⟨v1, rfl, hown1, hn1⟩
  obtain ⟨a1, c1, rfl, hz1⟩ := bits_row hown1 (by omega)
  have HN1 := Lib.hid hn1
  have HZ1 := Lib.hid hz1
  clear hown1 hz1 hn1
  go_wp2_with fail
  refine (HO2.out _).mono ?_
  rintro e w2 ⟨v2, rfl, hown2, hn2⟩
  obtain ⟨a2, c2, rfl, hz2⟩ := bits_row hown2 (by omega)
  have HN2 := Lib.hid (HN1.out.trans hn2)
  have HZ2 := Lib.hid hz2
  have HZ1b := Lib.hid (HZ1.out.stay hn2)
  clear hown2 hz2 hn2
  go_wp2_with fail
  refine (HM.out _ _ _ _ _ HZ1b.out HZ2.out).mono ?_
  rintro e w3 ⟨v3, rfl, hown3, hn3⟩
  obtain ⟨a3, c3, rfl, hz3⟩ := bits_row hown3 (by omega)
  have HN3 := Lib.hid (HN2.out.trans hn3)
  have HZ3 := Lib.hid hz3
  clear hown3 hz3 hn3
  go_wp2_with fail
  refine (HW.out _ _ _ HZ3.out).mono ?_
  rintro e w4 ⟨rfl, rfl⟩
  go_wp2
  go_ret
  exact ⟨rfl, HN3.out⟩
end Go.Proofs.YtdjlbpgjbgepdaaGreat
namespace Go.Bv
open Go Go.RowKit
theorem quo_parts (hi lo b : BitVec 64) (h : 0 < b.toNat) : two (divQ 0#64 hi b) (divQ (divR 0#64 hi b) lo b) = two hi lo / b.toNat := by
  have e1 : (divQ 0#64 hi b).toNat = hi.toNat / b.toNat := by
    rw [divQ_nat (by rw [show (0#64).toNat = 0 from rfl]; exact h)]; unfold two; rw [show (0#64).toNat = 0 from rfl, Nat.zero_mul, Nat.zero_add]
  have e2 : (divR 0#64 hi b).toNat = hi.toNat % b.toNat := by
    rw [divR_nat h]; unfold two; rw [show (0#64).toNat = 0 from rfl, Nat.zero_mul, Nat.zero_add]
  have e3 : (divQ (divR 0#64 hi b) lo b).toNat = two (divR 0#64 hi b) lo / b.toNat := divQ_nat (by rw [e2]; exact Nat.mod_lt _ h)
  unfold two at e3 ⊢
  rw [e1, e3, e2]
  have h1 := Nat.div_add_mod hi.toNat b.toNat
  generalize hi.toNat / b.toNat = q at *
  generalize hi.toNat % b.toNat = r at *
  rw [← h1, Nat.add_mul, Nat.mul_assoc, Nat.add_assoc, Nat.mul_add_div h]
end Go.Bv
namespace Go.Proofs.YtdjlbpgjbgepdaaGreat
open Go.RowKit Go.Bv
set_option linter.unusedVariables false
theorem div_parts (hi lo n : BitVec 64) (h : ¬ n = 0#64) (w : World) : Calls Tryz.prog 78 #[.agg #[.int .u64 (W64 hi), .int .u64 (W64 lo)], .int .u64 (W64 n)] w fun e w' =>
    e = .returned (.tuple #[.agg #[.int .u64 (W64 (BitVec.ofNat 64 (two hi lo / n.toNat / 2 ^ 64))), .int .u64 (W64 (BitVec.ofNat 64 (two hi lo / n.toNat)))], .int .u64 (W64 (md (two hi lo) n))]) ∧ New w w' := by
  have hd := wdiv_any hi lo n h w
  have hq := quo_parts hi lo n (pos_of_ne h)
  rw [← hq, two_hi, two_lo]
  exact hd
theorem div_unit (n : BitVec 64) (w : World) : Calls Tryz.prog 78 #[.agg #[.int .u64 1, .int .u64 0], .int .u64 (W64 n)] w fun e w' =>
    e = .returned (.tuple #[.agg #[.int .u64 (W64 (eachNHi n)), .int .u64 (W64 (eachNLo n))], .int .u64 (W64 (lossN n))]) ∧ New w w' := by
  by_cases h : n = 0#64
  · subst h
    have hd := wdiv_zero 1#64 0#64 w
    rw [show W64 1#64 = 1 by decide, show W64 0#64 = 0 by decide] at hd
    rw [eachN_zero.1, eachN_zero.2, show lossN 0#64 = 0#64 from md_zero _, show W64 0#64 = 0 by decide]
    exact hd
  · have hd := div_parts 1#64 0#64 n h w
    rw [show W64 1#64 = 1 by decide, show W64 0#64 = 0 by decide, two_one] at hd
    unfold eachNHi eachNLo eachN T64
    rw [if_neg h]
    exact hd
set_option maxHeartbeats 1000000 in
theorem each_l (n : BitVec 64) (w : World) : Calls Tryz.prog 77 #[.int .u64 (W64 n)] w fun e w' => e = .returned (.agg #[.int .u64 (W64 (eachNHi n)), .int .u64 (W64 (eachNLo n))]) ∧ New w w' := by
  have hz := heap_alloc_new w (.cells #[.int .u64 0, .int .u64 0] 119)
  have HN0 := Lib.hid ((New.refl w).alloc (.cells #[.int .u64 0, .int .u64 0] 119))
  have HZ := Lib.hid hz
  have HD := Lib.hid (div_unit n)
  generalize eachNHi n = y1 at *
  generalize eachNLo n = y0 at *
  generalize lossN n = y at *
  obtain ⟨w0, hw0⟩ : ∃ w0, w.alloc (.cells #[.int .u64 0, .int .u64 0] 119) = w0 := ⟨_, rfl⟩
  rw [hw0] at HN0 HZ
  have HW0 := Lib.hid hw0
  clear hw0 hz
  go_enter Tryz.func77, Tryz.ntmps77
  go_wp2_with fail
  rw [HW0.out]
  refine (HD.out w0).mono ?_
  rintro e w1 ⟨rfl, hn⟩
  have hb := (hn.block _ (lt_of_block HZ.out)).trans HZ.out
  have hx := heap_alloc_new w1 (.cells #[.int .u64 (W64 y1), .int .u64 (W64 y0)] 119)
  have hn2 := (New.refl w1).alloc (.cells #[.int .u64 (W64 y1), .int .u64 (W64 y0)] 119)
  obtain ⟨w2, hw2⟩ : ∃ w2, w1.alloc (.cells #[.int .u64 (W64 y1), .int .u64 (W64 y0)] 119) = w2 := ⟨_, rfl⟩
  rw [hw2] at hx hn2
  have hb2 := (hn2.block _ (lt_of_block hb)).trans hb
  obtain ⟨q, hq⟩ : ∃ q, w1.heap.size = q := ⟨_, rfl⟩
  rw [hq] at hx
  have k0 := cell_of_row _ _ 0 _ _ _ hb2
  have k1 := cell_of_row _ _ 1 _ _ _ hb2
  have x0 := cell_of_row _ _ 0 _ _ _ hx
  have x1 := cell_of_row _ _ 1 _ _ _ hx
  have kf : ∀ i, w2.frozen? ⟨w.heap.size, i, none⟩ = false := fun i => frozen_of_row _ _ _ _ _ hb2
  have HN2 := Lib.hid ((HN0.out.trans hn).trans hn2)
  have HE := Lib.hid (show w1.alloc (.cells #[.int .u64 (W64 y1), .int .u64 (W64 y0)] 119) = w2 ∧ w1.heap.size = q from ⟨hw2, hq⟩)
  clear hb hb2 hx hn hn2 hw2 hq
  go_wp2_with (rw [HE.out.1, HE.out.2])
  refine bodyPost_ret (by simp [results, Tryz.results77, go_sem, k0, k1]; try rfl) rfl ?_
  exact ⟨rfl, (HN2.out.setCell (Nat.le_refl _) _).setCell (Nat.le_refl _) _⟩
end Go.Proofs.YtdjlbpgjbgepdaaGreat
namespace Go.Proofs.YtdjlbpgjbgepdaaGreat
open Go.RowKit Go.Bv
set_option linter.unusedVariables false
/-- the least number whose product with n is at least v 2^64 and the loss -/
def ceilN (v n : BitVec 64) : Nat := (v.toNat * T64 + T64 % n.toNat + (n.toNat - 1)) / n.toNat
/-- the word of a number and a rank -/
def wrdN (v r n : BitVec 64) : BitVec 64 := BitVec.ofNat 64 (ceilN v n + r.toNat)
theorem tel_nat (x n : BitVec 64) : (telN x n).toNat = x.toNat * n.toNat / T64 := by
  have hx := x.isLt
  have hn := n.isLt
  have hlt : x.toNat * n.toNat < T64 * T64 := Nat.mul_lt_mul'' hx hn
  have := Nat.div_lt_of_lt_mul hlt
  unfold telN hiN
  rw [BitVec.toNat_ofNat]
  exact Nat.mod_eq_of_lt this
theorem low_nat (x n : BitVec 64) : (x * n).toNat = x.toNat * n.toNat % T64 := by rw [BitVec.toNat_mul]; rfl
theorem tak_nat (x n : BitVec 64) (h : ¬ n = 0#64) : takN x n = true ↔ T64 % n.toNat ≤ x.toNat * n.toNat % T64 := by
  unfold takN
  rw [decide_eq_true_eq, ← low_nat, ← loss_nat n h]
  unfold W64
  omega
theorem rnk_nat (x n : BitVec 64) (h : ¬ n = 0#64) (ht : takN x n = true) : (rnkN x n).toNat = (x.toNat * n.toNat % T64 - T64 % n.toNat) / n.toNat := by
  have h1 := (tak_nat x n h).1 ht
  unfold rnkN
  have e : loN (x.toNat * n.toNat) = x * n := by
    apply BitVec.eq_of_toNat_eq
    rw [low_nat]; unfold loN; rw [BitVec.toNat_ofNat]; rfl
  rw [e, BitVec.toNat_udiv, BitVec.toNat_sub_of_le (by rw [BitVec.le_def, low_nat, loss_nat n h]; exact h1), low_nat, loss_nat n h]
theorem tel_lt (x n : BitVec 64) (h : ¬ n = 0#64) : (telN x n).toNat < n.toNat := by
  rw [tel_nat]
  have hx := x.isLt
  have hp := pos_of_ne h
  refine Nat.div_lt_of_lt_mul ?_
  exact Nat.mul_lt_mul_of_pos_right hx hp
theorem rnk_ltN (x n : BitVec 64) (h : ¬ n = 0#64) (ht : takN x n = true) : (rnkN x n).toNat < eachN n := by
  have hp := pos_of_ne h
  rw [rnk_nat x n h ht]
  unfold eachN
  rw [if_neg h]
  have h2 : x.toNat * n.toNat % T64 < T64 := Nat.mod_lt _ (by unfold T64; omega)
  have h3 := Nat.div_add_mod T64 n.toNat
  have h1 := (tak_nat x n h).1 ht
  refine Nat.div_lt_of_lt_mul ?_
  omega
theorem ceil_tel (x n : BitVec 64) (h : ¬ n = 0#64) (ht : takN x n = true) : ceilN (telN x n) n ≤ x.toNat ∧ x.toNat - ceilN (telN x n) n = (rnkN x n).toNat := by
  have hp := pos_of_ne h
  have h1 := (tak_nat x n h).1 ht
  have h3 := Nat.div_add_mod (x.toNat * n.toNat) T64
  have hm : x.toNat * n.toNat / T64 * T64 = T64 * (x.toNat * n.toNat / T64) := Nat.mul_comm _ _
  have hy : (telN x n).toNat * T64 + T64 % n.toNat ≤ x.toNat * n.toNat := by rw [tel_nat]; omega
  have h4 := ceil_back n.toNat x.toNat _ hp hy
  unfold ceilN
  refine ⟨h4.1, ?_⟩
  rw [h4.2, rnk_nat x n h ht, tel_nat]
  congr 1
  omega
theorem rank_sub (x n : BitVec 64) (h : ¬ n = 0#64) (ht : takN x n = true) : x - BitVec.ofNat 64 (ceilN (telN x n) n) = rnkN x n := by
  obtain ⟨a, b⟩ := ceil_tel x n h ht
  have hx := x.isLt
  apply BitVec.eq_of_toNat_eq
  have e : (BitVec.ofNat 64 (ceilN (telN x n) n)).toNat = ceilN (telN x n) n := by rw [BitVec.toNat_ofNat, Nat.mod_eq_of_lt (by omega)]
  rw [BitVec.toNat_sub_of_le (by rw [BitVec.le_def, e]; exact a), e, b]
theorem wrdN_all (v r n : BitVec 64) (h : ¬ n = 0#64) (hv : v.toNat < n.toNat) (hr : r.toNat < eachN n) : takN (wrdN v r n) n = true ∧ telN (wrdN v r n) n = v ∧ rnkN (wrdN v r n) n = r := by
  have hp := pos_of_ne h
  unfold eachN at hr
  rw [if_neg h] at hr
  have hT : T64 = T64 / n.toNat * n.toNat + T64 % n.toNat := by rw [Nat.mul_comm]; exact (Nat.div_add_mod _ _).symm
  obtain ⟨a, b, c, d⟩ := ceil_up n.toNat _ r.toNat _ _ v.toNat hp hT rfl hr hv
  have e : (wrdN v r n).toNat = ceilN v n + r.toNat := by
    unfold wrdN
    rw [BitVec.toNat_ofNat]
    exact Nat.mod_eq_of_lt a
  have ht : takN (wrdN v r n) n = true := by rw [tak_nat _ _ h, e]; exact c
  refine ⟨ht, BitVec.eq_of_toNat_eq ?_, BitVec.eq_of_toNat_eq ?_⟩
  · rw [tel_nat, e]; exact b
  · rw [rnk_nat _ _ h ht, e]; exact d
theorem wrdN_back (x n : BitVec 64) (h : ¬ n = 0#64) (ht : takN x n = true) : wrdN (telN x n) (rnkN x n) n = x := by
  obtain ⟨a, b⟩ := ceil_tel x n h ht
  have hx := x.isLt
  apply BitVec.eq_of_toNat_eq
  unfold wrdN
  rw [← b, BitVec.toNat_ofNat, Nat.mod_eq_of_lt (by omega)]
  omega
set_option maxHeartbeats 1000000 in
theorem rrank_l (x n : BitVec 64) (h : ¬ n = 0#64) (ht : takN x n = true) (w : World) : Calls Tryz.prog 42 #[.int .u64 (W64 x), .int .u64 (W64 n)] w fun e w' => e = .returned (.tuple #[.int .u64 (W64 (telN x n)), .int .u64 (W64 (rnkN x n))]) ∧ New w w' := by
  have hp := pos_of_ne h
  have hvt := (telN x n).isLt
  have hll := (lossN n).isLt
  have hnl := n.isLt
  have hn1 : (n - 1#64).toNat = n.toNat - 1 := by
    rw [BitVec.toNat_sub_of_le (by rw [BitVec.le_def]; show 1 ≤ n.toNat; omega)]; rfl
  have hs := rank_sub x n h ht
  unfold ceilN at hs
  rw [← loss_nat n h] at hs
  have hT : T64 = 2 ^ 64 := rfl
  have HTL := Lib.hid (rtells_l x n)
  have HLR := Lib.hid (rloss_row n h)
  generalize telN x n = v at *
  generalize rnkN x n = r at *
  generalize (lossN n).toNat = L at *
  obtain ⟨N1, hN1⟩ : ∃ N, v.toNat * 2 ^ 64 = N := ⟨_, rfl⟩
  rw [hT, hN1] at hs
  have b1 : N1 < 2 ^ 130 := by omega
  have b2 : L < 2 ^ 67 := by omega
  have b3 : N1 + L < 2 ^ 130 := by omega
  have b4 : N1 + L + (n.toNat - 1) < 2 ^ 130 := by omega
  have b5 : (N1 + L + (n.toNat - 1)) / n.toNat < 2 ^ 130 := Nat.lt_of_le_of_lt (Nat.div_le_self _ _) b4
  have HO := Lib.hid (fun w => of_own v 64 64 (by omega) rfl w)
  have HSH := Lib.hid (fun a c w hz => bshl_own v.toNat 64 c 64 a 130 130 rfl (by omega) (by omega) w hz hvt)
  rw [hN1] at HSH
  have HA1 := Lib.hid (fun a1 c1 a2 c2 w h1 h2 => badd_own N1 L 130 67 c1 c2 a1 a2 130 130 rfl (by omega) w h1 b1 h2 b2)
  have HO2 := Lib.hid (fun w => of_own (n - 1#64) 64 64 (by omega) rfl w)
  have HA2 := Lib.hid (fun a1 c1 a2 c2 w h1 h2 => badd_own (N1 + L) (n - 1#64).toNat 130 64 c1 c2 a1 a2 130 130 rfl (by omega) w h1 b3 h2 (n - 1#64).isLt)
  have HO3 := Lib.hid (fun w => of_own n 64 64 (by omega) rfl w)
  have HDV := Lib.hid (fun a1 c1 a2 c2 w h1 h2 => bdiv_own (N1 + L + (n.toNat - 1)) n.toNat 130 64 c1 c2 a1 a2 130 (by omega) (by omega) (by omega) w h1 b4 h2 hnl hp)
  have hw := fun a c w hz => word_any ((N1 + L + (n.toNat - 1)) / n.toNat) 130 c 0 a w hz b5 (by omega)
  rw [Nat.pow_zero, Nat.div_one] at hw
  have HWD := Lib.hid hw
  have HS := Lib.hid hs
  rw [hn1] at HA2 HO2
  have HN := Lib.hid (New.refl w)
  clear hw hs hn1 b1 b2 b3 b4 b5 hvt hll hnl hp h hT hN1 ht
  generalize (N1 + L + (n.toNat - 1)) / n.toNat = Q at *
  generalize N1 + L + (n.toNat - 1) = N3 at *
  generalize N1 + L = N2 at *
  go_enter Tryz.func42, Tryz.ntmps42
  go_wp2_with fail
  refine (HTL.out _).mono ?_
  rintro e w0 ⟨rfl, hn⟩
  have HN0 := Lib.hid (HN.out.trans hn)
  clear hn
  go_wp2_with fail
  refine (HO.out _).mono ?_
  rintro e w1 ⟨v1, rfl, hown, hn⟩
  obtain ⟨a1, c1, rfl, hz⟩ := bits_row hown (by omega)
  have HN1 := Lib.hid (HN0.out.trans hn)
  have HZ1 := Lib.hid hz
  clear hown hz hn
  go_wp2_with fail
  refine (HSH.out _ _ _ HZ1.out).mono ?_
  rintro e w2 ⟨v2, rfl, hown, hn⟩
  obtain ⟨a2, c2, rfl, hz⟩ := bits_row hown (by omega)
  have HN2 := Lib.hid (HN1.out.trans hn)
  have HZ2 := Lib.hid hz
  clear hown hz hn
  go_wp2_with fail
  refine (HLR.out _).mono ?_
  rintro e w3 ⟨v3, rfl, hown, hn⟩
  obtain ⟨a3, c3, rfl, hz⟩ := bits_row hown (by omega)
  have HN3 := Lib.hid (HN2.out.trans hn)
  have HZ3 := Lib.hid hz
  replace HZ2 := Lib.hid (HZ2.out.stay hn)
  clear hown hz hn
  go_wp2_with fail
  refine (HA1.out _ _ _ _ _ HZ2.out HZ3.out).mono ?_
  rintro e w4 ⟨v4, rfl, hown, hn⟩
  obtain ⟨a4, c4, rfl, hz⟩ := bits_row hown (by omega)
  have HN4 := Lib.hid (HN3.out.trans hn)
  have HZ4 := Lib.hid hz
  clear hown hz hn
  go_wp2_with fail
  refine (HO2.out _).mono ?_
  rintro e w5 ⟨v5, rfl, hown, hn⟩
  obtain ⟨a5, c5, rfl, hz⟩ := bits_row hown (by omega)
  have HN5 := Lib.hid (HN4.out.trans hn)
  have HZ5 := Lib.hid hz
  replace HZ4 := Lib.hid (HZ4.out.stay hn)
  clear hown hz hn
  go_wp2_with fail
  refine (HA2.out _ _ _ _ _ HZ4.out HZ5.out).mono ?_
  rintro e w6 ⟨v6, rfl, hown, hn⟩
  obtain ⟨a6, c6, rfl, hz⟩ := bits_row hown (by omega)
  have HN6 := Lib.hid (HN5.out.trans hn)
  have HZ6 := Lib.hid hz
  clear hown hz hn
  go_wp2_with fail
  refine (HO3.out _).mono ?_
  rintro e w7 ⟨v7, rfl, hown, hn⟩
  obtain ⟨a7, c7, rfl, hz⟩ := bits_row hown (by omega)
  have HN7 := Lib.hid (HN6.out.trans hn)
  have HZ7 := Lib.hid hz
  replace HZ6 := Lib.hid (HZ6.out.stay hn)
  clear hown hz hn
  go_wp2_with fail
  refine (HDV.out _ _ _ _ _ HZ6.out HZ7.out).mono ?_
  rintro e w8 ⟨v8, u8, rfl, hown, _, hn⟩
  obtain ⟨a8, c8, rfl, hz⟩ := bits_row hown (by omega)
  have HN8 := Lib.hid (HN7.out.trans hn)
  have HZ8 := Lib.hid hz
  clear hown hz hn
  go_wp2_with fail
  refine (HWD.out _ _ _ HZ8.out).mono ?_
  rintro e w9 ⟨rfl, rfl⟩
  go_wp2
  go_returns
  rw [HS.out]
  exact ⟨rfl, HN8.out⟩
theorem wordN_zero (v r : BitVec 64) (w : World) : Calls Tryz.prog 46 #[.int .u64 (W64 v), .int .u64 (W64 r), .int .u64 0] w fun e w' => e = .returned (.tuple #[.int .u64 0, .int .i64 8]) ∧ New w w' := by
  go_enter Tryz.func46, Tryz.ntmps46
  go_wp2
  go_returns
  exact ⟨rfl, New.refl _⟩
theorem wordN_no (v r n : BitVec 64) (hn0 : ¬ n = 0#64) (hv : ¬ v.toNat < n.toNat) (w : World) : Calls Tryz.prog 46 #[.int .u64 (W64 v), .int .u64 (W64 r), .int .u64 (W64 n)] w fun e w' => e = .returned (.tuple #[.int .u64 0, .int .i64 2]) ∧ New w w' := by
  have z1 : (W64 n == 0) = false := by
    have := pos_of_ne hn0
    rw [beq_eq_false_iff_ne]; unfold W64; omega
  have z2 : (n == 0#64) = false := beq_false_of_ne hn0
  have z3 : decide (W64 n ≤ W64 v) = true := by rw [decide_eq_true_eq]; unfold W64; omega
  clear hn0 hv
  go_enter Tryz.func46, Tryz.ntmps46
  go_wp2
  go_returns
  exact ⟨rfl, New.refl _⟩
theorem cmpN_not (r n : BitVec 64) (hr : ¬ r.toNat < eachN n) : ∃ c : Int, decide (0 ≤ c) = true ∧ ∀ w : World, Calls Tryz.prog 76 #[.agg #[.int .u64 0, .int .u64 (W64 r)], .agg #[.int .u64 (W64 (eachNHi n)), .int .u64 (W64 (eachNLo n))]] w fun e w' => e = .returned (.int .i64 c) ∧ New w w' := by
  refine ⟨if eachN n < r.toNat then 1 else 0, by split <;> rfl, fun w => ?_⟩
  have hc := wcmp_two 0#64 r (eachNHi n) (eachNLo n) w
  rw [two_eachN, two_low, if_neg hr, show W64 0#64 = 0 by decide] at hc
  exact hc
theorem cmpN_yes (r n : BitVec 64) (hr : r.toNat < eachN n) (w : World) : Calls Tryz.prog 76 #[.agg #[.int .u64 0, .int .u64 (W64 r)], .agg #[.int .u64 (W64 (eachNHi n)), .int .u64 (W64 (eachNLo n))]] w fun e w' => e = .returned (.int .i64 (-1)) ∧ New w w' := by
  have hc := wcmp_two 0#64 r (eachNHi n) (eachNLo n) w
  rw [two_eachN, two_low, if_pos hr, show W64 0#64 = 0 by decide] at hc
  exact hc
set_option maxHeartbeats 1000000 in
theorem wordN_over (v r n : BitVec 64) (hn0 : ¬ n = 0#64) (hv : v.toNat < n.toNat) (hr : ¬ r.toNat < eachN n) (w : World) : Calls Tryz.prog 46 #[.int .u64 (W64 v), .int .u64 (W64 r), .int .u64 (W64 n)] w fun e w' => e = .returned (.tuple #[.int .u64 0, .int .i64 2]) ∧ New w w' := by
  have z1 : (W64 n == 0) = false := by
    have := pos_of_ne hn0
    rw [beq_eq_false_iff_ne]; unfold W64; omega
  have z2 : (n == 0#64) = false := beq_false_of_ne hn0
  have z3 : decide (W64 n ≤ W64 v) = false := by rw [decide_eq_false_iff_not]; unfold W64; omega
  obtain ⟨c, hc1, hc⟩ := cmpN_not r n hr
  have HC := Lib.hid hc
  have H3 := Lib.hid (each_l n)
  have HN := Lib.hid (New.refl w)
  generalize eachNHi n = y1 at *
  generalize eachNLo n = y0 at *
  clear hc hn0 hv hr
  go_enter Tryz.func46, Tryz.ntmps46
  go_wp2_with fail
  refine (H3.out _).mono ?_
  rintro e w9 ⟨rfl, hn⟩
  replace HN := Lib.hid (HN.out.trans hn)
  clear hn
  go_wp2_with fail
  refine (HC.out _).mono ?_
  rintro e w9 ⟨rfl, hn⟩
  replace HN := Lib.hid (HN.out.trans hn)
  clear hn
  go_wp2
  go_returns
  exact ⟨rfl, HN.out⟩
theorem ceil_quo (n : Nat) (hn : 0 < n) (N : Nat) : (N + (n - 1)) / n = N / n + if 0 < N % n then 1 else 0 := by
  have h1 := Nat.div_add_mod N n
  have h2 := Nat.mod_lt N hn
  have e : N + (n - 1) = n * (N / n) + (N % n + (n - 1)) := by omega
  rw [e, Nat.mul_add_div hn]
  congr 1
  split
  · exact Nat.div_eq_of_lt_le (by omega) (by omega)
  · rw [Nat.div_eq_of_lt (by omega)]
theorem div_first (v n : BitVec 64) (h : ¬ n = 0#64) : ∃ (y1 y0 m : BitVec 64), (∀ w, Calls Tryz.prog 78 #[.agg #[.int .u64 (W64 v), .int .u64 (W64 (lossN n))], .int .u64 (W64 n)] w fun e w' =>
    e = .returned (.tuple #[.agg #[.int .u64 (W64 y1), .int .u64 (W64 y0)], .int .u64 (W64 m)]) ∧ New w w') ∧ ((decide (0 < W64 m) = true ∧ ∀ r, y0 + (r + 1#64) = wrdN v r n) ∨ (decide (0 < W64 m) = false ∧ ∀ r, y0 + r = wrdN v r n)) := by
  have hp := pos_of_ne h
  refine ⟨_, _, _, fun w => div_parts v (lossN n) n h w, ?_⟩
  have e2 : two v (lossN n) = v.toNat * T64 + T64 % n.toNat := by unfold two; rw [loss_nat n h]; rfl
  have hq := ceil_quo n.toNat hp (v.toNat * T64 + T64 % n.toNat)
  have hm : W64 (md (two v (lossN n)) n) = (((v.toNat * T64 + T64 % n.toNat) % n.toNat : Nat) : Int) := by unfold W64; rw [md_nat h, e2]
  rw [hm, e2]
  have key : ∀ (Q k : Nat) (r : BitVec 64), BitVec.ofNat 64 Q + (r + BitVec.ofNat 64 k) = BitVec.ofNat 64 (Q + k + r.toNat) := by
    intro Q k r
    apply BitVec.eq_of_toNat_eq
    rw [BitVec.toNat_add, BitVec.toNat_add, BitVec.toNat_ofNat, BitVec.toNat_ofNat, BitVec.toNat_ofNat]
    omega
  by_cases h0 : 0 < (v.toNat * T64 + T64 % n.toNat) % n.toNat
  · rw [if_pos h0] at hq
    left
    refine ⟨by rw [decide_eq_true_eq]; omega, fun r => ?_⟩
    unfold wrdN ceilN
    rw [hq]
    exact key _ 1 r
  · rw [if_neg h0] at hq
    right
    refine ⟨by rw [decide_eq_false_iff_not]; omega, fun r => ?_⟩
    unfold wrdN ceilN
    rw [hq]
    have := key ((v.toNat * T64 + T64 % n.toNat) / n.toNat) 0 r
    rwa [show BitVec.ofNat 64 0 = 0#64 from rfl, BitVec.add_zero] at this
set_option maxHeartbeats 1000000 in
theorem word_l (v r n : BitVec 64) (hn0 : ¬ n = 0#64) (hv : v.toNat < n.toNat) (hr : r.toNat < eachN n) (w : World) : Calls Tryz.prog 46 #[.int .u64 (W64 v), .int .u64 (W64 r), .int .u64 (W64 n)] w fun e w' => e = .returned (.tuple #[.int .u64 (W64 (wrdN v r n)), .int .i64 0]) ∧ New w w' := by
  have z1 : (W64 n == 0) = false := by
    have := pos_of_ne hn0
    rw [beq_eq_false_iff_ne]; unfold W64; omega
  have z2 : (n == 0#64) = false := beq_false_of_ne hn0
  have z3 : decide (W64 n ≤ W64 v) = false := by rw [decide_eq_false_iff_not]; unfold W64; omega
  obtain ⟨y1, y0, m, hd, hcase⟩ := div_first v n hn0
  have HD := Lib.hid hd
  have HC := Lib.hid (cmpN_yes r n hr)
  have H1 := Lib.hid (loss_l n)
  have H3 := Lib.hid (each_l n)
  have HN := Lib.hid (New.refl w)
  generalize wrdN v = wv at *
  generalize eachNHi n = u1 at *
  generalize eachNLo n = u0 at *
  generalize lossN n = L at *
  clear hd hn0 hv hr
  rcases hcase with ⟨hm, hres⟩ | ⟨hm, hres⟩
  all_goals (
    have HR := Lib.hid (hres r)
    clear hres
    generalize wv r n = res at *
    go_enter Tryz.func46, Tryz.ntmps46
    go_wp2_with fail
    refine (H3.out _).mono ?_
    rintro e w9 ⟨rfl, hn⟩
    replace HN := Lib.hid (HN.out.trans hn)
    clear hn
    go_wp2_with fail
    refine (HC.out _).mono ?_
    rintro e w9 ⟨rfl, hn⟩
    replace HN := Lib.hid (HN.out.trans hn)
    clear hn
    go_wp2_with fail
    refine (H1.out _).mono ?_
    rintro e w9 ⟨rfl, hn⟩
    replace HN := Lib.hid (HN.out.trans hn)
    clear hn
    go_wp2_with fail
    refine (HD.out _).mono ?_
    rintro e w9 ⟨rfl, hn⟩
    replace HN := Lib.hid (HN.out.trans hn)
    clear hn
    have hx := heap_alloc_new w9 (.cells #[.int .u64 (W64 y1), .int .u64 (W64 y0)] 119)
    have hn2 := (New.refl w9).alloc (.cells #[.int .u64 (W64 y1), .int .u64 (W64 y0)] 119)
    obtain ⟨w2, hw2⟩ : ∃ w2, w9.alloc (.cells #[.int .u64 (W64 y1), .int .u64 (W64 y0)] 119) = w2 := ⟨_, rfl⟩
    rw [hw2] at hx hn2
    obtain ⟨q, hq⟩ : ∃ q, w9.heap.size = q := ⟨_, rfl⟩
    rw [hq] at hx
    have x0 := cell_of_row _ _ 0 _ _ _ hx
    have x1 := cell_of_row _ _ 1 _ _ _ hx
    have HN2 := Lib.hid (HN.out.trans hn2)
    have HE := Lib.hid (show w9.alloc (.cells #[.int .u64 (W64 y1), .int .u64 (W64 y0)] 119) = w2 ∧ w9.heap.size = q from ⟨hw2, hq⟩)
    clear hx hn2 hw2 hq
    go_wp2_with (rw [HE.out.1, HE.out.2])
    go_returns
    rw [HR.out]
    exact ⟨rfl, HN2.out⟩)
end Go.Proofs.YtdjlbpgjbgepdaaGreat
end
section
/- The laws LemireWords, LemireEven, walked. -/
namespace Go.Proofs.YtdjlbpgjbgepdaaGreat
open Go.RowKit Go.Bv
set_option linter.unusedVariables false
theorem rank_zero_l (x : BitVec 64) (w : World) : Calls Tryz.prog 75 #[.int .u64 (W64 x), .int .u64 0] w fun e w' => e = .returned (.tuple #[.int .u64 0, .int .u64 0, .int .i64 8]) ∧ New w w' := by
  go_enter Tryz.func75, Tryz.ntmps75
  go_wp2
  go_returns
  exact ⟨rfl, New.refl _⟩
set_option maxHeartbeats 1000000 in
theorem rank_no_l (x n : BitVec 64) (hn0 : ¬ n = 0#64) (ht : takN x n = false) (w : World) : Calls Tryz.prog 75 #[.int .u64 (W64 x), .int .u64 (W64 n)] w fun e w' => e = .returned (.tuple #[.int .u64 0, .int .u64 0, .int .i64 2]) ∧ New w w' := by
  have HTK := Lib.hid (takes_l x n hn0)
  rw [ht] at HTK
  have HN := Lib.hid (New.refl w)
  have hz2 : (W64 n == 0) = false := by
    have := pos_of_ne hn0
    rw [beq_eq_false_iff_ne]; unfold W64; omega
  have hz3 : (n == 0#64) = false := beq_false_of_ne hn0
  clear ht hn0
  go_enter Tryz.func75, Tryz.ntmps75
  go_wp2_with fail
  refine (HTK.out _).mono ?_
  rintro e w9 ⟨rfl, hn⟩
  replace HN := Lib.hid (HN.out.trans hn)
  clear hn
  go_wp2
  go_returns
  exact ⟨rfl, HN.out⟩
end Go.Proofs.YtdjlbpgjbgepdaaGreat
end
section
/- Contracts of the document's own layer 38: Take; a limit 0. -/
namespace Go.Proofs.YtdjlbpgjbgepdaaGreat
open Go.RowKit Go.Bv
set_option linter.unusedVariables false
set_option maxHeartbeats 1000000 in
theorem rtake_l (a : Option Addr) (len cap : Nat) (l : List (BitVec 64)) (n : BitVec 64) (hn0 : ¬ n = 0#64) (w : World) (hq : QRow w a len cap l) :
    Calls Tryz.prog 31 #[.slice a len cap, .int .u64 (W64 n)] w fun e w' =>
      ((∃ j, j < l.length ∧ (∀ i, i < j → takN (l.getD i 0) n = false) ∧ takN (l.getD j 0) n = true ∧ e = .returned (.tuple #[.agg #[.int .u64 (W64 (telN (l.getD j 0) n)), .int .u64 (W64 (rnkN (l.getD j 0) n)), .int .i64 ((j : Int) + 1)], .bool true])) ∨
      ((∀ i, i < l.length → takN (l.getD i 0) n = false) ∧ e = .returned (.tuple #[.agg #[.int .u64 0, .int .u64 0, .int .i64 0], .bool false]))) ∧ New w w' := by
  have hmost := hq.most
  obtain rfl := hq.len_eq
  have hr := heap_alloc_new w (.cells #[.int .u64 0, .int .u64 0, .int .i64 0] 53)
  have hnw := (New.refl w).alloc (.cells #[.int .u64 0, .int .u64 0, .int .i64 0] 53)
  have HQ := Lib.hid hq
  have HR0 := Lib.hid hr
  have HN0 := Lib.hid hnw
  have HH0 := Lib.hid hn0
  have hsz : (w.alloc (.cells #[.int .u64 0, .int .u64 0, .int .i64 0] 53)).heap.size = w.heap.size + 1 := by simp
  clear hq hr hnw hn0
  go_enter Tryz.func31, Tryz.ntmps31
  go_wp2_with fail
  generalize w.alloc (.cells #[.int .u64 0, .int .u64 0, .int .i64 0] 53) = w0 at *
  go_loopw [12] (fun u wr => ∃ j : Nat, j ≤ l.length ∧ u = .int .i64 j ∧ New w0 wr ∧ Hid (∀ i, i < j → takN (l.getD i 0) n = false)) (fun u _ => l.length - (intOf u).toNat)
  case atStart => exact ⟨0, Nat.zero_le _, rfl, New.refl _, Lib.hid (fun i h => by omega)⟩
  case round =>
    obtain ⟨j, hj, rfl, hnr, HNO⟩ := hrel
    have hrr := (hnr.block w.heap.size (by omega)).trans HR0.out
    have HNR := Lib.hid hnr
    by_cases hlt : (j : Int) < (l.length : Int)
    · obtain ⟨b, off, rfl, hcell⟩ := ((HQ.out.stay HN0.out).stay hnr).addr (by omega)
      have hck := hcell j (by omega)
      have HTK := Lib.hid (rtakes_l (l.getD j 0) n HH0.out)
      have HTL := Lib.hid (rrank_l (l.getD j 0) n HH0.out)
      obtain ⟨z, hz⟩ : ∃ z, l.getD j 0 = z := ⟨_, rfl⟩
      rw [hz] at hck HTK HTL
      have HZ := Lib.hid hz
      have HRR := Lib.hid hrr
      clear hcell hz hnr hrr
      go_wp2_with fail
      refine (HTK.out _).mono ?_
      rintro e w1 ⟨rfl, hn1⟩
      have HN1 := Lib.hid (HNR.out.trans hn1)
      have HR1 := Lib.hid ((hn1.block _ (lt_of_block HRR.out)).trans HRR.out)
      clear hn1 HRR hck
      rcases htk : takN z n
      · have HNO2 : Hid (∀ i, i < j + 1 → takN (l.getD i 0) n = false) := Lib.hid (fun i h1 => by
          by_cases e : i = j
          · subst e; rw [HZ.out]; exact htk
          · exact HNO.out i (by omega))
        clear htk
        go_wp2
        exact ⟨⟨j + 1, by omega, by go_num, HN1.out, HNO2⟩, by simp [intOf]; omega⟩
      · have HTT := Lib.hid htk
        clear htk
        go_wp2_with fail
        refine (HTL.out HTT.out _).mono ?_
        rintro e w2 ⟨rfl, hn2⟩
        have HN2 := Lib.hid (HN1.out.trans hn2)
        have hrr := (hn2.block _ (lt_of_block HR1.out)).trans HR1.out
        have r0 := cell_of_row _ _ 0 _ _ _ hrr
        have r1 := cell_of_row _ _ 1 _ _ _ hrr
        have r2 := cell_of_row _ _ 2 _ _ _ hrr
        have rf : ∀ i, w2.frozen? ⟨w.heap.size, i, none⟩ = false := fun i => frozen_of_row _ _ _ _ _ hrr
        clear hn2 hrr
        go_wp2
        refine bodyPost_ret (by simp [results, Tryz.results31, go_sem, r0, r1, r2]; try rfl) rfl ?_
        refine ⟨Or.inl ⟨j, by omega, HNO.out, by rw [HZ.out]; exact HTT.out, by rw [HZ.out]⟩, (((HN0.out.trans HN2.out).setCell (Nat.le_refl _) _).setCell (Nat.le_refl _) _).setCell (Nat.le_refl _) _⟩
    · obtain rfl : j = l.length := by omega
      have r0 := cell_of_row _ _ 0 _ _ _ hrr
      have r1 := cell_of_row _ _ 1 _ _ _ hrr
      have r2 := cell_of_row _ _ 2 _ _ _ hrr
      have rf : ∀ i, wr.frozen? ⟨w.heap.size, i, none⟩ = false := fun i => frozen_of_row _ _ _ _ _ hrr
      clear hrr hnr
      go_wp2
      refine bodyPost_ret (by simp [results, Tryz.results31, go_sem, r0, r1, r2]; try rfl) rfl ?_
      refine ⟨Or.inr ⟨HNO.out, rfl⟩, (((HN0.out.trans HNR.out).setCell (Nat.le_refl _) _).setCell (Nat.le_refl _) _).setCell (Nat.le_refl _) _⟩
set_option maxHeartbeats 1000000 in
theorem take_l0 (b : Nat) (w : World) : Calls Tryz.prog 44 #[.pointer (some ⟨b, 0, none⟩), .int .u64 0] w fun e w' =>
    e = .returned (.tuple #[.agg #[.int .u64 0, .int .u64 0, .int .i64 0], .int .i64 8]) ∧ New w w' := by
  go_enter Tryz.func44, Tryz.ntmps44
  go_wp2_with fail
  go_step3
  go_wp2_with fail
  rw [Exit.noGoto_ret]
  first
  | (go_returns; exact ⟨rfl, (New.refl _).alloc _⟩)
  | (refine bodyPost_ret (by simp [results, Tryz.results44, go_sem]; try rfl) rfl ?_
     exact ⟨rfl, (New.refl w).alloc _⟩)
end Go.Proofs.YtdjlbpgjbgepdaaGreat
end
