/- Contracts of wide.Add, wide.Mul, wide.Div and of modn.Add, Sub, Mul: for all words. -/
import Derived.Test.YtadaaihbeapibaaDiv
import Derived.Laws.Externs
import Derived.Handy
namespace Go.Bv
open Go Go.RowKit
set_option linter.unusedVariables false
/-- a number modulo a word; 0 modulo 0 -/
def md (N : Nat) (n : BitVec 64) : BitVec 64 := if n = 0#64 then 0#64 else BitVec.ofNat 64 (N % n.toNat)
theorem pos_of_ne {n : BitVec 64} (h : ¬ n = 0#64) : 0 < n.toNat := by
  rcases Nat.eq_zero_or_pos n.toNat with e | e
  · exact absurd (BitVec.eq_of_toNat_eq (by rw [e]; rfl)) h
  · exact e
theorem md_nat {N : Nat} {n : BitVec 64} (h : ¬ n = 0#64) : (md N n).toNat = N % n.toNat := by
  unfold md
  rw [if_neg h, BitVec.toNat_ofNat]
  exact Nat.mod_eq_of_lt (Nat.lt_trans (Nat.mod_lt _ (pos_of_ne h)) n.isLt)
theorem md_zero (N : Nat) : md N 0#64 = 0#64 := by unfold md; rw [if_pos rfl]
theorem md_lt {N : Nat} {n : BitVec 64} (h : ¬ n = 0#64) : (md N n).toNat < n.toNat := by rw [md_nat h]; exact Nat.mod_lt _ (pos_of_ne h)
theorem md_eq {N : Nat} {n x : BitVec 64} (h : ¬ n = 0#64) (hx : x.toNat = N % n.toNat) : x = md N n := by
  apply BitVec.eq_of_toNat_eq; rw [md_nat h]; exact hx
theorem divR_md {hi lo b : BitVec 64} (h : ¬ b = 0#64) : divR (divR 0#64 hi b) lo b = md (two hi lo) b := by
  have hp := pos_of_ne h
  apply md_eq h
  rw [divR_nat hp]
  unfold two
  rw [divR_nat hp]
  unfold two
  rw [show (0#64).toNat = 0 from rfl, Nat.zero_mul, Nat.zero_add, Nat.add_mod, Nat.mul_mod, Nat.mod_mod, ← Nat.mul_mod, ← Nat.add_mod]
def hiN (N : Nat) : BitVec 64 := BitVec.ofNat 64 (N / 18446744073709551616)
def loN (N : Nat) : BitVec 64 := BitVec.ofNat 64 N
theorem two_parts (N : Nat) (h : N < 340282366920938463463374607431768211456) : two (hiN N) (loN N) = N := by
  unfold two hiN loN
  rw [BitVec.toNat_ofNat, BitVec.toNat_ofNat, Nat.mod_eq_of_lt (a := N / 18446744073709551616) (by omega)]
  omega
end Go.Bv
namespace Go.Proofs.Ytadaaihbeapibaa
open Go.RowKit Go.Bv
set_option linter.unusedVariables false
theorem add64_run (x y c : BitVec 64) (hc : c.toNat ≤ 1) (w : World) :
    (callFunc 73 #[.int .u64 (W64 x), .int .u64 (W64 y), .int .u64 (W64 c)]).run Try.prog w = .ok (.value (.tuple #[.int .u64 (W64 (loN (x.toNat + y.toNat + c.toNat))), .int .u64 (W64 (hiN (x.toNat + y.toNat + c.toNat)))])) w := by
  have hx := x.isLt
  have hy := y.isLt
  have e1 : (W64 x + W64 y + W64 c) % 18446744073709551616 = W64 (loN (x.toNat + y.toNat + c.toNat)) := by
    unfold W64 loN; rw [BitVec.toNat_ofNat]; omega
  have e2 : (W64 x + W64 y + W64 c) / 18446744073709551616 = W64 (hiN (x.toNat + y.toNat + c.toNat)) := by
    unfold W64 hiN; rw [BitVec.toNat_ofNat, Nat.mod_eq_of_lt (by omega)]; omega
  rw [run_callFunc_extern Try.func73 (by kernel_rfl) (by kernel_rfl) (by kernel_rfl) (e := add64Entry) (by kernel_rfl), run_add64 (W64 x) (W64 y) (W64 c) (nn64 x) (nn64 y) (nn64 c) (by unfold W64; omega), e1, e2]
  rfl
theorem add64_run0 (x y : BitVec 64) (w : World) :
    (callFunc 73 #[.int .u64 (W64 x), .int .u64 (W64 y), .int .u64 0]).run Try.prog w = .ok (.value (.tuple #[.int .u64 (W64 (loN (x.toNat + y.toNat))), .int .u64 (W64 (hiN (x.toNat + y.toNat)))])) w := by
  have h := add64_run x y 0#64 (by decide) w
  rw [show W64 0#64 = 0 from W64_lit 0 (by omega)] at h
  exact h
set_option maxHeartbeats 1000000 in
theorem wadd_any (a1 a0 b1 b0 : BitVec 64) (w : World) :
    Calls Try.prog 54 #[.agg #[.int .u64 (W64 a1), .int .u64 (W64 a0)], .agg #[.int .u64 (W64 b1), .int .u64 (W64 b0)]] w fun e w' =>
      e = .returned (.tuple #[.agg #[.int .u64 (W64 (loN (a1.toNat + b1.toNat + (hiN (a0.toNat + b0.toNat)).toNat))), .int .u64 (W64 (loN (a0.toNat + b0.toNat)))], .bool (hiN (a1.toNat + b1.toNat + (hiN (a0.toNat + b0.toNat)).toNat) == 1#64)]) ∧ New w w' := by
  have hc : (hiN (a0.toNat + b0.toNat)).toNat ≤ 1 := by
    have := a0.isLt; have := b0.isLt
    unfold hiN; rw [BitVec.toNat_ofNat]; omega
  have h1 := fun w => add64_run0 a0 b0 w
  have h2 := fun w => add64_run a1 b1 (hiN (a0.toNat + b0.toNat)) hc w
  clear hc
  generalize loN (a1.toNat + b1.toNat + (hiN (a0.toNat + b0.toNat)).toNat) = s1 at *
  generalize hiN (a1.toNat + b1.toNat + (hiN (a0.toNat + b0.toNat)).toNat) = o1 at *
  generalize hiN (a0.toNat + b0.toNat) = c1 at *
  generalize loN (a0.toNat + b0.toNat) = s0 at *
  go_enter Try.func54, Try.ntmps54
  go_wp2
  go_returns
  exact ⟨rfl, (((New.refl w).alloc _).alloc _).alloc _⟩
set_option maxHeartbeats 1000000 in
theorem wmul_any (x y : BitVec 64) (w : World) :
    Calls Try.prog 56 #[.int .u64 (W64 x), .int .u64 (W64 y)] w fun e w' =>
      e = .returned (.agg #[.int .u64 (W64 (hiN (x.toNat * y.toNat))), .int .u64 (W64 (loN (x.toNat * y.toNat)))]) ∧ New w w' := by
  have hx := x.isLt
  have hy := y.isLt
  have hm : ∀ w, Calls Try.prog 75 #[.int .u64 (W64 x), .int .u64 (W64 y)] w fun e w' => e = .returned (.tuple #[.int .u64 (W64 (hiN (x.toNat * y.toNat))), .int .u64 (W64 (loN (x.toNat * y.toNat)))]) ∧ w' = w := by
    intro w
    have h := Try.bits_Mul64 x.toNat y.toNat hx hy w
    have hl : x.toNat * y.toNat / 18446744073709551616 < 18446744073709551616 := by
      rw [Nat.div_lt_iff_lt_mul (by omega)]
      exact Nat.mul_lt_mul_of_lt_of_lt hx hy
    have e1 : ((x.toNat * y.toNat / 18446744073709551616 : Nat) : Int) = W64 (hiN (x.toNat * y.toNat)) := by
      unfold W64 hiN; rw [BitVec.toNat_ofNat, Nat.mod_eq_of_lt hl]
    have e2 : ((x.toNat * y.toNat % 18446744073709551616 : Nat) : Int) = W64 (loN (x.toNat * y.toNat)) := by
      unfold W64 loN; rw [BitVec.toNat_ofNat]
    rw [e1, e2] at h
    exact h
  have HM := Lib.hid hm
  clear hm hx hy
  go_enter Try.func56, Try.ntmps56
  go_wp2_with fail
  refine (HM.out _).mono ?_
  rintro e w' ⟨rfl, rfl⟩
  go_wp2
  go_returns
  exact ⟨rfl, (New.refl _).alloc _⟩
set_option maxHeartbeats 1000000 in
theorem wdiv_any (hi lo b : BitVec 64) (h : ¬ b = 0#64) (w : World) :
    Calls Try.prog 55 #[.agg #[.int .u64 (W64 hi), .int .u64 (W64 lo)], .int .u64 (W64 b)] w fun e w' =>
      e = .returned (.tuple #[.agg #[.int .u64 (W64 (divQ 0#64 hi b)), .int .u64 (W64 (divQ (divR 0#64 hi b) lo b))], .int .u64 (W64 (md (two hi lo) b))]) ∧ New w w' := by
  have hp := pos_of_ne h
  have hb : (b == 0#64) = false := by rw [beq_eq_false_iff_ne]; exact h
  have h1 := fun w => div64_any 0#64 hi b hp w
  rw [show W64 0#64 = 0 from W64_lit 0 (by omega)] at h1
  have h2 := fun w => div64_any (divR 0#64 hi b) lo b (by rw [divR_nat hp]; exact Nat.mod_lt _ hp) w
  rw [divR_md h] at h2
  have H1 := Lib.hid h1
  have H2 := Lib.hid h2
  clear h1 h2
  generalize divQ (divR 0#64 hi b) lo b = q0 at *
  generalize divR 0#64 hi b = r1 at *
  generalize divQ 0#64 hi b = q1 at *
  generalize md (two hi lo) b = r0 at *
  go_enter Try.func55, Try.ntmps55
  go_wp2_with fail
  have hA : ((w.alloc (.cells #[.int .u64 (W64 hi), .int .u64 (W64 lo)] 35)).alloc (.cells #[.int .u64 0, .int .u64 0] 35)).heap[w.heap.size]? = some (.cells #[.int .u64 (W64 hi), .int .u64 (W64 lo)] 35 (0, 0)) := heap_alloc2_old _ _ _
  have hB : ((w.alloc (.cells #[.int .u64 (W64 hi), .int .u64 (W64 lo)] 35)).alloc (.cells #[.int .u64 0, .int .u64 0] 35)).heap[w.heap.size + 1]? = some (.cells #[.int .u64 0, .int .u64 0] 35 (0, 0)) := heap_alloc2_new _ _ _
  have hN0 : New w ((w.alloc (.cells #[.int .u64 (W64 hi), .int .u64 (W64 lo)] 35)).alloc (.cells #[.int .u64 0, .int .u64 0] 35)) := ((New.refl w).alloc _).alloc _
  generalize (w.alloc (.cells #[.int .u64 (W64 hi), .int .u64 (W64 lo)] 35)).alloc (.cells #[.int .u64 0, .int .u64 0] 35) = w0 at hA hB hN0 ⊢
  refine (H1.out _).mono ?_
  rintro e w1 ⟨rfl, hn1⟩
  have hA1 : w1.heap[w.heap.size]? = some (.cells #[.int .u64 (W64 hi), .int .u64 (W64 lo)] 35 (0, 0)) := by rw [hn1.block _ (lt_of_block hA)]; exact hA
  have c1 : w1.cell? ⟨w.heap.size, 1, none⟩ = some (.int .u64 (W64 lo)) := by rw [cell_of_row _ _ _ _ _ _ hA1]; rfl
  have HB1 : Hid (w1.heap[w.heap.size + 1]? = some (.cells #[.int .u64 0, .int .u64 0] 35 (0, 0))) := Lib.hid (by rw [hn1.block _ (lt_of_block hB)]; exact hB)
  have HN1 := Lib.hid (hN0.trans hn1)
  clear hA hB hN0 hn1 hA1
  go_wp2_with fail
  refine (H2.out _).mono ?_
  rintro e w2 ⟨rfl, hn2⟩
  have hB2 : w2.heap[w.heap.size + 1]? = some (.cells #[.int .u64 0, .int .u64 0] 35 (0, 0)) := by rw [hn2.block _ (lt_of_block HB1.out)]; exact HB1.out
  have y0 : w2.cell? ⟨w.heap.size + 1, 0, none⟩ = some (.int .u64 0) := by rw [cell_of_row _ _ _ _ _ _ hB2]; rfl
  have y1 : w2.cell? ⟨w.heap.size + 1, 1, none⟩ = some (.int .u64 0) := by rw [cell_of_row _ _ _ _ _ _ hB2]; rfl
  have yf := fun i => frozen_of_row w2 (w.heap.size + 1) i _ _ hB2
  have HN2 := Lib.hid (HN1.out.trans hn2)
  clear hB2 hn2 c1
  go_wp2
  first
    | go_returns
    | refine bodyPost_ret (by simp [results, Try.results55, go_sem, y0, y1]; try rfl) rfl ?_
  exact ⟨rfl, (HN2.out.setCell (by show _ ≤ w.heap.size + 1; omega) _).setCell (by show _ ≤ w.heap.size + 1; omega) _⟩
set_option maxHeartbeats 1000000 in
theorem wdiv_zero (hi lo : BitVec 64) (w : World) :
    Calls Try.prog 55 #[.agg #[.int .u64 (W64 hi), .int .u64 (W64 lo)], .int .u64 (W64 0#64)] w fun e w' =>
      e = .returned (.tuple #[.agg #[.int .u64 0, .int .u64 0], .int .u64 0]) ∧ New w w' := by
  go_enter Try.func55, Try.ntmps55
  go_wp2
  go_returns
  exact ⟨rfl, ((New.refl w).alloc _).alloc _⟩
theorem lo_zero : W64 0#64 = 0 := W64_lit 0 (by omega)
theorem wadd_lo (a b : BitVec 64) (w : World) :
    Calls Try.prog 54 #[.agg #[.int .u64 0, .int .u64 (W64 a)], .agg #[.int .u64 0, .int .u64 (W64 b)]] w fun e w' =>
      ∃ o : Bool, e = .returned (.tuple #[.agg #[.int .u64 (W64 (hiN (a.toNat + b.toNat))), .int .u64 (W64 (loN (a.toNat + b.toNat)))], .bool o]) ∧ New w w' := by
  have h := wadd_any 0#64 a 0#64 b w
  rw [lo_zero, show (0#64).toNat = 0 from rfl, Nat.zero_add, show loN (hiN (a.toNat + b.toNat)).toNat = hiN (a.toNat + b.toNat) by unfold loN; rw [ofNat_self]] at h
  exact h.mono fun e w' he => ⟨_, he⟩
set_option maxHeartbeats 1000000 in
theorem madd_any (a b n : BitVec 64) (w : World) :
    Calls Try.prog 14 #[.int .u64 (W64 a), .int .u64 (W64 b), .int .u64 (W64 n)] w fun e w' => e = .returned (.int .u64 (W64 (md (a.toNat + b.toNat) n))) ∧ New w w' := by
  have ha := a.isLt
  have hb := b.isLt
  have ht := two_parts (a.toNat + b.toNat) (by omega)
  by_cases h : n = 0#64
  · subst h
    have HZ := Lib.hid (md_zero (a.toNat + b.toNat))
    have HW := Lib.hid (wadd_lo a b)
    have HD := Lib.hid (wdiv_zero (hiN (a.toNat + b.toNat)) (loN (a.toNat + b.toNat)))
    clear ht ha hb
    generalize hiN (a.toNat + b.toNat) = s1 at *
    generalize loN (a.toNat + b.toNat) = s0 at *
    go_enter Try.func14, Try.ntmps14
    go_wp2_with fail
    refine (HW.out _).mono ?_
    rintro e w1 ⟨o, rfl, hn1⟩
    go_wp2_with fail
    refine (HD.out _).mono ?_
    rintro e w2 ⟨rfl, hn2⟩
    go_wp2
    go_ret
    rw [HZ.out, lo_zero]
    exact ⟨rfl, ((hn1.alloc _).trans hn2).alloc _⟩
  · have hd := fun w => wdiv_any (hiN (a.toNat + b.toNat)) (loN (a.toNat + b.toNat)) n h w
    rw [ht] at hd
    have HW := Lib.hid (wadd_lo a b)
    have HD := Lib.hid hd
    clear ht ha hb hd
    generalize divQ (divR 0#64 (hiN (a.toNat + b.toNat)) n) (loN (a.toNat + b.toNat)) n = q0 at *
    generalize divQ 0#64 (hiN (a.toNat + b.toNat)) n = q1 at *
    generalize hiN (a.toNat + b.toNat) = s1 at *
    generalize loN (a.toNat + b.toNat) = s0 at *
    generalize md (a.toNat + b.toNat) n = m at *
    go_enter Try.func14, Try.ntmps14
    go_wp2_with fail
    refine (HW.out _).mono ?_
    rintro e w1 ⟨o, rfl, hn1⟩
    go_wp2_with fail
    refine (HD.out _).mono ?_
    rintro e w2 ⟨rfl, hn2⟩
    go_wp2
    go_ret
    exact ⟨rfl, ((hn1.alloc _).trans hn2).alloc _⟩
theorem mul_lt (a b : BitVec 64) : a.toNat * b.toNat < 340282366920938463463374607431768211456 := Nat.mul_lt_mul_of_lt_of_lt a.isLt b.isLt
set_option maxHeartbeats 1000000 in
theorem mmul_any (a b n : BitVec 64) (w : World) :
    Calls Try.prog 16 #[.int .u64 (W64 a), .int .u64 (W64 b), .int .u64 (W64 n)] w fun e w' => e = .returned (.int .u64 (W64 (md (a.toNat * b.toNat) n))) ∧ New w w' := by
  have ht := two_parts (a.toNat * b.toNat) (mul_lt a b)
  by_cases h : n = 0#64
  · subst h
    have HZ := Lib.hid (md_zero (a.toNat * b.toNat))
    have HW := Lib.hid (wmul_any a b)
    have HD := Lib.hid (wdiv_zero (hiN (a.toNat * b.toNat)) (loN (a.toNat * b.toNat)))
    clear ht
    generalize hiN (a.toNat * b.toNat) = s1 at *
    generalize loN (a.toNat * b.toNat) = s0 at *
    go_enter Try.func16, Try.ntmps16
    go_wp2_with fail
    refine (HW.out _).mono ?_
    rintro e w1 ⟨rfl, hn1⟩
    go_wp2_with fail
    refine (HD.out _).mono ?_
    rintro e w2 ⟨rfl, hn2⟩
    go_wp2
    go_ret
    rw [HZ.out, lo_zero]
    exact ⟨rfl, (hn1.trans hn2).alloc _⟩
  · have hd := fun w => wdiv_any (hiN (a.toNat * b.toNat)) (loN (a.toNat * b.toNat)) n h w
    rw [ht] at hd
    have HW := Lib.hid (wmul_any a b)
    have HD := Lib.hid hd
    clear ht hd
    generalize divQ (divR 0#64 (hiN (a.toNat * b.toNat)) n) (loN (a.toNat * b.toNat)) n = q0 at *
    generalize divQ 0#64 (hiN (a.toNat * b.toNat)) n = q1 at *
    generalize hiN (a.toNat * b.toNat) = s1 at *
    generalize loN (a.toNat * b.toNat) = s0 at *
    generalize md (a.toNat * b.toNat) n = m at *
    go_enter Try.func16, Try.ntmps16
    go_wp2_with fail
    refine (HW.out _).mono ?_
    rintro e w1 ⟨rfl, hn1⟩
    go_wp2_with fail
    refine (HD.out _).mono ?_
    rintro e w2 ⟨rfl, hn2⟩
    go_wp2
    go_ret
    exact ⟨rfl, (hn1.trans hn2).alloc _⟩
set_option maxHeartbeats 1000000 in
theorem msub_any (a b n : BitVec 64) (w : World) :
    Calls Try.prog 20 #[.int .u64 (W64 a), .int .u64 (W64 b), .int .u64 (W64 n)] w fun e w' => e = .returned (.int .u64 (W64 (md (a.toNat + (n.toNat - b.toNat % n.toNat)) n))) ∧ New w w' := by
  by_cases h : n = 0#64
  · subst h
    have HZ := Lib.hid (md_zero (a.toNat + ((0#64).toNat - b.toNat % (0#64).toNat)))
    go_enter Try.func20, Try.ntmps20
    go_wp2
    go_ret
    rw [HZ.out, lo_zero]
    exact ⟨rfl, New.refl _⟩
  · have hb : (n == 0#64) = false := by rw [beq_eq_false_iff_ne]; exact h
    have hp := pos_of_ne h
    have hnz : ¬ W64 n = 0 := by unfold W64; omega
    have he : (n - b % n).toNat = n.toNat - b.toNat % n.toNat := by
      rw [sub_nat (by rw [BitVec.toNat_umod]; exact Nat.le_of_lt (Nat.mod_lt _ hp)), BitVec.toNat_umod]
    have ha := fun w => madd_any a (n - b % n) n w
    rw [he] at ha
    have HA := Lib.hid ha
    clear ha he hp h
    go_enter Try.func20, Try.ntmps20
    go_wp2_with fail
    refine (HA.out _).mono ?_
    rintro e w1 ⟨rfl, hn1⟩
    go_wp2
    go_ret
    exact ⟨rfl, hn1⟩
end Go.Proofs.Ytadaaihbeapibaa
