/- Contracts of wide.Add, Sub, Cmp, Mul, Div: for all numbers of two words. -/
import Derived.Test.YtbjclkjikclljaaDiv
import Derived.Laws.Externs
import Derived.Laws.StructEq
import Derived.Shelf.Spec.BitsCarry
import Derived.Handy
import Derived.ChangeKeysEq
namespace Go.Bv
open Go Go.RowKit
set_option linter.unusedVariables false
set_option maxRecDepth 100000
/-- a number modulo a word; 0 modulo 0 -/
def md (N : Nat) (n : BitVec 64) : BitVec 64 := if n = 0#64 then 0#64 else BitVec.ofNat 64 (N % n.toNat)
theorem pos_of_ne {n : BitVec 64} (h : ¬ n = 0#64) : 0 < n.toNat := by
  rcases Nat.eq_zero_or_pos n.toNat with e | e
  · exact absurd (BitVec.eq_of_toNat_eq (by rw [e]; rfl)) h
  · exact e
theorem md_nat {N : Nat} {n : BitVec 64} (h : ¬ n = 0#64) : (md N n).toNat = N % n.toNat := by
  unfold md
  rw [if_neg h, BitVec.toNat_ofNat]
  exact Nat.mod_eq_of_lt (Nat.lt_trans (Nat.mod_lt _ (pos_of_ne h)) n.isLt)
theorem md_zero (N : Nat) : md N 0#64 = 0#64 := by unfold md; rw [if_pos rfl]
theorem md_lt {N : Nat} {n : BitVec 64} (h : ¬ n = 0#64) : (md N n).toNat < n.toNat := by rw [md_nat h]; exact Nat.mod_lt _ (pos_of_ne h)
theorem md_eq {N : Nat} {n x : BitVec 64} (h : ¬ n = 0#64) (hx : x.toNat = N % n.toNat) : x = md N n := by
  apply BitVec.eq_of_toNat_eq; rw [md_nat h]; exact hx
theorem divR_md {hi lo b : BitVec 64} (h : ¬ b = 0#64) : divR (divR 0#64 hi b) lo b = md (two hi lo) b := by
  have hp := pos_of_ne h
  apply md_eq h
  rw [divR_nat hp]
  unfold two
  rw [divR_nat hp]
  unfold two
  rw [show (0#64).toNat = 0 from rfl, Nat.zero_mul, Nat.zero_add, Nat.add_mod, Nat.mul_mod, Nat.mod_mod, ← Nat.mul_mod, ← Nat.add_mod]
def hiN (N : Nat) : BitVec 64 := BitVec.ofNat 64 (N / 18446744073709551616)
def loN (N : Nat) : BitVec 64 := BitVec.ofNat 64 N
theorem two_parts (N : Nat) (h : N < 340282366920938463463374607431768211456) : two (hiN N) (loN N) = N := by
  unfold two hiN loN
  rw [BitVec.toNat_ofNat, BitVec.toNat_ofNat, Nat.mod_eq_of_lt (a := N / 18446744073709551616) (by omega)]
  omega
end Go.Bv
namespace Go.Bv
open Go Go.RowKit
set_option linter.unusedVariables false
theorem two_lt128 (a1 a0 : BitVec 64) : two a1 a0 < 2 ^ 128 := by
  have := a1.isLt; have := a0.isLt; unfold two; omega
theorem two_hi (a1 a0 : BitVec 64) : BitVec.ofNat 64 (two a1 a0 / 2 ^ 64) = a1 := by
  apply BitVec.eq_of_toNat_eq
  have := a1.isLt; have := a0.isLt
  rw [BitVec.toNat_ofNat]; unfold two; omega
theorem two_lo (a1 a0 : BitVec 64) : BitVec.ofNat 64 (two a1 a0) = a0 := by
  apply BitVec.eq_of_toNat_eq
  have := a1.isLt; have := a0.isLt
  rw [BitVec.toNat_ofNat]; unfold two; omega
theorem two_inj {a1 a0 b1 b0 : BitVec 64} : (a1 == b1 && a0 == b0) = decide (two a1 a0 = two b1 b0) := by
  rw [Bool.eq_iff_iff, Bool.and_eq_true, beq_iff_eq, beq_iff_eq, decide_eq_true_eq]
  constructor
  · rintro ⟨rfl, rfl⟩; rfl
  · intro h
    exact ⟨by rw [← two_hi a1 a0, h, two_hi], by rw [← two_lo a1 a0, h, two_lo]⟩
end Go.Bv
namespace Go.Proofs.Ytbjclkjikclljaa
open Go.RowKit Go.Bv
set_option linter.unusedVariables false
theorem lo_zero : W64 0#64 = 0 := W64_lit 0 (by omega)
set_option maxHeartbeats 1000000 in
theorem wmul_any (x y : BitVec 64) (w : World) :
    Calls Try.prog 47 #[.int .u64 (W64 x), .int .u64 (W64 y)] w fun e w' =>
      e = .returned (.agg #[.int .u64 (W64 (hiN (x.toNat * y.toNat))), .int .u64 (W64 (loN (x.toNat * y.toNat)))]) ∧ New w w' := by
  have hx := x.isLt
  have hy := y.isLt
  have hm : ∀ w, Calls Try.prog 51 #[.int .u64 (W64 x), .int .u64 (W64 y)] w fun e w' => e = .returned (.tuple #[.int .u64 (W64 (hiN (x.toNat * y.toNat))), .int .u64 (W64 (loN (x.toNat * y.toNat)))]) ∧ w' = w := by
    intro w
    have h := Try.bits_Mul64 x.toNat y.toNat hx hy w
    have hl : x.toNat * y.toNat / 18446744073709551616 < 18446744073709551616 := by
      rw [Nat.div_lt_iff_lt_mul (by omega)]
      exact Nat.mul_lt_mul_of_lt_of_lt hx hy
    have e1 : ((x.toNat * y.toNat / 18446744073709551616 : Nat) : Int) = W64 (hiN (x.toNat * y.toNat)) := by
      unfold W64 hiN; rw [BitVec.toNat_ofNat, Nat.mod_eq_of_lt hl]
    have e2 : ((x.toNat * y.toNat % 18446744073709551616 : Nat) : Int) = W64 (loN (x.toNat * y.toNat)) := by
      unfold W64 loN; rw [BitVec.toNat_ofNat]
    rw [e1, e2] at h
    exact h
  have HM := Lib.hid hm
  clear hm hx hy
  go_enter Try.func47, Try.ntmps47
  go_wp2_with fail
  refine (HM.out _).mono ?_
  rintro e w' ⟨rfl, rfl⟩
  go_wp2
  go_returns
  exact ⟨rfl, (New.refl _).alloc _⟩
set_option maxHeartbeats 1000000 in
theorem wdiv_any (hi lo b : BitVec 64) (h : ¬ b = 0#64) (w : World) :
    Calls Try.prog 50 #[.agg #[.int .u64 (W64 hi), .int .u64 (W64 lo)], .int .u64 (W64 b)] w fun e w' =>
      e = .returned (.tuple #[.agg #[.int .u64 (W64 (divQ 0#64 hi b)), .int .u64 (W64 (divQ (divR 0#64 hi b) lo b))], .int .u64 (W64 (md (two hi lo) b))]) ∧ New w w' := by
  have hp := pos_of_ne h
  have hb : (b == 0#64) = false := by rw [beq_eq_false_iff_ne]; exact h
  have h1 := fun w => div64_any 0#64 hi b hp w
  rw [show W64 0#64 = 0 from W64_lit 0 (by omega)] at h1
  have h2 := fun w => div64_any (divR 0#64 hi b) lo b (by rw [divR_nat hp]; exact Nat.mod_lt _ hp) w
  rw [divR_md h] at h2
  have H1 := Lib.hid h1
  have H2 := Lib.hid h2
  clear h1 h2
  generalize divQ (divR 0#64 hi b) lo b = q0 at *
  generalize divR 0#64 hi b = r1 at *
  generalize divQ 0#64 hi b = q1 at *
  generalize md (two hi lo) b = r0 at *
  go_enter Try.func50, Try.ntmps50
  go_wp2_with fail
  have hA : ((w.alloc (.cells #[.int .u64 (W64 hi), .int .u64 (W64 lo)] 95)).alloc (.cells #[.int .u64 0, .int .u64 0] 95)).heap[w.heap.size]? = some (.cells #[.int .u64 (W64 hi), .int .u64 (W64 lo)] 95 (0, 0)) := heap_alloc2_old _ _ _
  have hB : ((w.alloc (.cells #[.int .u64 (W64 hi), .int .u64 (W64 lo)] 95)).alloc (.cells #[.int .u64 0, .int .u64 0] 95)).heap[w.heap.size + 1]? = some (.cells #[.int .u64 0, .int .u64 0] 95 (0, 0)) := heap_alloc2_new _ _ _
  have hN0 : New w ((w.alloc (.cells #[.int .u64 (W64 hi), .int .u64 (W64 lo)] 95)).alloc (.cells #[.int .u64 0, .int .u64 0] 95)) := ((New.refl w).alloc _).alloc _
  generalize (w.alloc (.cells #[.int .u64 (W64 hi), .int .u64 (W64 lo)] 95)).alloc (.cells #[.int .u64 0, .int .u64 0] 95) = w0 at hA hB hN0 ⊢
  refine (H1.out _).mono ?_
  rintro e w1 ⟨rfl, hn1⟩
  have hA1 : w1.heap[w.heap.size]? = some (.cells #[.int .u64 (W64 hi), .int .u64 (W64 lo)] 95 (0, 0)) := by rw [hn1.block _ (lt_of_block hA)]; exact hA
  have c1 : w1.cell? ⟨w.heap.size, 1, none⟩ = some (.int .u64 (W64 lo)) := by rw [cell_of_row _ _ _ _ _ _ hA1]; rfl
  have HB1 : Hid (w1.heap[w.heap.size + 1]? = some (.cells #[.int .u64 0, .int .u64 0] 95 (0, 0))) := Lib.hid (by rw [hn1.block _ (lt_of_block hB)]; exact hB)
  have HN1 := Lib.hid (hN0.trans hn1)
  clear hA hB hN0 hn1 hA1
  go_wp2_with fail
  refine (H2.out _).mono ?_
  rintro e w2 ⟨rfl, hn2⟩
  have hB2 : w2.heap[w.heap.size + 1]? = some (.cells #[.int .u64 0, .int .u64 0] 95 (0, 0)) := by rw [hn2.block _ (lt_of_block HB1.out)]; exact HB1.out
  have y0 : w2.cell? ⟨w.heap.size + 1, 0, none⟩ = some (.int .u64 0) := by rw [cell_of_row _ _ _ _ _ _ hB2]; rfl
  have y1 : w2.cell? ⟨w.heap.size + 1, 1, none⟩ = some (.int .u64 0) := by rw [cell_of_row _ _ _ _ _ _ hB2]; rfl
  have yf := fun i => frozen_of_row w2 (w.heap.size + 1) i _ _ hB2
  have HN2 := Lib.hid (HN1.out.trans hn2)
  clear hB2 hn2 c1
  go_wp2
  first
    | go_returns
    | refine bodyPost_ret (by simp [results, Try.results50, go_sem, y0, y1]; try rfl) rfl ?_
  exact ⟨rfl, (HN2.out.setCell (by show _ ≤ w.heap.size + 1; omega) _).setCell (by show _ ≤ w.heap.size + 1; omega) _⟩
set_option maxHeartbeats 1000000 in
theorem wdiv_zero (hi lo : BitVec 64) (w : World) :
    Calls Try.prog 50 #[.agg #[.int .u64 (W64 hi), .int .u64 (W64 lo)], .int .u64 (W64 0#64)] w fun e w' =>
      e = .returned (.tuple #[.agg #[.int .u64 0, .int .u64 0], .int .u64 0]) ∧ New w w' := by
  go_enter Try.func50, Try.ntmps50
  go_wp2
  go_returns
  exact ⟨rfl, ((New.refl w).alloc _).alloc _⟩
theorem fields128 : ((Try.prog.fieldsOf 95).toList.map fun f => (f.type, f.offset, decide (f.name = "_"))) = [(24, 0, false), (24, 1, false)] := by kernel_rfl
theorem plain_u64 : Try.prog.plainKey 24 = true := by kernel_rfl
theorem equ128 (w : World) (x1 x0 y1 y0 : BitVec 64) :
    (Op.equalIn 10000 95 (.agg #[.int .u64 (W64 x1), .int .u64 (W64 x0)]) (.agg #[.int .u64 (W64 y1), .int .u64 (W64 y0)])).run Try.prog w = .ok (x1 == y1 && x0 == y0) w := by
  have hu := Try.underlying24
  have g1 := run_equalIn_int (w := w) 9998 _ .u64 .u64 (W64 x1) (W64 y1) hu
  have g0 := run_equalIn_int (w := w) 9998 _ .u64 .u64 (W64 x0) (W64 y0) hu
  rw [eq_u64] at g0 g1
  have e1 := run_part_plain (w := w) (v := .int .u64 (W64 x1)) plain_u64 (xs := #[.int .u64 (W64 x1), .int .u64 (W64 x0)]) (off := 0) rfl
  have e0 := run_part_plain (w := w) (v := .int .u64 (W64 x0)) plain_u64 (xs := #[.int .u64 (W64 x1), .int .u64 (W64 x0)]) (off := 1) rfl
  have f1 := run_part_plain (w := w) (v := .int .u64 (W64 y1)) plain_u64 (xs := #[.int .u64 (W64 y1), .int .u64 (W64 y0)]) (off := 0) rfl
  have f0 := run_part_plain (w := w) (v := .int .u64 (W64 y0)) plain_u64 (xs := #[.int .u64 (W64 y1), .int .u64 (W64 y0)]) (off := 1) rfl
  rw [run_equalIn_struct w 9999 _ _ _ (by kernel_rfl) (by kernel_rfl)]
  have hfs := fields128
  generalize (Try.prog.fieldsOf 95).toList = fs at hfs
  obtain ⟨a, l1, rfl, ha, h1⟩ := List.map_eq_cons_iff.1 hfs
  obtain ⟨b, l2, rfl, hb, h2⟩ := List.map_eq_cons_iff.1 h1
  obtain rfl := List.map_eq_nil_iff.1 h2
  simp only [Prod.mk.injEq, decide_eq_false_iff_not] at ha hb
  obtain ⟨t1, o1, n1⟩ := ha
  obtain ⟨t2, o2, n2⟩ := hb
  simp only [Op.eqFields, t1, o1, n1, t2, o2, n2, ne_eq, not_false_eq_true, if_true, Sem.run_bind, e1, f1, g1, Result.andThen_ok]
  rcases h1 : x1 == y1 <;> rcases h0 : x0 == y0 <;> rw [h0] at g0 <;> simp [Sem.run_bind, e0, f0, g0]
end Go.Proofs.Ytbjclkjikclljaa
