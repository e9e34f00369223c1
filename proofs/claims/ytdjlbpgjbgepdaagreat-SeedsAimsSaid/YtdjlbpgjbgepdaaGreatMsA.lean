/- Contracts of layer 20: the parts: allowed, Check, Eval, Top, Power, Bound, same, gap, limit, low; modn.Left, Odd. -/
import Derived.Test.YtdjlbpgjbgepdaaGreatDorA
import Derived.Laws.StructEq
import Derived.ChangeKeysEq
import Derived.Handy
import Derived.BigQuiet
import Derived.Test.YtdjlbpgjbgepdaaGreatClass
namespace Go.Bv
open Go Go.RowKit
theorem calls_fresh {P : Program} {F : FuncId} {args : Array Value} {v : Value} (h : ∀ w, Calls P F args w fun e w' => e = .returned v ∧ w' = w) (w : World) : Calls P F args w fun e w' => e = .returned v ∧ New w w' :=
  (h w).mono fun _ _ ⟨a, b⟩ => ⟨a, b ▸ New.refl w⟩
/-- the error's number -/
def chkM (a : BitVec 64) (k : Int) : Int := if k < 1 ∨ 64 < k then 1 else if a &&& 1#64 = 0#64 then 13 else 0
theorem chkM_good {a : BitVec 64} {k : Int} (h : chkM a k = 0) : ∃ j t : Nat, k = (j : Int) ∧ 1 ≤ j ∧ j + t = 64 ∧ ¬ a &&& 1#64 = 0#64 := by
  unfold chkM at h
  by_cases h1 : k < 1 ∨ 64 < k
  · rw [if_pos h1] at h; omega
  · rw [if_neg h1] at h
    refine ⟨k.toNat, 64 - k.toNat, by omega, by omega, by omega, fun e => ?_⟩
    rw [if_pos e] at h
    omega
theorem even_and (a : BitVec 64) : (a % 2#64 == 0#64) = (a &&& 1#64 == 0#64) := by
  have h : a % 2#64 = a &&& 1#64 := by
    apply BitVec.eq_of_toNat_eq
    rw [BitVec.toNat_umod, BitVec.toNat_and]
    exact (Nat.and_two_pow_sub_one_eq_mod a.toNat 1).symm
  rw [h]
theorem half_shift (x : BitVec 64) (k : Nat) : (x >>> k) / 2#64 = x >>> (k + 1) := by
  apply BitVec.eq_of_toNat_eq
  rw [BitVec.toNat_udiv, BitVec.toNat_ushiftRight, BitVec.toNat_ushiftRight, Nat.shiftRight_eq_div_pow, Nat.shiftRight_eq_div_pow, Nat.pow_succ, ← Nat.div_div_eq_div_mul]
  rfl
theorem twice_shift (k : Nat) : (1#64 <<< k) * 2#64 = 1#64 <<< (k + 1) := by
  apply BitVec.eq_of_toNat_eq
  rw [BitVec.toNat_mul, BitVec.toNat_shiftLeft, BitVec.toNat_shiftLeft, Nat.shiftLeft_eq, Nat.shiftLeft_eq]
  show 1 * 2 ^ k % 2 ^ 64 * 2 % 2 ^ 64 = 1 * 2 ^ (k + 1) % 2 ^ 64
  rw [Nat.mod_mul_mod, Nat.mul_assoc, ← Nat.pow_succ]
end Go.Bv
namespace Go.Proofs.YtdjlbpgjbgepdaaGreat
open Go.RowKit Go.Bv
set_option linter.unusedVariables false
theorem fields128 : ((Tryz.prog.fieldsOf 119).toList.map fun f => (f.type, f.offset, decide (f.name = "_"))) = [(23, 0, false), (23, 1, false)] := by kernel_rfl
theorem plain_u64 : Tryz.prog.plainKey 23 = true := by kernel_rfl
theorem equ128 (w : World) (x1 x0 y1 y0 : BitVec 64) :
    (Op.equalIn 10000 119 (.agg #[.int .u64 (W64 x1), .int .u64 (W64 x0)]) (.agg #[.int .u64 (W64 y1), .int .u64 (W64 y0)])).run Tryz.prog w = .ok (x1 == y1 && x0 == y0) w := by
  have hu := Tryz.underlying23
  have g1 := run_equalIn_int (w := w) 9998 _ .u64 .u64 (W64 x1) (W64 y1) hu
  have g0 := run_equalIn_int (w := w) 9998 _ .u64 .u64 (W64 x0) (W64 y0) hu
  rw [eq_u64] at g0 g1
  have e1 := run_part_plain (w := w) (v := .int .u64 (W64 x1)) plain_u64 (xs := #[.int .u64 (W64 x1), .int .u64 (W64 x0)]) (off := 0) rfl
  have e0 := run_part_plain (w := w) (v := .int .u64 (W64 x0)) plain_u64 (xs := #[.int .u64 (W64 x1), .int .u64 (W64 x0)]) (off := 1) rfl
  have f1 := run_part_plain (w := w) (v := .int .u64 (W64 y1)) plain_u64 (xs := #[.int .u64 (W64 y1), .int .u64 (W64 y0)]) (off := 0) rfl
  have f0 := run_part_plain (w := w) (v := .int .u64 (W64 y0)) plain_u64 (xs := #[.int .u64 (W64 y1), .int .u64 (W64 y0)]) (off := 1) rfl
  rw [run_equalIn_struct w 9999 _ _ _ (by kernel_rfl) (by kernel_rfl)]
  have hfs := fields128
  generalize (Tryz.prog.fieldsOf 119).toList = fs at hfs
  obtain ⟨a, l1, rfl, ha, h1⟩ := List.map_eq_cons_iff.1 hfs
  obtain ⟨b, l2, rfl, hb, h2⟩ := List.map_eq_cons_iff.1 h1
  obtain rfl := List.map_eq_nil_iff.1 h2
  simp only [Prod.mk.injEq, decide_eq_false_iff_not] at ha hb
  obtain ⟨t1, o1, n1⟩ := ha
  obtain ⟨t2, o2, n2⟩ := hb
  simp only [Op.eqFields, t1, o1, n1, t2, o2, n2, ne_eq, not_false_eq_true, if_true, Sem.run_bind, e1, f1, g1, Result.andThen_ok]
  rcases h1 : x1 == y1 <;> rcases h0 : x0 == y0 <;> rw [h0] at g0 <;> simp [Sem.run_bind, e0, f0, g0]
theorem allowed_m (k : Int) (w : World) : Calls Tryz.prog 134 #[.int .i64 k] w fun e w' => e = .returned (.bool (!decide (k < 1 ∨ 64 < k))) ∧ w' = w := by
  by_cases h1 : 1 ≤ k
  · by_cases h2 : k ≤ 64
    · rw [show decide (k < 1 ∨ 64 < k) = false from decide_eq_false (by omega), Bool.not_false]
      go_enter Tryz.func134, Tryz.ntmps134
      go_wp2
      go_ret
      exact ⟨rfl, rfl⟩
    · rw [show decide (k < 1 ∨ 64 < k) = true from decide_eq_true (by omega), Bool.not_true]
      go_enter Tryz.func134, Tryz.ntmps134
      go_wp2
      go_ret
      exact ⟨rfl, rfl⟩
  · rw [show decide (k < 1 ∨ 64 < k) = true from decide_eq_true (by omega), Bool.not_true]
    go_enter Tryz.func134, Tryz.ntmps134
    go_wp2
    go_ret
    exact ⟨rfl, rfl⟩
theorem check_m (a : BitVec 64) (k : Int) (w : World) : Calls Tryz.prog 89 #[.int .u64 (W64 a), .int .i64 k] w fun e w' => e = .returned (.int .i64 (chkM a k)) ∧ w' = w := by
  have HA := Lib.hid (allowed_m k w)
  unfold chkM
  by_cases h : k < 1 ∨ 64 < k
  · rw [decide_eq_true h, Bool.not_true] at HA
    rw [if_pos h]
    clear h
    go_enter Tryz.func89, Tryz.ntmps89
    go_wp2_with fail
    refine HA.out.mono ?_
    rintro e w1 ⟨rfl, rfl⟩
    go_wp2
    go_ret
    exact ⟨rfl, rfl⟩
  · rw [decide_eq_false h, Bool.not_false] at HA
    rw [if_neg h]
    clear h
    by_cases h : a &&& 1#64 = 0#64
    · rw [if_pos h]
      have z1 : (a &&& 1#64 == 0#64) = true := by rw [h]; rfl
      clear h
      go_enter Tryz.func89, Tryz.ntmps89
      go_wp2_with fail
      refine HA.out.mono ?_
      rintro e w1 ⟨rfl, rfl⟩
      go_wp2
      go_ret
      exact ⟨rfl, rfl⟩
    · rw [if_neg h]
      have z1 : (a &&& 1#64 == 0#64) = false := beq_false_of_ne h
      clear h
      go_enter Tryz.func89, Tryz.ntmps89
      go_wp2_with fail
      refine HA.out.mono ?_
      rintro e w1 ⟨rfl, rfl⟩
      go_wp2
      go_ret
      exact ⟨rfl, rfl⟩
theorem rcheck_m (a : BitVec 64) (k : Int) (w : World) : Calls Tryz.prog 34 #[.int .u64 (W64 a), .int .i64 k] w fun e w' => e = .returned (.int .i64 (chkM a k)) ∧ w' = w := by
  unfold chkM
  by_cases h1 : k < 1
  · rw [if_pos (Or.inl h1)]
    go_enter Tryz.func34, Tryz.ntmps34
    go_wp2
    go_ret
    exact ⟨rfl, rfl⟩
  by_cases h2 : 64 < k
  · rw [if_pos (Or.inr h2)]
    go_enter Tryz.func34, Tryz.ntmps34
    go_wp2
    go_ret
    exact ⟨rfl, rfl⟩
  rw [if_neg (by omega)]
  by_cases h : a &&& 1#64 = 0#64
  · rw [if_pos h]
    have z1 : (a % 2#64 == 0#64) = true := by rw [even_and, h]; rfl
    clear h
    go_enter Tryz.func34, Tryz.ntmps34
    go_wp2
    go_ret
    exact ⟨rfl, rfl⟩
  · rw [if_neg h]
    have z1 : (a % 2#64 == 0#64) = false := by rw [even_and]; exact beq_false_of_ne h
    clear h
    go_enter Tryz.func34, Tryz.ntmps34
    go_wp2
    go_ret
    exact ⟨rfl, rfl⟩
/-- 64 less a number of bits -/
theorem bits_less {j t : Nat} (h : j + t = 64) : wrap64 (64 - (j : Int)) = (t : Int) := by unfold wrap64; omega
theorem eval_bad (a x : BitVec 64) (k : Int) (h : (chkM a k == 0) = false) (w : World) : Calls Tryz.prog 92 #[.int .u64 (W64 a), .int .i64 k, .int .u64 (W64 x)] w fun e w' => e = .returned (.tuple #[.int .u64 0, .int .i64 (chkM a k)]) ∧ w' = w := by
  have HC := Lib.hid (check_m a k w)
  generalize chkM a k = c at *
  go_enter Tryz.func92, Tryz.ntmps92
  go_wp2_with fail
  refine HC.out.mono ?_
  rintro e w1 ⟨rfl, rfl⟩
  go_wp2
  go_returns
  exact ⟨rfl, rfl⟩
theorem eval_ok (a x : BitVec 64) (j t : Nat) (hjt : j + t = 64) (h : chkM a (j : Int) = 0) (w : World) : Calls Tryz.prog 92 #[.int .u64 (W64 a), .int .i64 (j : Int), .int .u64 (W64 x)] w fun e w' => e = .returned (.tuple #[.int .u64 (W64 ((a * x) >>> t)), .int .i64 0]) ∧ w' = w := by
  have HC := Lib.hid (check_m a (j : Int) w)
  rw [h] at HC
  have hb := bits_less hjt
  clear h hjt
  go_enter Tryz.func92, Tryz.ntmps92
  go_wp2_with fail
  refine HC.out.mono ?_
  rintro e w1 ⟨rfl, rfl⟩
  go_wp2
  go_returns
  exact ⟨rfl, rfl⟩
end Go.Proofs.YtdjlbpgjbgepdaaGreat
