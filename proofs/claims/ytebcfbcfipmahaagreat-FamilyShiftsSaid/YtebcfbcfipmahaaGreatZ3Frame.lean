import Derived.Test.YtebcfbcfipmahaaGreatZ3Bv
import Derived.Lib.SmallJoins
import Derived.OpenShut
import Derived.ChangeOld
import Derived.Laws.Externs
import Derived.Laws.StructEq
import Derived.Shelf.Spec.BitsCarry
import Derived.Handy
import Derived.ChangeKeysEq
import Derived.WalkMore
import Derived.ScopeJumps
import Derived.Test.YtebcfbcfipmahaaGreatProg
section
/- Plain lemmas for the frames: what is known of an argument that is an array or a struct of words, by value; that nothing old has changed. -/
namespace Go.Bv
open Go Go.RowKit Go.WideShapes
/-- a slice of integers that came in: nil, or a row of cap cells, the numbers zs -/
def IRow (k : IntKind) (w : World) (a : Option Addr) (len cap : Nat) (zs : List Int) : Prop :=
  (a = none ∧ len = 0 ∧ cap = 0 ∧ zs = []) ∨
  ∃ x, a = some x ∧ len ≤ cap ∧ zs.length = cap ∧ (∀ i, i < zs.length → w.cell? (x.add i) = some (.int k (zs.getD i 0))) ∧ ∀ n ∈ zs, (Lit.int k n).wf = true
section
variable {P : Program} {w : World} {r : Reach} {base : Nat}
end
end Go.Bv
end
section
/- Contracts of wide.Add, Sub, Cmp, Mul, Div: for all numbers of two words. -/
namespace Go.Bv
open Go Go.RowKit
set_option linter.unusedVariables false
set_option maxRecDepth 100000
/-- a number modulo a word; 0 modulo 0 -/
def md (N : Nat) (n : BitVec 64) : BitVec 64 := if n = 0#64 then 0#64 else BitVec.ofNat 64 (N % n.toNat)
theorem pos_of_ne {n : BitVec 64} (h : ¬ n = 0#64) : 0 < n.toNat := by
  rcases Nat.eq_zero_or_pos n.toNat with e | e
  · exact absurd (BitVec.eq_of_toNat_eq (by rw [e]; rfl)) h
  · exact e
theorem md_nat {N : Nat} {n : BitVec 64} (h : ¬ n = 0#64) : (md N n).toNat = N % n.toNat := by
  unfold md
  rw [if_neg h, BitVec.toNat_ofNat]
  exact Nat.mod_eq_of_lt (Nat.lt_trans (Nat.mod_lt _ (pos_of_ne h)) n.isLt)
theorem md_zero (N : Nat) : md N 0#64 = 0#64 := by unfold md; rw [if_pos rfl]
theorem md_lt {N : Nat} {n : BitVec 64} (h : ¬ n = 0#64) : (md N n).toNat < n.toNat := by rw [md_nat h]; exact Nat.mod_lt _ (pos_of_ne h)
theorem md_eq {N : Nat} {n x : BitVec 64} (h : ¬ n = 0#64) (hx : x.toNat = N % n.toNat) : x = md N n := by
  apply BitVec.eq_of_toNat_eq; rw [md_nat h]; exact hx
def hiN (N : Nat) : BitVec 64 := BitVec.ofNat 64 (N / 18446744073709551616)
def loN (N : Nat) : BitVec 64 := BitVec.ofNat 64 N
theorem two_parts (N : Nat) (h : N < 340282366920938463463374607431768211456) : two (hiN N) (loN N) = N := by
  unfold two hiN loN
  rw [BitVec.toNat_ofNat, BitVec.toNat_ofNat, Nat.mod_eq_of_lt (a := N / 18446744073709551616) (by omega)]
  omega
end Go.Bv
namespace Go.Bv
open Go Go.RowKit
set_option linter.unusedVariables false
end Go.Bv
namespace Go.Proofs.YtebcfbcfipmahaaGreat
open Go.RowKit Go.Bv
set_option linter.unusedVariables false
theorem lo_zero : W64 0#64 = 0 := W64_lit 0 (by omega)
theorem add64_run (x y c : BitVec 64) (hc : c.toNat ≤ 1) (w : World) :
    (callFunc 162 #[.int .u64 (W64 x), .int .u64 (W64 y), .int .u64 (W64 c)]).run Tryz.prog w = .ok (.value (.tuple #[.int .u64 (W64 (loN (x.toNat + y.toNat + c.toNat))), .int .u64 (W64 (hiN (x.toNat + y.toNat + c.toNat)))])) w := by
  have hx := x.isLt
  have hy := y.isLt
  have e1 : (W64 x + W64 y + W64 c) % 18446744073709551616 = W64 (loN (x.toNat + y.toNat + c.toNat)) := by
    unfold W64 loN; rw [BitVec.toNat_ofNat]; omega
  have e2 : (W64 x + W64 y + W64 c) / 18446744073709551616 = W64 (hiN (x.toNat + y.toNat + c.toNat)) := by
    unfold W64 hiN; rw [BitVec.toNat_ofNat, Nat.mod_eq_of_lt (by omega)]; omega
  rw [run_callFunc_extern Tryz.func162 (by kernel_rfl) (by kernel_rfl) (by kernel_rfl) (e := add64Entry) (by kernel_rfl), run_add64 (W64 x) (W64 y) (W64 c) (nn64 x) (nn64 y) (nn64 c) (by unfold W64; omega), e1, e2]
  rfl
theorem add64_run0 (x y : BitVec 64) (w : World) :
    (callFunc 162 #[.int .u64 (W64 x), .int .u64 (W64 y), .int .u64 0]).run Tryz.prog w = .ok (.value (.tuple #[.int .u64 (W64 (loN (x.toNat + y.toNat))), .int .u64 (W64 (hiN (x.toNat + y.toNat)))])) w := by
  have h := add64_run x y 0#64 (by decide) w
  rw [show W64 0#64 = 0 from W64_lit 0 (by omega)] at h
  exact h
set_option maxHeartbeats 1000000 in
theorem wadd_any (a1 a0 b1 b0 : BitVec 64) (w : World) :
    Calls Tryz.prog 142 #[.agg #[.int .u64 (W64 a1), .int .u64 (W64 a0)], .agg #[.int .u64 (W64 b1), .int .u64 (W64 b0)]] w fun e w' =>
      e = .returned (.tuple #[.agg #[.int .u64 (W64 (loN (a1.toNat + b1.toNat + (hiN (a0.toNat + b0.toNat)).toNat))), .int .u64 (W64 (loN (a0.toNat + b0.toNat)))], .bool (hiN (a1.toNat + b1.toNat + (hiN (a0.toNat + b0.toNat)).toNat) == 1#64)]) ∧ New w w' := by
  have hc : (hiN (a0.toNat + b0.toNat)).toNat ≤ 1 := by
    have := a0.isLt; have := b0.isLt
    unfold hiN; rw [BitVec.toNat_ofNat]; omega
  have h1 := fun w => add64_run0 a0 b0 w
  have h2 := fun w => add64_run a1 b1 (hiN (a0.toNat + b0.toNat)) hc w
  clear hc
  generalize loN (a1.toNat + b1.toNat + (hiN (a0.toNat + b0.toNat)).toNat) = s1 at *
  generalize hiN (a1.toNat + b1.toNat + (hiN (a0.toNat + b0.toNat)).toNat) = o1 at *
  generalize hiN (a0.toNat + b0.toNat) = c1 at *
  generalize loN (a0.toNat + b0.toNat) = s0 at *
  go_enter Tryz.func142, Tryz.ntmps142
  go_wp2
  go_returns
  exact ⟨rfl, (((New.refl w).alloc _).alloc _).alloc _⟩
set_option maxHeartbeats 1000000 in
theorem wmul_any (x y : BitVec 64) (w : World) :
    Calls Tryz.prog 144 #[.int .u64 (W64 x), .int .u64 (W64 y)] w fun e w' =>
      e = .returned (.agg #[.int .u64 (W64 (hiN (x.toNat * y.toNat))), .int .u64 (W64 (loN (x.toNat * y.toNat)))]) ∧ New w w' := by
  have hx := x.isLt
  have hy := y.isLt
  have hm : ∀ w, Calls Tryz.prog 163 #[.int .u64 (W64 x), .int .u64 (W64 y)] w fun e w' => e = .returned (.tuple #[.int .u64 (W64 (hiN (x.toNat * y.toNat))), .int .u64 (W64 (loN (x.toNat * y.toNat)))]) ∧ w' = w := by
    intro w
    have h := Tryz.bits_Mul64 x.toNat y.toNat hx hy w
    have hl : x.toNat * y.toNat / 18446744073709551616 < 18446744073709551616 := by
      rw [Nat.div_lt_iff_lt_mul (by omega)]
      exact Nat.mul_lt_mul_of_lt_of_lt hx hy
    have e1 : ((x.toNat * y.toNat / 18446744073709551616 : Nat) : Int) = W64 (hiN (x.toNat * y.toNat)) := by
      unfold W64 hiN; rw [BitVec.toNat_ofNat, Nat.mod_eq_of_lt hl]
    have e2 : ((x.toNat * y.toNat % 18446744073709551616 : Nat) : Int) = W64 (loN (x.toNat * y.toNat)) := by
      unfold W64 loN; rw [BitVec.toNat_ofNat]
    rw [e1, e2] at h
    exact h
  have HM := Lib.hid hm
  clear hm hx hy
  go_enter Tryz.func144, Tryz.ntmps144
  go_wp2_with fail
  refine (HM.out _).mono ?_
  rintro e w' ⟨rfl, rfl⟩
  go_wp2
  go_returns
  exact ⟨rfl, (New.refl _).alloc _⟩
theorem wadd_two (a1 a0 b1 b0 : BitVec 64) (w : World) :
    Calls Tryz.prog 142 #[.agg #[.int .u64 (W64 a1), .int .u64 (W64 a0)], .agg #[.int .u64 (W64 b1), .int .u64 (W64 b0)]] w fun e w' =>
      e = .returned (.tuple #[.agg #[.int .u64 (W64 (BitVec.ofNat 64 ((two a1 a0 + two b1 b0) / 2 ^ 64))), .int .u64 (W64 (BitVec.ofNat 64 (two a1 a0 + two b1 b0)))], .bool (decide (2 ^ 128 ≤ two a1 a0 + two b1 b0))]) ∧ New w w' := by
  have h := wadd_any a1 a0 b1 b0 w
  have l1 := a1.isLt
  have l0 := a0.isLt
  have m1 := b1.isLt
  have m0 := b0.isLt
  have hc : (hiN (a0.toNat + b0.toNat)).toNat = (a0.toNat + b0.toNat) / 18446744073709551616 := by
    unfold hiN; rw [BitVec.toNat_ofNat, Nat.mod_eq_of_lt (by omega)]
  have e1 : loN (a1.toNat + b1.toNat + (hiN (a0.toNat + b0.toNat)).toNat) = BitVec.ofNat 64 ((two a1 a0 + two b1 b0) / 2 ^ 64) := by
    rw [hc]; unfold loN two; congr 1; omega
  have e0 : loN (a0.toNat + b0.toNat) = BitVec.ofNat 64 (two a1 a0 + two b1 b0) := by
    unfold loN two; apply BitVec.eq_of_toNat_eq; rw [BitVec.toNat_ofNat, BitVec.toNat_ofNat]; omega
  have eo : (hiN (a1.toNat + b1.toNat + (hiN (a0.toNat + b0.toNat)).toNat) == 1#64) = decide (2 ^ 128 ≤ two a1 a0 + two b1 b0) := by
    rw [hc, Bool.eq_iff_iff, beq_iff_eq, decide_eq_true_eq]
    unfold hiN two
    constructor
    · intro e
      have := congrArg BitVec.toNat e
      rw [BitVec.toNat_ofNat, show (1#64).toNat = 1 from rfl] at this
      omega
    · intro e
      apply BitVec.eq_of_toNat_eq
      rw [BitVec.toNat_ofNat, show (1#64).toNat = 1 from rfl]
      omega
  rw [e1, e0, eo] at h
  exact h
theorem sub64_run (x y c : BitVec 64) (hc : c.toNat ≤ 1) (w : World) :
    (callFunc 170 #[.int .u64 (W64 x), .int .u64 (W64 y), .int .u64 (W64 c)]).run Tryz.prog w = .ok (.value (.tuple #[.int .u64 (W64 (x - y - c)), .int .u64 (W64 (if x.toNat < y.toNat + c.toNat then 1#64 else 0#64))])) w := by
  have hx := x.isLt
  have hy := y.isLt
  have e1 : (((x.toNat + 18446744073709551616 - y.toNat - c.toNat) % 18446744073709551616 : Nat) : Int) = W64 (x - y - c) := by
    unfold W64
    rw [BitVec.toNat_sub, BitVec.toNat_sub]
    omega
  have e2 : ((if x.toNat < y.toNat + c.toNat then 1 else 0 : Nat) : Int) = W64 (if x.toNat < y.toNat + c.toNat then 1#64 else 0#64) := by
    by_cases h : x.toNat < y.toNat + c.toNat
    · rw [if_pos h, if_pos h]; rfl
    · rw [if_neg h, if_neg h]; rfl
  have h := run_sub64 (P := Tryz.prog) x.toNat y.toNat c.toNat hc w
  rw [e1, e2] at h
  rw [run_callFunc_extern Tryz.func170 (by kernel_rfl) (by kernel_rfl) (by kernel_rfl) (e := sub64Entry) (by kernel_rfl)]
  unfold W64 at h ⊢
  rw [h]
  rfl
set_option maxHeartbeats 1000000 in
theorem wsub_two (a1 a0 b1 b0 : BitVec 64) (w : World) (E : Nat) (hE : E + two b1 b0 = two a1 a0 + 2 ^ 128) :
    Calls Tryz.prog 159 #[.agg #[.int .u64 (W64 a1), .int .u64 (W64 a0)], .agg #[.int .u64 (W64 b1), .int .u64 (W64 b0)]] w fun e w' =>
      e = .returned (.tuple #[.agg #[.int .u64 (W64 (BitVec.ofNat 64 (E / 2 ^ 64))), .int .u64 (W64 (BitVec.ofNat 64 E))], .bool (decide (two a1 a0 < two b1 b0))]) ∧ New w w' := by
  have l1 := a1.isLt
  have l0 := a0.isLt
  have m1 := b1.isLt
  have m0 := b0.isLt
  obtain ⟨c1, hc1⟩ : ∃ c1 : BitVec 64, (if a0.toNat < b0.toNat then 1#64 else 0#64) = c1 := ⟨_, rfl⟩
  have hcn : c1.toNat = if a0.toNat < b0.toNat then 1 else 0 := by rw [← hc1]; split <;> rfl
  have h1 : ∀ w, (callFunc 170 #[.int .u64 (W64 a0), .int .u64 (W64 b0), .int .u64 0]).run Tryz.prog w = .ok (.value (.tuple #[.int .u64 (W64 (BitVec.ofNat 64 E)), .int .u64 (W64 c1)])) w := by
    intro w
    have h := sub64_run a0 b0 0#64 (by decide) w
    rw [lo_zero, show (0#64).toNat = 0 from rfl, Nat.add_zero, hc1, BitVec.sub_zero] at h
    have e : a0 - b0 = BitVec.ofNat 64 E := by
      apply BitVec.eq_of_toNat_eq; rw [BitVec.toNat_sub, BitVec.toNat_ofNat]; unfold two at hE; omega
    rw [e] at h
    exact h
  have h2 := fun w => sub64_run a1 b1 c1 (by rw [hcn]; split <;> omega) w
  have e2 : a1 - b1 - c1 = BitVec.ofNat 64 (E / 2 ^ 64) := by
    apply BitVec.eq_of_toNat_eq
    rw [BitVec.toNat_sub, BitVec.toNat_sub, BitVec.toNat_ofNat, hcn]
    unfold two at hE
    split <;> omega
  obtain ⟨o1, ho1⟩ : ∃ o1 : BitVec 64, (if a1.toNat < b1.toNat + c1.toNat then 1#64 else 0#64) = o1 := ⟨_, rfl⟩
  have eo : (o1 == 1#64) = decide (two a1 a0 < two b1 b0) := by
    rw [← ho1, hcn, Bool.eq_iff_iff, beq_iff_eq, decide_eq_true_eq]
    unfold two
    by_cases h5 : a0.toNat < b0.toNat
    · rw [if_pos h5]
      by_cases h6 : a1.toNat < b1.toNat + 1
      · rw [if_pos h6]; exact ⟨fun _ => by omega, fun _ => rfl⟩
      · rw [if_neg h6]; exact ⟨fun h => absurd h (by decide), fun h => by omega⟩
    · rw [if_neg h5]
      by_cases h6 : a1.toNat < b1.toNat + 0
      · rw [if_pos h6]; exact ⟨fun _ => by omega, fun _ => rfl⟩
      · rw [if_neg h6]; exact ⟨fun h => absurd h (by decide), fun h => by omega⟩
  rw [e2, ho1] at h2
  have EO := Lib.hid eo
  clear eo e2 ho1 hc1 hcn l1 l0 m1 m0 hE
  generalize BitVec.ofNat 64 (E / 2 ^ 64) = s1 at *
  generalize BitVec.ofNat 64 E = s0 at *
  go_enter Tryz.func159, Tryz.ntmps159
  go_wp2
  go_returns
  rw [EO.out]
  exact ⟨rfl, (((New.refl w).alloc _).alloc _).alloc _⟩
theorem fields128 : ((Tryz.prog.fieldsOf 63).toList.map fun f => (f.type, f.offset, decide (f.name = "_"))) = [(31, 0, false), (31, 1, false)] := by kernel_rfl
theorem plain_u64 : Tryz.prog.plainKey 31 = true := by kernel_rfl
theorem equ128 (w : World) (x1 x0 y1 y0 : BitVec 64) :
    (Op.equalIn 10000 63 (.agg #[.int .u64 (W64 x1), .int .u64 (W64 x0)]) (.agg #[.int .u64 (W64 y1), .int .u64 (W64 y0)])).run Tryz.prog w = .ok (x1 == y1 && x0 == y0) w := by
  have hu := Tryz.underlying31
  have g1 := run_equalIn_int (w := w) 9998 _ .u64 .u64 (W64 x1) (W64 y1) hu
  have g0 := run_equalIn_int (w := w) 9998 _ .u64 .u64 (W64 x0) (W64 y0) hu
  rw [eq_u64] at g0 g1
  have e1 := run_part_plain (w := w) (v := .int .u64 (W64 x1)) plain_u64 (xs := #[.int .u64 (W64 x1), .int .u64 (W64 x0)]) (off := 0) rfl
  have e0 := run_part_plain (w := w) (v := .int .u64 (W64 x0)) plain_u64 (xs := #[.int .u64 (W64 x1), .int .u64 (W64 x0)]) (off := 1) rfl
  have f1 := run_part_plain (w := w) (v := .int .u64 (W64 y1)) plain_u64 (xs := #[.int .u64 (W64 y1), .int .u64 (W64 y0)]) (off := 0) rfl
  have f0 := run_part_plain (w := w) (v := .int .u64 (W64 y0)) plain_u64 (xs := #[.int .u64 (W64 y1), .int .u64 (W64 y0)]) (off := 1) rfl
  rw [run_equalIn_struct w 9999 _ _ _ (by kernel_rfl) (by kernel_rfl)]
  have hfs := fields128
  generalize (Tryz.prog.fieldsOf 63).toList = fs at hfs
  obtain ⟨a, l1, rfl, ha, h1⟩ := List.map_eq_cons_iff.1 hfs
  obtain ⟨b, l2, rfl, hb, h2⟩ := List.map_eq_cons_iff.1 h1
  obtain rfl := List.map_eq_nil_iff.1 h2
  simp only [Prod.mk.injEq, decide_eq_false_iff_not] at ha hb
  obtain ⟨t1, o1, n1⟩ := ha
  obtain ⟨t2, o2, n2⟩ := hb
  simp only [Op.eqFields, t1, o1, n1, t2, o2, n2, ne_eq, not_false_eq_true, if_true, Sem.run_bind, e1, f1, g1, Result.andThen_ok]
  rcases h1 : x1 == y1 <;> rcases h0 : x0 == y0 <;> rw [h0] at g0 <;> simp [Sem.run_bind, e0, f0, g0]
end Go.Proofs.YtebcfbcfipmahaaGreat
end
section
/- Contracts of modn.Add, Sub, Mul: for all words. -/
namespace Go.Proofs.YtebcfbcfipmahaaGreat
open Go.RowKit Go.Bv
set_option linter.unusedVariables false
theorem wadd_lo (a b : BitVec 64) (w : World) :
    Calls Tryz.prog 142 #[.agg #[.int .u64 0, .int .u64 (W64 a)], .agg #[.int .u64 0, .int .u64 (W64 b)]] w fun e w' =>
      ∃ o : Bool, e = .returned (.tuple #[.agg #[.int .u64 (W64 (hiN (a.toNat + b.toNat))), .int .u64 (W64 (loN (a.toNat + b.toNat)))], .bool o]) ∧ New w w' := by
  have h := wadd_any 0#64 a 0#64 b w
  rw [lo_zero, show (0#64).toNat = 0 from rfl, Nat.zero_add, show loN (hiN (a.toNat + b.toNat)).toNat = hiN (a.toNat + b.toNat) by unfold loN; rw [ofNat_self]] at h
  exact h.mono fun e w' he => ⟨_, he⟩
theorem mul_lt (a b : BitVec 64) : a.toNat * b.toNat < 340282366920938463463374607431768211456 := Nat.mul_lt_mul_of_lt_of_lt a.isLt b.isLt
end Go.Proofs.YtebcfbcfipmahaaGreat
end
section
/- Contracts of the document's own Add and Mul modulo a word, of modn.Pow and Gcd: for all words. -/
namespace Go.Bv
open Go Go.RowKit
set_option linter.unusedVariables false
theorem md_congr {N M : Nat} {n : BitVec 64} (h : N % n.toNat = M % n.toNat) : md N n = md M n := by
  unfold md; rw [h]
end Go.Bv
namespace Go.Proofs.YtebcfbcfipmahaaGreat
open Go.RowKit Go.Bv
set_option linter.unusedVariables false
set_option maxHeartbeats 1000000 in
theorem radd_any (a b n : BitVec 64) (w : World) :
    Calls Tryz.prog 55 #[.int .u64 (W64 a), .int .u64 (W64 b), .int .u64 (W64 n)] w fun e w' => e = .returned (.int .u64 (W64 (md (a.toNat + b.toNat) n))) ∧ w' = w := by
  by_cases h : n = 0#64
  · subst h
    have HZ := Lib.hid (md_zero (a.toNat + b.toNat))
    go_enter Tryz.func55, Tryz.ntmps55
    go_wp2
    go_ret
    rw [HZ.out, lo_zero]
    exact ⟨rfl, rfl⟩
  · have hb : (n == 0#64) = false := by rw [beq_eq_false_iff_ne]; exact h
    have hp := pos_of_ne h
    have hnz : ¬ W64 n = 0 := by unfold W64; omega
    have e1 : (a % n).toNat = a.toNat % n.toNat := BitVec.toNat_umod
    have e2 : (b % n).toNat = b.toNat % n.toNat := BitVec.toNat_umod
    have l1 := Nat.mod_lt a.toNat hp
    have l2 := Nat.mod_lt b.toNat hp
    have hn := n.isLt
    have e3 : (n - b % n).toNat = n.toNat - b.toNat % n.toNat := by rw [sub_nat (by omega), e2]
    have hm : (a.toNat + b.toNat) % n.toNat = (a.toNat % n.toNat + b.toNat % n.toNat) % n.toNat := Nat.add_mod _ _ _
    by_cases hc : n.toNat - b.toNat % n.toNat ≤ a.toNat % n.toNat
    · have hg : decide (W64 (n - b % n) ≤ W64 (a % n)) = true := decide_eq_true (by unfold W64; omega)
      have HR : Hid (a % n - (n - b % n) = md (a.toNat + b.toNat) n) := Lib.hid (md_eq h (by
        rw [sub_nat (by omega), e1, e3, hm]
        have : a.toNat % n.toNat + b.toNat % n.toNat = (a.toNat % n.toNat - (n.toNat - b.toNat % n.toNat)) + n.toNat := by omega
        rw [this, Nat.add_mod_right]
        have h5 : a.toNat % n.toNat - (n.toNat - b.toNat % n.toNat) < n.toNat := by omega
        exact (Nat.mod_eq_of_lt h5).symm))
      clear e1 e2 e3 l1 l2 hn hm hc hp h
      go_enter Tryz.func55, Tryz.ntmps55
      go_wp2
      go_ret
      rw [HR.out]
      exact ⟨rfl, rfl⟩
    · have hg : decide (W64 (n - b % n) ≤ W64 (a % n)) = false := decide_eq_false (by unfold W64; omega)
      have HR : Hid (a % n + b % n = md (a.toNat + b.toNat) n) := Lib.hid (md_eq h (by
        rw [add_nat (by omega), e1, e2, hm, Nat.mod_eq_of_lt (a := a.toNat % n.toNat + b.toNat % n.toNat) (by omega)]))
      clear e1 e2 e3 l1 l2 hn hm hc hp h
      go_enter Tryz.func55, Tryz.ntmps55
      go_wp2
      go_ret
      rw [HR.out]
      exact ⟨rfl, rfl⟩
end Go.Proofs.YtebcfbcfipmahaaGreat
end
section
/- Plain lemmas on turned words: the shapes in which the program and the document's own answer turn a word, as rotateLeft. -/
namespace Go.Bv

theorem div_shr {n : Nat} (y : BitVec n) (k : Nat) (h : k < n) : y / BitVec.ofNat n (2 ^ k) = y >>> k := by
  apply BitVec.eq_of_toNat_eq
  rw [BitVec.toNat_udiv, BitVec.toNat_ofNat, Nat.mod_eq_of_lt (Nat.pow_lt_pow_right (by omega) h), BitVec.toNat_ushiftRight, Nat.shiftRight_eq_div_pow]
end Go.Bv
end
section
/- Contracts of load.Rot64 and of the document's own Left and Rot64: for every word and every number. -/
namespace Go.Proofs.YtebcfbcfipmahaaGreat
open Go.RowKit Go.Bv
set_option linter.unusedVariables false
end Go.Proofs.YtebcfbcfipmahaaGreat
end
