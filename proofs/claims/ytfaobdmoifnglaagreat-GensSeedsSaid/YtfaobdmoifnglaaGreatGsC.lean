/- All generators, by their kinds: the document's Size, Name, Cost; which words a kind refuses. -/
import Derived.Test.YtfaobdmoifnglaaGreatGsA
namespace Go.Proofs.YtfaobdmoifnglaaGreat
open Go.RowKit Go.Bv
set_option linter.unusedVariables false
set_option maxHeartbeats 800000 in
theorem rsize_any (k : Int) (w : World) : Calls Tryz.prog 11 #[.int .i64 k] w fun e w' => e = .returned (.int .i64 (szK k)) ∧ New w w' := by
  by_cases h : 1 ≤ k ∧ k ≤ 8
  · have h8 : k = 1 ∨ k = 2 ∨ k = 3 ∨ k = 4 ∨ k = 5 ∨ k = 6 ∨ k = 7 ∨ k = 8 := by omega
    rcases h8 with rfl | rfl | rfl | rfl | rfl | rfl | rfl | rfl
    all_goals
      go_enter Tryz.func11, Tryz.ntmps11
      go_wp2_with fail
      go_ret
      exact ⟨rfl, (New.refl w).alloc _⟩
  · have e2 : szK k = 0 := by unfold szK; repeat (rw [if_neg (by omega)])
    rw [e2]
    by_cases h1 : k < 1
    · go_enter Tryz.func11, Tryz.ntmps11
      go_wp2_with fail
      go_ret
      exact ⟨rfl, New.refl w⟩
    · have h2 : 8 < k := by omega
      go_enter Tryz.func11, Tryz.ntmps11
      go_wp2_with fail
      go_ret
      exact ⟨rfl, New.refl w⟩
set_option maxHeartbeats 800000 in
theorem rname_any (k : Int) (w : World) : Calls Tryz.prog 13 #[.int .i64 k] w fun e w' => e = .returned (.string (nmK k)) ∧ New w w' := by
  by_cases h : 1 ≤ k ∧ k ≤ 8
  · have h8 : k = 1 ∨ k = 2 ∨ k = 3 ∨ k = 4 ∨ k = 5 ∨ k = 6 ∨ k = 7 ∨ k = 8 := by omega
    rcases h8 with rfl | rfl | rfl | rfl | rfl | rfl | rfl | rfl
    all_goals
      go_enter Tryz.func13, Tryz.ntmps13
      go_wp2_with fail
      go_ret
      exact ⟨rfl, (New.refl w).alloc _⟩
  · have e2 : nmK k = ⟨#[]⟩ := by unfold nmK; repeat (rw [if_neg (by omega)])
    rw [e2]
    by_cases h1 : k < 1
    · go_enter Tryz.func13, Tryz.ntmps13
      go_wp2_with fail
      go_ret
      exact ⟨rfl, New.refl w⟩
    · have h2 : 8 < k := by omega
      go_enter Tryz.func13, Tryz.ntmps13
      go_wp2_with fail
      go_ret
      exact ⟨rfl, New.refl w⟩
theorem szK_pos {k : Int} (h : 1 ≤ k ∧ k ≤ 8) : ¬ szK k = 0 := by
  have h8 : k = 1 ∨ k = 2 ∨ k = 3 ∨ k = 4 ∨ k = 5 ∨ k = 6 ∨ k = 7 ∨ k = 8 := by omega
  rcases h8 with rfl | rfl | rfl | rfl | rfl | rfl | rfl | rfl <;> decide
set_option maxHeartbeats 800000 in
theorem rcost_any (k : Int) (w : World) : Calls Tryz.prog 15 #[.int .i64 k] w fun e w' => e = .returned (.int .i64 (csK k)) ∧ New w w' := by
  by_cases h : 1 ≤ k ∧ k ≤ 8
  · have hs := szK_pos h
    by_cases h7 : k = 7
    · subst h7
      go_enter Tryz.func15, Tryz.ntmps15
      go_wp2_with fail
      refine (rsize_any _ _).mono ?_
      rintro e w' ⟨rfl, hn⟩
      go_wp2_with fail
      go_ret
      exact ⟨rfl, hn⟩
    · have e2 : csK k = 1 := by unfold csK; rw [if_neg h7, if_pos h]
      go_enter Tryz.func15, Tryz.ntmps15
      go_wp2_with fail
      refine (rsize_any _ _).mono ?_
      rintro e w' ⟨rfl, hn⟩
      go_wp2_with fail
      go_ret
      exact ⟨by rw [e2]; rfl, hn⟩
  · have e2 : szK k = 0 := by unfold szK; repeat (rw [if_neg (by omega)])
    have e3 : csK k = 0 := by unfold csK; repeat (rw [if_neg (by omega)])
    go_enter Tryz.func15, Tryz.ntmps15
    go_wp2_with fail
    refine (rsize_any _ _).mono ?_
    rintro e w' ⟨rfl, hn⟩
    go_wp2_with fail
    go_ret
    exact ⟨by rw [e3]; rfl, hn⟩
/-- four words, the lowest first -/
structure W4 where
  a : BitVec 64
  b : BitVec 64
  c : BitVec 64
  d : BitVec 64
abbrev W4.cells (q : W4) : Array Value := #[.int .u64 (W64 q.a), .int .u64 (W64 q.b), .int .u64 (W64 q.c), .int .u64 (W64 q.d)]
def W4.no (q : W4) : Bool := q.a == 0#64 && (q.b == 0#64 && (q.c == 0#64 && q.d == 0#64))
/-- the words that a kind refuses -/
def badK (k : Int) (q : W4) : Bool := if k = 7 then (q.b &&& 1#64 == 0#64) else if k = 8 then (q.c &&& 1#64 == 0#64) else if k = 1 then false else q.no
theorem info22 : (Tryz.prog.info? 22).isSome = true := by kernel_rfl
theorem plain22 : Tryz.prog.plainKey 22 = true := by kernel_rfl
theorem cells22 : Tryz.prog.cellsOf 22 = 1 := by kernel_rfl
theorem eq4d (d : Nat) (t : TypeId) (ht : Tryz.prog.underlying t = some (.array 4 22)) (w : World) (x0 x1 x2 x3 y0 y1 y2 y3 : BitVec 64) :
    (Op.equalIn (d + 2) t (.agg #[.int .u64 (W64 x0), .int .u64 (W64 x1), .int .u64 (W64 x2), .int .u64 (W64 x3)]) (.agg #[.int .u64 (W64 y0), .int .u64 (W64 y1), .int .u64 (W64 y2), .int .u64 (W64 y3)])).run Tryz.prog w =
      .ok (x0 == y0 && (x1 == y1 && (x2 == y2 && x3 == y3))) w := by
  obtain ⟨i, hi⟩ := Option.isSome_iff_exists.1 info22
  rw [run_equalIn_array w (d + 1) _ _ ht hi, cells22, show List.range 4 = [0, 1, 2, 3] from rfl]
  have hu := Tryz.underlying22
  have e0 := run_part_plain (w := w) (v := .int .u64 (W64 x0)) plain22 (xs := #[.int .u64 (W64 x0), .int .u64 (W64 x1), .int .u64 (W64 x2), .int .u64 (W64 x3)]) (off := 0) rfl
  have e1 := run_part_plain (w := w) (v := .int .u64 (W64 x1)) plain22 (xs := #[.int .u64 (W64 x0), .int .u64 (W64 x1), .int .u64 (W64 x2), .int .u64 (W64 x3)]) (off := 1) rfl
  have e2 := run_part_plain (w := w) (v := .int .u64 (W64 x2)) plain22 (xs := #[.int .u64 (W64 x0), .int .u64 (W64 x1), .int .u64 (W64 x2), .int .u64 (W64 x3)]) (off := 2) rfl
  have e3 := run_part_plain (w := w) (v := .int .u64 (W64 x3)) plain22 (xs := #[.int .u64 (W64 x0), .int .u64 (W64 x1), .int .u64 (W64 x2), .int .u64 (W64 x3)]) (off := 3) rfl
  have f0 := run_part_plain (w := w) (v := .int .u64 (W64 y0)) plain22 (xs := #[.int .u64 (W64 y0), .int .u64 (W64 y1), .int .u64 (W64 y2), .int .u64 (W64 y3)]) (off := 0) rfl
  have f1 := run_part_plain (w := w) (v := .int .u64 (W64 y1)) plain22 (xs := #[.int .u64 (W64 y0), .int .u64 (W64 y1), .int .u64 (W64 y2), .int .u64 (W64 y3)]) (off := 1) rfl
  have f2 := run_part_plain (w := w) (v := .int .u64 (W64 y2)) plain22 (xs := #[.int .u64 (W64 y0), .int .u64 (W64 y1), .int .u64 (W64 y2), .int .u64 (W64 y3)]) (off := 2) rfl
  have f3 := run_part_plain (w := w) (v := .int .u64 (W64 y3)) plain22 (xs := #[.int .u64 (W64 y0), .int .u64 (W64 y1), .int .u64 (W64 y2), .int .u64 (W64 y3)]) (off := 3) rfl
  have g0 := run_equalIn_int (w := w) d _ .u64 .u64 (W64 x0) (W64 y0) hu
  have g1 := run_equalIn_int (w := w) d _ .u64 .u64 (W64 x1) (W64 y1) hu
  have g2 := run_equalIn_int (w := w) d _ .u64 .u64 (W64 x2) (W64 y2) hu
  have g3 := run_equalIn_int (w := w) d _ .u64 .u64 (W64 x3) (W64 y3) hu
  rw [eq_u64] at g0 g1 g2 g3
  simp only [Op.eqItems, Sem.run_bind, Nat.mul_one, e0, f0, g0, Result.andThen_ok]
  rcases h0 : x0 == y0 <;> rcases h1 : x1 == y1 <;> rcases h2 : x2 == y2 <;> rcases h3 : x3 == y3 <;> rw [h1] at g1 <;> rw [h2] at g2 <;> rw [h3] at g3 <;> simp [Sem.run_bind, e1, e2, e3, f1, f2, f3, g1, g2, g3]
theorem eq4w (w : World) (q : W4) : (Op.equalIn 10000 69 (.agg q.cells) (.agg #[.int .u64 0, .int .u64 0, .int .u64 0, .int .u64 0])).run Tryz.prog w = .ok q.no w := by
  have h := eq4d 9998 69 Tryz.underlying69 w q.a q.b q.c q.d 0#64 0#64 0#64 0#64
  rw [show W64 0#64 = 0 from W64_lit 0 (by omega)] at h
  exact h
theorem never_any (q : W4) (w : World) : Calls Tryz.prog 60 #[.agg q.cells] w fun e w' => e = .returned (.bool false) ∧ New w w' := by
  go_enter Tryz.func60, Tryz.ntmps60
  go_wp2_with fail
  go_ret
  exact ⟨rfl, (New.refl w).alloc _⟩
theorem zero_any (q : W4) (w : World) : Calls Tryz.prog 68 #[.agg q.cells] w fun e w' => e = .returned (.bool q.no) ∧ New w w' := by
  have hz := fun w => eq4w w q
  go_enter Tryz.func68, Tryz.ntmps68
  go_wp2_with fail
  go_ret
  exact ⟨rfl, (New.refl w).alloc _⟩
theorem even2_any (q : W4) (w : World) : Calls Tryz.prog 84 #[.agg q.cells] w fun e w' => e = .returned (.bool (q.b &&& 1#64 == 0#64)) ∧ New w w' := by
  go_enter Tryz.func84, Tryz.ntmps84
  go_wp2_with fail
  go_ret
  exact ⟨rfl, (New.refl w).alloc _⟩
theorem even3_any (q : W4) (w : World) : Calls Tryz.prog 92 #[.agg q.cells] w fun e w' => e = .returned (.bool (q.c &&& 1#64 == 0#64)) ∧ New w w' := by
  go_enter Tryz.func92, Tryz.ntmps92
  go_wp2_with fail
  go_ret
  exact ⟨rfl, (New.refl w).alloc _⟩
theorem bad_any {w : World} {k : Int} {g : Gn} (h : IsGen w k g) (q : W4) (w : World) : Calls Tryz.prog g.rf #[.agg q.cells] w fun e w' => e = .returned (.bool (badK k q)) ∧ New w w' := by
  cases h with
  | split b h => exact never_any q w
  | xosh k hk b h =>
    have e : badK k q = q.no := by rcases hk with rfl | rfl | rfl <;> rfl
    rw [e]; exact zero_any q w
  | xoro k hk b b4 b5 b6 h h4 h5 h6 =>
    have e : badK k q = q.no := by rcases hk with rfl | rfl <;> rfl
    rw [e]; exact zero_any q w
  | pcg32 => exact even2_any q w
  | pcg64 => exact even3_any q w
end Go.Proofs.YtfaobdmoifnglaaGreat
