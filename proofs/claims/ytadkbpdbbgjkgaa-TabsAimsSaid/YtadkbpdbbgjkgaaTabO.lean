/- Layer 22: a row that has an entry of its own. -/
import Derived.Test.YtadkbpdbbgjkgaaTabN
namespace Go.Proofs.Ytadkbpdbbgjkgaa
open Go Go.RowKit Go.Bv Go.Tab
set_option linter.unusedVariables false
set_option maxRecDepth 100000
theorem infoB : (Try.prog.info? 4).isSome = true := by kernel_rfl
theorem plainB : Try.prog.plainKey 4 = true := by kernel_rfl
theorem cellsB : Try.prog.cellsOf 4 = 1 := by kernel_rfl
theorem eqB (w : World) (x y : Bool) : (Op.equalIn 9999 4 (.bool x) (.bool y)).run Try.prog w = .ok (x == y) w := by
  cases x <;> cases y <;> kernel_rfl
theorem eqB3 (w : World) (x0 x1 x2 y0 y1 y2 : Bool) :
    (Op.equalIn 10000 72 (.agg #[.bool x0, .bool x1, .bool x2]) (.agg #[.bool y0, .bool y1, .bool y2])).run Try.prog w = .ok (x0 == y0 && (x1 == y1 && x2 == y2)) w := by
  obtain ⟨i, hi⟩ := Option.isSome_iff_exists.1 infoB
  rw [run_equalIn_array w 9999 _ _ Try.underlying72 hi, cellsB, show List.range 3 = [0, 1, 2] from rfl]
  have e0 := run_part_plain (w := w) (v := .bool x0) plainB (xs := #[.bool x0, .bool x1, .bool x2]) (off := 0) rfl
  have e1 := run_part_plain (w := w) (v := .bool x1) plainB (xs := #[.bool x0, .bool x1, .bool x2]) (off := 1) rfl
  have e2 := run_part_plain (w := w) (v := .bool x2) plainB (xs := #[.bool x0, .bool x1, .bool x2]) (off := 2) rfl
  have f0 := run_part_plain (w := w) (v := .bool y0) plainB (xs := #[.bool y0, .bool y1, .bool y2]) (off := 0) rfl
  have f1 := run_part_plain (w := w) (v := .bool y1) plainB (xs := #[.bool y0, .bool y1, .bool y2]) (off := 1) rfl
  have f2 := run_part_plain (w := w) (v := .bool y2) plainB (xs := #[.bool y0, .bool y1, .bool y2]) (off := 2) rfl
  have g0 := eqB w x0 y0
  have g1 := eqB w x1 y1
  have g2 := eqB w x2 y2
  simp only [Op.eqItems, Sem.run_bind, Nat.mul_one, e0, f0, g0, Result.andThen_ok]
  rcases h0 : x0 == y0 <;> rcases h1 : x1 == y1 <;> rcases h2 : x2 == y2 <;> rw [h1] at g1 <;> rw [h2] at g2 <;> simp [Sem.run_bind, e1, e2, f1, f2, g1, g2]
/-- rows as rows of letters -/
def rn (R : Nat → List Int) : Nat → Nat → Nat := fun i p => ((R i).getD p 0).toNat
theorem own_sh {n : Nat} (hn : n ≤ 3) {R : Nat → List Int} {left : Nat → Bool} {i p : Nat} (hi : i < n) (hR : ∀ j, j < n → 0 ≤ (R j).getD p 0) :
    own n (rn R) left i p = (left i && (shF n R left i p 0 == decide (0 = i) && (shF n R left i p 1 == decide (1 = i) && shF n R left i p 2 == decide (2 = i)))) := by
  rw [Bool.eq_iff_iff, own_iff]
  have key : ∀ j, (shF n R left i p j == decide (j = i)) = true ↔ (shF n R left i p j = true ↔ j = i) := by
    intro j
    rw [beq_iff_eq, Bool.eq_iff_iff, decide_eq_true_iff]
  have sh : ∀ j, shF n R left i p j = true ↔ j < n ∧ left j = true ∧ (R j).getD p 0 = (R i).getD p 0 := by
    intro j; unfold shF; simp [and_assoc]
  simp only [Bool.and_eq_true, key, sh]
  have rr : ∀ j, j < n → (rn R j p = rn R i p ↔ (R j).getD p 0 = (R i).getD p 0) := by
    intro j hj
    have := hR j hj
    have := hR i hi
    unfold rn
    omega
  constructor
  · rintro ⟨hl, h⟩
    have g : ∀ j, (j < n ∧ left j = true ∧ (R j).getD p 0 = (R i).getD p 0) ↔ j = i := by
      intro j
      constructor
      · rintro ⟨hj, hlj, he⟩
        by_cases e : j = i
        · exact e
        · exact absurd ((rr j hj).2 he) (h j hj hlj e)
      · rintro rfl; exact ⟨hi, hl, rfl⟩
    exact ⟨hl, g 0, g 1, g 2⟩
  · rintro ⟨hl, g0, g1, g2⟩
    refine ⟨hl, fun j hj hlj hne he => hne ?_⟩
    have hj3 : j = 0 ∨ j = 1 ∨ j = 2 := by omega
    have he2 := (rr j hj).1 he
    rcases hj3 with rfl | rfl | rfl
    · exact g0.1 ⟨hj, hlj, he2⟩
    · exact g1.1 ⟨hj, hlj, he2⟩
    · exact g2.1 ⟨hj, hlj, he2⟩
end Go.Proofs.Ytadkbpdbbgjkgaa
