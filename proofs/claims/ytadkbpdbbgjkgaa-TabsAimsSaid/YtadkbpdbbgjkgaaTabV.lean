/- Layer 22: Aim, where nothing is wrong. -/
import Derived.Test.YtadkbpdbbgjkgaaTabU
import Derived.Test.YtadkbpdbbgjkgaaCrw
namespace Go.Proofs.Ytadkbpdbbgjkgaa
open Go Go.RowKit Go.Bv Go.Tab
set_option linter.unusedVariables false
set_option maxRecDepth 100000
/-- the last places of a list, from k on: their changes -/
def chK (m : Nat) (R : Nat → List Int) (by_ : Nat → BitVec 64) (pl : List (Nat × Nat)) (k : Nat) : Nat → BitVec 64 := aimF m (rn R) by_ (pl.drop k)
theorem chK_step (m : Nat) (R : Nat → List Int) (by_ : Nat → BitVec 64) (pl : List (Nat × Nat)) (k : Nat) (hk : k < pl.length) : chK m R by_ pl k = aim1 m (rn R) by_ (chK m R by_ pl (k + 1)) pl[k] := by
  unfold chK
  rw [List.drop_eq_getElem_cons hk]
  rfl
theorem chK_end (m : Nat) (R : Nat → List Int) (by_ : Nat → BitVec 64) (pl : List (Nat × Nat)) : chK m R by_ pl pl.length = fun _ => 0#64 := by
  unfold chK
  rw [List.drop_length]
  rfl
theorem plCs_get : ∀ (l : List (Nat × Nat)) (i : Nat) (h : i < l.length), (plCs l)[i * 2]? = some (.int .i64 (l[i].1 : Int)) ∧ (plCs l)[i * 2 + 1]? = some (.int .i64 (l[i].2 : Int))
  | [], i, h => absurd h (by simp)
  | x :: l, 0, h => ⟨rfl, rfl⟩
  | x :: l, i + 1, h => by
    have ih := plCs_get l i (by simpa using h)
    have e : plCs (x :: l) = plC x ++ plCs l := rfl
    rw [e]
    have h2 : (plC x).length = 2 := rfl
    constructor
    · rw [List.getElem?_append_right (by omega), h2, show (i + 1) * 2 - 2 = i * 2 by omega]; exact ih.1
    · rw [List.getElem?_append_right (by omega), h2, show (i + 1) * 2 + 1 - 2 = i * 2 + 1 by omega]; exact ih.2
end Go.Proofs.Ytadkbpdbbgjkgaa
