/- Contracts of load.Le32, load.Le64 and of the document's own Num, There and Left, Rot32, Rot64, Swap: what each call returns. -/
import Derived.Test.YtjmnhooenampkaaGreatLoadA
namespace Go.Proofs.YtjmnhooenampkaaGreat
open Go.RowKit Go.Bv
set_option linter.unusedVariables false
theorem BRow_sub {w : World} {b off len cap k n : Nat} {l : List (BitVec 8)} (h : BRow w (some ⟨b, off, none⟩) len cap l) (hk : k + n ≤ len) :
    BRow w (some ⟨b, off + k, none⟩) n n ((l.drop k).take n) where
  len_eq := by have := h.len_eq; simp; omega
  le := Nat.le_refl _
  most := by have := h.most; omega
  room := by have := h.most; omega
  none := by intro e; cases e
  cell := by
    intro b' off' e i hi
    cases e
    have := h.cell b off rfl (k + i) (by omega)
    rw [Nat.add_assoc, this]
    have e2 : ((l.drop k).take n).getD i 0 = l.getD (k + i) 0 := by
      simp [List.getD_eq_getElem?_getD, hi, List.getElem?_drop]
    rw [e2]
  spot := by intro x e _; cases e; rfl
  old := by intro x e h0; cases e; exact h.old ⟨b, off, Option.none⟩ rfl (by omega)
theorem num_sub (l : List (BitVec 8)) (k n : Nat) : num (fun i => ((l.drop k).take n).getD i 0) n = num (fun i => l.getD (k + i) 0) n :=
  num_congr n (fun i hi => by simp [List.getD_eq_getElem?_getD, hi, List.getElem?_drop])
def rd (l : List (BitVec 8)) (k n : Nat) : BitVec 64 := num (fun i => l.getD (k + i) 0) n
end Go.Proofs.YtjmnhooenampkaaGreat
