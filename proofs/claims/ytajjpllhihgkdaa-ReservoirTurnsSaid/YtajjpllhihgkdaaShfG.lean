/- shuffle.Back. -/
import Derived.Test.YtajjpllhihgkdaaShfF
namespace Go.Proofs.Ytajjpllhihgkdaa
open Go Go.RowKit Go.Bv
set_option linter.unusedVariables false
def lsL (p : List Int) (n k : Nat) : List Int := liI (fun x => lsF p x k) n
theorem lsL_len (p : List Int) (n k : Nat) : (lsL p n k).length = n := liI_len _ _
theorem lsL_zero (p : List Int) (n : Nat) : lsL p n 0 = liI (fun _ => 0) n := rfl
/-- the first k places told -/
def bkL (p : List Int) (n k : Nat) : List Int := liI (fun x => if x < k then lsF p x n else 0) n
theorem bkL_zero (p : List Int) (n : Nat) : bkL p n 0 = liI (fun _ => 0) n := liI_ext (fun x _ => by rw [if_neg (by omega)])
theorem bkL_set (p : List Int) {n k : Nat} (h : k < n) : (bkL p n k).set k ((lsF p k n : Nat) : Int) = bkL p n (k + 1) := by
  unfold bkL
  rw [liI_set _ _ h]
  apply liI_ext
  intro x _
  by_cases e : x = k
  · subst e; rw [if_pos rfl, if_pos (by omega)]
  · rw [if_neg e]
    by_cases e2 : x < k
    · rw [if_pos e2, if_pos (by omega)]
    · rw [if_neg e2, if_neg (by omega)]
end Go.Proofs.Ytajjpllhihgkdaa
