/- Contract of the document's own Words: whether two lists of words are alike. -/
import Derived.Test.YtbjclkjikclljaaProg
import Derived.Test.YtbjclkjikclljaaRowQ
import Derived.Deep.QuietTactic
import Derived.BigQuiet
namespace Go.Proofs.Ytbjclkjikclljaa
open Go.RowKit Go.Bv
set_option linter.unusedVariables false
theorem words_eq {la lb : List (BitVec 64)} {n : Nat} (ha : la.length = n) (hb : lb.length = n) (h : ∀ j, j < n → la.getD j 0 = lb.getD j 0) : la = lb := by
  apply List.ext_getElem (by omega)
  intro j h1 h2
  have := h j (by omega)
  rw [List.getD_eq_getElem?_getD, List.getD_eq_getElem?_getD, List.getElem?_eq_getElem h1, List.getElem?_eq_getElem h2] at this
  simpa using this
end Go.Proofs.Ytbjclkjikclljaa
