/- Pieces of bytes: the first ones together. -/
import Derived.Test.YtnapogamcohfaaaPcs
import Derived.Test.YtnapogamcohfaaaBlkM
namespace Go.Bv
open Go Go.RowKit
theorem bTail_leh (n : Nat) (l : List (BitVec 8)) : (bTail n l).length ≤ l.length := by rw [bTail_len]; exact Nat.mod_le _ _
/-- the bytes of the first k pieces -/
def pre (ps : List Pc) (k : Nat) : List (BitVec 8) := ((ps.take k).map Pc.l).flatten
theorem pre_zero (ps : List Pc) : pre ps 0 = [] := rfl
theorem pre_succ (ps : List Pc) (k : Nat) (h : k < ps.length) : pre ps (k + 1) = pre ps k ++ (ps[k]).l := by
  unfold pre
  rw [List.take_succ_eq_append_getElem h, List.map_append, List.flatten_append]
  simp
theorem pre_all (ps : List Pc) (k : Nat) (h : ps.length ≤ k) : pre ps k = (ps.map Pc.l).flatten := by
  unfold pre; rw [List.take_of_length_le h]
theorem pre_rest (ps : List Pc) (k : Nat) : pre ps k ++ ((ps.drop k).map Pc.l).flatten = (ps.map Pc.l).flatten := by
  unfold pre
  rw [← List.flatten_append, ← List.map_append, List.take_append_drop]
theorem pre_take (ps : List Pc) (k : Nat) (l : List (BitVec 8)) (hf : (ps.map Pc.l).flatten = l) : l.take (pre ps k).length = pre ps k := by
  rw [← hf, ← pre_rest ps k, List.take_left']
  rfl
theorem pre_le (ps : List Pc) (k : Nat) (l : List (BitVec 8)) (hf : (ps.map Pc.l).flatten = l) : (pre ps k).length ≤ l.length := by
  rw [← hf, ← pre_rest ps k, List.length_append]; omega
theorem own_at {w : World} {base : Nat} {e : TypeId} {v : Value} {n : Nat} {xs : List Value} (h : w.ownsRow base e 1 v (n + 1) xs) :
    ∃ g cap cur, v = .slice (some ⟨g, 0, none⟩) (n + 1) cap ∧ base ≤ g ∧ w.heap[g]? = some (.cells cur e (0, 0)) ∧ n + 1 ≤ cap ∧ cap ≤ maxLen ∧ xs.length = n + 1 ∧ ∀ i, i < n + 1 → cur[i]? = xs[i]? := by
  obtain ⟨hl, h⟩ := h
  rcases h with ⟨_, h0⟩ | ⟨g, cap, cur, rfl, hb, hg, hc, hm, hs, ht⟩
  · omega
  · refine ⟨g, cap, cur, rfl, hb, hg, hc, hm, by omega, fun i hi => ?_⟩
    rw [← ht, List.getElem?_take, if_pos (by omega), Array.getElem?_toList]
end Go.Bv
