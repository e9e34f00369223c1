/- shuffle.Choices. -/
import Derived.Test.YtbjclkjikclljaaShfC
import Derived.Deep.RegionHeld3
import Derived.Deep.DeepCutAuto
namespace Go.Proofs.Ytbjclkjikclljaa
open Go Go.RowKit Go.Bv
set_option linter.unusedVariables false
theorem ch_next (p : Nat → Nat) {n k i : Nat} (hk : k < n) (hi : n - 1 - k = i) :
    chC p n (k + 1) = (fun x => if x = i then inF (chC p n k) n k (p i) else chC p n k x) ∧ stF (chC p n (k + 1)) n (k + 1) = sw (stF (chC p n k) n k) i (inF (chC p n k) n k (p i)) ∧ inF (chC p n (k + 1)) n (k + 1) = swI (stF (chC p n k) n k) (inF (chC p n k) n k) i (inF (chC p n k) n k (p i)) := by
  subst hi
  refine ⟨rfl, ?_, ?_⟩
  · show sw _ _ _ = _
    rw [ch_st p n k hk, ch_at]
  · show swI _ _ _ _ = _
    rw [ch_st p n k hk, ch_in p n k hk, ch_at]
theorem sw_at (f : Nat → Nat) (i j : Nat) : sw f i j i = f j := by
  unfold sw
  by_cases e : i = j
  · rw [if_pos e, e]
  · rw [if_neg e, if_pos rfl]
theorem sw_at2 (f : Nat → Nat) (i j : Nat) : sw f i j j = f i := by unfold sw; rw [if_pos rfl]
theorem liI_swI (f g : Nat → Nat) {n i j : Nat} (h1 : f j < n) (h2 : f i < n) : ((liI g n).set (f j) (i : Int)).set (f i) (j : Int) = liI (swI f g i j) n := by
  rw [liI_set g i h1, liI_set _ j h2]; rfl
theorem zeros_li (n : Nat) : (List.replicate n (Value.int .i64 0)) = (liI (fun _ => 0) n).map fun x => .int .i64 x := by
  unfold liI
  apply List.ext_getElem?
  intro i
  rw [List.getElem?_replicate, List.getElem?_map, List.getElem?_map]
  by_cases h : i < n
  · rw [if_pos h, List.getElem?_range h]; rfl
  · rw [if_neg h, List.getElem?_eq_none (by simp; omega)]; rfl
theorem ow_in {w : World} {base g n cap : Nat} {e : TypeId} {xs : List Value} (h : w.ownsRow base e 1 (.slice (some ⟨g, 0, none⟩) n cap) n xs) : base ≤ g ∧ g < w.heap.size ∧ n ≤ cap := by
  obtain ⟨hl, h | ⟨g', cap', cur, hv, hb, hc, h2, h3, _⟩⟩ := h
  · cases h.1
  · injection hv with e1 e2 e3
    cases e1; subst e3
    exact ⟨hb, lt_of_block hc, h2⟩
end Go.Proofs.Ytbjclkjikclljaa
