/- Rows that came in: the datum of a slice of slices of integers, opened. -/
import Derived.Test.YtadkbpdbbgjkgaaTabT
import Derived.Test.YtadkbpdbbgjkgaaFrame
import Derived.Deep.Matrix
import Derived.SizedLaws
namespace Go.Proofs.Ytadkbpdbbgjkgaa
open Go Go.RowKit Go.Bv Go.Tab Go.Deep
set_option linter.unusedVariables false
set_option maxRecDepth 100000
section
variable {H : Type} {enc : TypeId × Value → H} {P : Program} {w : World} {base : Nat} {held : Bool}
theorem weights_mem_all {e : TypeId} : ∀ {ds : List (DataW H)} {d : DataW H}, d ∈ ds → ∀ n ∈ d.weights P e, n ∈ DataW.weightsAll P e ds
  | [], d, h, n, hn => by cases h
  | d0 :: ds, d, h, n, hn => by
    simp only [DataW.weightsAll, List.mem_append]
    rcases List.mem_cons.1 h with rfl | h
    · exact Or.inl hn
    · exact Or.inr (weights_mem_all h n hn)
theorem open_rows {t e q : TypeId} {fuel : Nat} {cs : List Value} {x : DataW H × List MemPlace} (ht : P.underlying t = some (.slice e)) (he : P.underlying e = some (.slice q)) (hq : P.underlying q = some (.int .i64))
    (ce : P.cellsOf e = 1) (cq : P.cellsOf q = 1) (be : P.bytesOf e = 24) (bq : P.bytesOf q = 8) (h : DataW.trod enc P w base (fun _ => true) held fuel t cs = some x) (hs : ∀ n ∈ x.1.weights P t, n ≤ reachBytes) :
    ∃ a n m R, cs = [.slice a n m] ∧ RwX w a n m R := by
  rcases open_int_rows ht he hq ce cq h with ⟨rfl, _⟩ | ⟨a, len, cap, A, L, C, Z, rfl, hb, hl, hm, rfl, hx⟩
  · exact ⟨none, 0, 0, fun _ => [], rfl, Nat.le_refl _, by omega, fun h0 => absurd h0 (by omega)⟩
  · have hw0 : ∀ n ∈ DataW.weights P t (.slice ((List.range len).map fun r => intRow (H := H) .i64 (A r) (L r) (Z r)) ((List.range (cap - len)).map fun j => intRow .i64 (A (len + j)) (L (len + j)) (Z (len + j)))), n ≤ reachBytes := hs
    have hlen : len * 24 ≤ reachBytes := by
      have := hw0 _ (by simp only [DataW.weights, ht]; exact List.mem_cons_self)
      simp only [List.length_map, List.length_range, be] at this
      omega
    have hsz : ∀ r, r < len → ∀ (x : Addr), A r = some x → C r * 8 ≤ 140737488351232 := by
      intro r hr x hA
      have h1 := (hx r (by omega)).2.2.2.1
      have hd : intRow (H := H) .i64 (A r) (L r) (Z r) ∈ (List.range len).map fun r => intRow (H := H) .i64 (A r) (L r) (Z r) := List.mem_map.2 ⟨r, List.mem_range.2 hr, rfl⟩
      have h2 : C r * 8 ∈ (intRow (H := H) .i64 (A r) (L r) (Z r)).weights P e := by
        rw [hA]
        simp only [intRow, DataW.weights, he, Go.ChangeShapes.lits, List.length_map, List.length_take, List.length_drop, bq]
        have : (min (L r) (Z r).length + ((Z r).length - L r)) = C r := by omega
        rw [this]
        exact List.mem_cons_self
      have := hw0 _ (by
        simp only [DataW.weights, ht]
        exact List.mem_cons_of_mem _ (List.mem_append_left _ (weights_mem_all hd _ h2)))
      simpa [reachBytes] using this
    have hrow : ∀ r, r < len → ∃ l, ZRow w (A r) (L r) (C r) l := by
      intro r hr
      obtain ⟨g1, g2, g3, g4, g5, g6, g7⟩ := hx r (by omega)
      cases hA : A r with
      | none =>
        have hc := g6 hA
        have hL : L r = 0 := by omega
        rw [hL, hc]
        exact ⟨[], ⟨rfl, Nat.le_refl _, by omega, by omega, fun _ => ⟨rfl, rfl⟩, (fun _ _ e => by cases e), (fun _ e => by cases e), (fun _ e => by cases e), (fun _ e => by cases e)⟩⟩
      | some x =>
        refine IRow.ints (.inr ⟨x, rfl, g2, g4, fun i hi => ?_, g5⟩) (hsz r hr x hA)
        exact (g7 x hA).2 i (by omega)
    obtain ⟨R, hR⟩ : ∃ R : Nat → List Int, ∀ r, r < len → ZRow w (A r) (L r) (C r) (R r) := by
      refine ⟨fun r => if h : r < len then Classical.choose (hrow r h) else [], fun r hr => ?_⟩
      show ZRow w (A r) (L r) (C r) (if h : r < len then Classical.choose (hrow r h) else [])
      rw [dif_pos hr]
      exact Classical.choose_spec (hrow r hr)
    refine ⟨some a, len, cap, R, rfl, hl, by unfold reachBytes at hlen; omega, fun h0 => ?_⟩
    have hsp : a.spot = none := by
      have := (hx 0 (by omega)).1
      have h2 := World.cell?_spot this
      simpa [Addr.add] using h2
    obtain ⟨g, gf, sp⟩ := a
    simp only at hsp
    subst hsp
    refine ⟨g, gf, rfl, fun i hi => ?_⟩
    have hz := hR i hi
    have h1 := (hx i (by omega)).1
    rw [add_plain] at h1
    rw [hz.len_eq]
    exact ⟨A i, C i, h1, hz⟩
end
end Go.Proofs.Ytadkbpdbbgjkgaa
