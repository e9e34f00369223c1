/- Layer 43: a table that came in: its datum opened; the walk of AliasTells for the frame. -/
import Derived.Test.YtbjclkjikclljaaAliT
import Derived.Test.YtbjclkjikclljaaFrame
import Derived.Deep.Strs
import Derived.SizedLaws
namespace Go.Proofs.Ytbjclkjikclljaa
open Go Go.RowKit Go.Bv Go.Ali Go.Deep Go.ChangeShapes
set_option linter.unusedVariables false
set_option maxRecDepth 100000
section
variable {H : Type} {enc : TypeId × Value → H} {P : Program} {w : World} {base : Nat} {held : Bool}
theorem row_of {t e : TypeId} {k : IntKind} {fuel : Nat} {cs : List Value} {x : DataW H × List MemPlace} (ht : P.underlying t = some (.slice e)) (he : P.underlying e = some (.int k)) (hc : P.cellsOf e = 1) (hb : P.bytesOf e = 8)
    (h : DataW.trod enc P w base (fun _ => true) held fuel t cs = some x) (hs : ∀ n ∈ x.1.weights P t, n ≤ reachBytes) : ∃ a n m z, cs = [.slice a n m] ∧ IRow k w a n m z ∧ m * 8 ≤ 140737488351232 := by
  rcases open_ints ht he hc h with ⟨hcs, _⟩ | ⟨y, l, c, zs, hcs, _, hl, hm, hz, hx, hcell, hwz⟩
  · exact ⟨none, 0, 0, [], hcs, .inl ⟨rfl, rfl, rfl, rfl⟩, by omega⟩
  · have hz' : zs.length = c := by simpa using hz
    subst hx
    have hr := hs (((zs.take l).length + (zs.drop l).length) * 8) (by
      simp only [DataW.weights, ht, lits, List.length_map, hb]
      exact List.mem_cons_self)
    simp only [List.length_take, List.length_drop, reachBytes] at hr
    exact ⟨some y, l, c, zs, hcs, .inr ⟨_, rfl, hl, hz', hcell, hwz⟩, by omega⟩
theorem open_table {t eb ea : TypeId} {f0 f1 f2 : Field} {fuel : Nat} {cs : List Value} {x : DataW H × List MemPlace} (ht : P.underlying t = some (.struct #[f0, f1, f2])) (h0 : P.underlying f0.type = some (.int .u64)) (h1 : P.underlying f1.type = some (.slice eb)) (h2 : P.underlying f2.type = some (.slice ea))
    (hb : P.underlying eb = some (.int .u64)) (ha : P.underlying ea = some (.int .i64)) (q0 : f0.offset = 0) (q1 : f1.offset = 1) (q2 : f2.offset = 2) (c0 : P.cellsOf f0.type = 1) (c1 : P.cellsOf f1.type = 1) (c2 : P.cellsOf f2.type = 1) (ct : P.cellsOf t = 3)
    (cb : P.cellsOf eb = 1) (ca : P.cellsOf ea = 1) (bb : P.bytesOf eb = 8) (ba : P.bytesOf ea = 8) (h : DataW.trod enc P w base (fun _ => true) held fuel t cs = some x) (hs : ∀ n ∈ x.1.weights P t, n ≤ reachBytes) :
    ∃ T b nb mb a na ma be al, cs = [.int .u64 (W64 T), .slice b nb mb, .slice a na ma] ∧ TL w b nb mb a na ma be al := by
  obtain ⟨y0, y1, y2, n, rfl, hl, g0, g1, g2⟩ := trod_struct3 ht h
  rw [ct] at hl
  match cs, hl with
  | [v0, v1, v2], _ =>
    rw [q0, c0] at g0
    rw [q1, c1] at g1
    rw [q2, c2] at g2
    have hw : ∀ n ∈ y0.1.weights P f0.type ++ (y1.1.weights P f1.type ++ (y2.1.weights P f2.type ++ [])), n ≤ reachBytes := by
      intro n hn
      apply hs n
      simp only [DataW.weights, ht]
      exact hn
    obtain ⟨z, hv, _, hwf⟩ := DataW.trod_int h0 g0
    obtain ⟨b, nb, mb, zb, hv1, r1, s1⟩ := row_of h1 hb cb bb g1 (fun n hn => hw n (List.mem_append_right _ (List.mem_append_left _ hn)))
    obtain ⟨a, na, ma, za, hv2, r2, s2⟩ := row_of h2 ha ca ba g2 (fun n hn => hw n (List.mem_append_right _ (List.mem_append_right _ (List.mem_append_left _ hn))))
    simp at hv hv1 hv2
    subst hv hv1 hv2
    obtain ⟨T, rfl⟩ := wf64 hwf
    obtain ⟨be, hbe⟩ := r1.words s1
    obtain ⟨al, hal⟩ := r2.ints s2
    exact ⟨T, b, nb, mb, a, na, ma, be, al, rfl, hbe, hal⟩
end
theorem AliasTells_walk (W : World) (T0 : BitVec 64) (b0 : Option Addr) (nb0 mb0 : Nat) (a0 : Option Addr) (na0 ma0 : Nat) (be0 : List (BitVec 64)) (al0 : List Int) (w0 : TL W b0 nb0 mb0 a0 na0 ma0 be0 al0) (a1 : Int) (w1 : (Lit.int .u64 a1).wf = true) (a2 : Int) (w2 : (Lit.int .u64 a2).wf = true) (a3 : Int) (w3 : (Lit.int .i64 a3).wf = true) :
    Calls Try.prog 5 #[.agg #[.int .u64 (W64 T0), .slice b0 nb0 mb0, .slice a0 na0 ma0], .int .u64 a1, .int .u64 a2, .int .i64 a3] W fun e w' => e = .returned (.bool true) ∧ Below W.heap.size W w' := by
  obtain ⟨c, rfl⟩ := wf64 w1
  obtain ⟨u, rfl⟩ := wf64 w2
  exact tells_43 T0 b0 nb0 mb0 a0 na0 ma0 be0 al0 c u a3 W w0
end Go.Proofs.Ytbjclkjikclljaa
