import Derived.Test.YtebcfbcfipmahaaGreatZ3FamU
import Derived.Lib.SmallJoins
import Derived.OpenShut
import Derived.ChangeOld
import Derived.Deep.Strs
import Derived.SizedLaws
section
namespace Go.Bv
open Go Go.RowKit Go.WideShapes
section
variable {P : Program} {w : World} {r : Reach} {base : Nat}
theorem okWide_str {t : TypeId} {fs : Array Field} {v : Value} (hu : P.underlying t = some (.struct fs)) (h : Value.okWide P w r base t v) :
    ∃ cs, v = .agg cs ∧ cs.size = P.cellsOf t ∧ Row.okWide P w r base t cs := by
  simpa only [Value.okWide, hu] using h
end
end Go.Bv
end
section
namespace Go.Proofs.YtebcfbcfipmahaaGreat
open Go Go.RowKit Go.Bv Go.Deep Go.ChangeShapes
set_option linter.unusedVariables false
set_option maxRecDepth 100000
section
variable {H : Type} {enc : TypeId × Value → H} {P : Program} {w : World} {base : Nat} {held : Bool}
theorem rowS_of {t e : TypeId} {k : IntKind} {fuel : Nat} {cs : List Value} {x : DataW H × List MemPlace} (ht : P.underlying t = some (.slice e)) (he : P.underlying e = some (.int k)) (hc : P.cellsOf e = 1) (hb : P.bytesOf e = 8)
    (h : DataW.trod enc P w base (fun _ => true) held fuel t cs = some x) (hs : ∀ n ∈ x.1.weights P t, n ≤ reachBytes) : ∃ a n m z, cs = [.slice a n m] ∧ IRow k w a n m z ∧ m * 8 ≤ 140737488351232 := by
  rcases open_ints ht he hc h with ⟨hcs, _⟩ | ⟨y, l, c, zs, hcs, _, hl, hm, hz, hx, hcell, hwz⟩
  · exact ⟨none, 0, 0, [], hcs, .inl ⟨rfl, rfl, rfl, rfl⟩, by omega⟩
  · have hz' : zs.length = c := by simpa using hz
    subst hx
    have hr := hs (((zs.take l).length + (zs.drop l).length) * 8) (by
      simp only [DataW.weights, ht, lits, List.length_map, hb]
      exact List.mem_cons_self)
    simp only [List.length_take, List.length_drop, reachBytes] at hr
    exact ⟨some y, l, c, zs, hcs, .inr ⟨_, rfl, hl, hz', hcell, hwz⟩, by omega⟩
theorem open_seed {t ea : TypeId} {f0 f1 f2 : Field} {fuel : Nat} {cs : List Value} {x : DataW H × List MemPlace} (ht : P.underlying t = some (.struct #[f0, f1, f2])) (h0 : P.underlying f0.type = some (.int .i64)) (h1 : P.underlying f1.type = some (.int .i64)) (h2 : P.underlying f2.type = some (.slice ea))
    (ha : P.underlying ea = some (.int .u64)) (q0 : f0.offset = 0) (q1 : f1.offset = 1) (q2 : f2.offset = 2) (c0 : P.cellsOf f0.type = 1) (c1 : P.cellsOf f1.type = 1) (c2 : P.cellsOf f2.type = 1) (ct : P.cellsOf t = 3)
    (ca : P.cellsOf ea = 1) (ba : P.bytesOf ea = 8) (h : DataW.trod enc P w base (fun _ => true) held fuel t cs = some x) (hs : ∀ n ∈ x.1.weights P t, n ≤ reachBytes) :
    ∃ k b a n m l, cs = [.int .i64 k, .int .i64 b, .slice a n m] ∧ (-9223372036854775808 ≤ k ∧ k ≤ 9223372036854775807) ∧ (-9223372036854775808 ≤ b ∧ b ≤ 9223372036854775807) ∧ QRow w a n m l := by
  obtain ⟨y0, y1, y2, n, rfl, hl, g0, g1, g2⟩ := trod_struct3 ht h
  rw [ct] at hl
  match cs, hl with
  | [v0, v1, v2], _ =>
    rw [q0, c0] at g0
    rw [q1, c1] at g1
    rw [q2, c2] at g2
    have hw : ∀ n ∈ y0.1.weights P f0.type ++ (y1.1.weights P f1.type ++ (y2.1.weights P f2.type ++ [])), n ≤ reachBytes := by
      intro n hn
      apply hs n
      simp only [DataW.weights, ht]
      exact hn
    obtain ⟨z, hv, _, hwf⟩ := DataW.trod_int h0 g0
    obtain ⟨z1, hv1, _, hwf1⟩ := DataW.trod_int h1 g1
    obtain ⟨a, na, ma, za, hv2, r2, s2⟩ := rowS_of h2 ha ca ba g2 (fun n hn => hw n (List.mem_append_right _ (List.mem_append_right _ (List.mem_append_left _ hn))))
    simp at hv hv1 hv2
    subst hv hv1 hv2
    obtain ⟨l, hl⟩ := r2.words s2
    have m1 : IntKind.i64.min = -9223372036854775808 := rfl
    have m2 : IntKind.i64.max = 9223372036854775807 := rfl
    simp [Lit.wf] at hwf hwf1
    exact ⟨z, z1, a, na, ma, l, rfl, by omega, by omega, hl⟩
end
end Go.Proofs.YtebcfbcfipmahaaGreat
end
