import Derived.Test.YthkmcnlciefnfaaGreatZ5CfgL
import Derived.Lib.SmallJoins
import Derived.OpenShut
import Derived.ChangeOld
import Derived.Deep.Strs
import Derived.SizedLaws
section
namespace Go.Bv
open Go Go.RowKit Go.WideShapes
section
variable {P : Program} {w : World} {r : Reach} {base : Nat}
theorem okWide_str {t : TypeId} {fs : Array Field} {v : Value} (hu : P.underlying t = some (.struct fs)) (h : Value.okWide P w r base t v) :
    ∃ cs, v = .agg cs ∧ cs.size = P.cellsOf t ∧ Row.okWide P w r base t cs := by
  simpa only [Value.okWide, hu] using h
end
end Go.Bv
end
section
namespace Go.Proofs.YthkmcnlciefnfaaGreat
open Go Go.RowKit Go.Bv Go.Deep Go.ChangeShapes
set_option linter.unusedVariables false
set_option maxRecDepth 100000
section
variable {H : Type} {enc : TypeId × Value → H} {P : Program} {w : World} {base : Nat} {held : Bool}
theorem rowS_of {t e : TypeId} {k : IntKind} {fuel : Nat} {cs : List Value} {x : DataW H × List MemPlace} (ht : P.underlying t = some (.slice e)) (he : P.underlying e = some (.int k)) (hc : P.cellsOf e = 1) (hb : P.bytesOf e = 8)
    (h : DataW.trod enc P w base (fun _ => true) held fuel t cs = some x) (hs : ∀ n ∈ x.1.weights P t, n ≤ reachBytes) : ∃ a n m z, cs = [.slice a n m] ∧ IRow k w a n m z ∧ m * 8 ≤ 140737488351232 := by
  rcases open_ints ht he hc h with ⟨hcs, _⟩ | ⟨y, l, c, zs, hcs, _, hl, hm, hz, hx, hcell, hwz⟩
  · exact ⟨none, 0, 0, [], hcs, .inl ⟨rfl, rfl, rfl, rfl⟩, by omega⟩
  · have hz' : zs.length = c := by simpa using hz
    subst hx
    have hr := hs (((zs.take l).length + (zs.drop l).length) * 8) (by
      simp only [DataW.weights, ht, lits, List.length_map, hb]
      exact List.mem_cons_self)
    simp only [List.length_take, List.length_drop, reachBytes] at hr
    exact ⟨some y, l, c, zs, hcs, .inr ⟨_, rfl, hl, hz', hcell, hwz⟩, by omega⟩
end
end Go.Proofs.YthkmcnlciefnfaaGreat
end
section
namespace Go.Proofs.YthkmcnlciefnfaaGreat
open Go Go.RowKit Go.Bv Go.Deep Go.ChangeShapes
set_option linter.unusedVariables false
set_option maxRecDepth 100000
section
variable {H : Type} {enc : TypeId × Value → H} {P : Program} {w : World} {base : Nat} {held : Bool}
theorem trod_struct5C {t : TypeId} {f0 f1 f2 f3 f4 : Field} {fuel : Nat} {cs : List Value} {x : DataW H × List MemPlace} (ht : P.underlying t = some (.struct #[f0, f1, f2, f3, f4])) (h : DataW.trod enc P w base (fun _ => true) held fuel t cs = some x) :
    ∃ y0 y1 y2 y3 y4 n, x = (.agg [y0.1, y1.1, y2.1, y3.1, y4.1], y0.2 ++ (y1.2 ++ (y2.2 ++ (y3.2 ++ y4.2)))) ∧ cs.length = P.cellsOf t ∧ DataW.trod enc P w base (fun _ => true) held n f0.type ((cs.drop f0.offset).take (P.cellsOf f0.type)) = some y0 ∧
      DataW.trod enc P w base (fun _ => true) held n f1.type ((cs.drop f1.offset).take (P.cellsOf f1.type)) = some y1 ∧ DataW.trod enc P w base (fun _ => true) held n f2.type ((cs.drop f2.offset).take (P.cellsOf f2.type)) = some y2 ∧
      DataW.trod enc P w base (fun _ => true) held n f3.type ((cs.drop f3.offset).take (P.cellsOf f3.type)) = some y3 ∧ DataW.trod enc P w base (fun _ => true) held n f4.type ((cs.drop f4.offset).take (P.cellsOf f4.type)) = some y4 := by
  obtain ⟨xs, n, _, rfl, hl, hlen, hf⟩ := DataW.trod_struct ht h
  match xs, hlen with
  | [y0, y1, y2, y3, y4], _ => exact ⟨y0, y1, y2, y3, y4, n, by simp, hl, by simpa using hf 0 f0 rfl, by simpa using hf 1 f1 rfl, by simpa using hf 2 f2 rfl, by simpa using hf 3 f3 rfl, by simpa using hf 4 f4 rfl⟩
theorem open_config {t ea : TypeId} {f0 f1 f2 f3 f4 g0 g1 : Field} {fuel : Nat} {cs : List Value} {x : DataW H × List MemPlace} (ht : P.underlying t = some (.struct #[f0, f1, f2, f3, f4])) (h0 : P.underlying f0.type = some (.int .i64)) (h1 : P.underlying f1.type = some (.int .i64)) (h2 : P.underlying f2.type = some (.int .i64))
    (h3 : P.underlying f3.type = some (.struct #[g0, g1])) (i0 : P.underlying g0.type = some (.int .u64)) (i1 : P.underlying g1.type = some (.int .u64)) (h4 : P.underlying f4.type = some (.slice ea)) (ha : P.underlying ea = some (.int .u64))
    (q0 : f0.offset = 0) (q1 : f1.offset = 1) (q2 : f2.offset = 2) (q3 : f3.offset = 3) (q4 : f4.offset = 5) (p0 : g0.offset = 0) (p1 : g1.offset = 1)
    (c0 : P.cellsOf f0.type = 1) (c1 : P.cellsOf f1.type = 1) (c2 : P.cellsOf f2.type = 1) (c3 : P.cellsOf f3.type = 2) (c4 : P.cellsOf f4.type = 1) (d0 : P.cellsOf g0.type = 1) (d1 : P.cellsOf g1.type = 1) (ct : P.cellsOf t = 6)
    (ca : P.cellsOf ea = 1) (ba : P.bytesOf ea = 8) (h : DataW.trod enc P w base (fun _ => true) held fuel t cs = some x) (hs : ∀ n ∈ x.1.weights P t, n ≤ reachBytes) :
    ∃ (z0 z1 z2 : Int) (hh ll : BitVec 64) (a : Option Addr) (n m : Nat) (l : List (BitVec 64)), cs = [.int .i64 z0, .int .i64 z1, .int .i64 z2, .int .u64 (W64 hh), .int .u64 (W64 ll), .slice a n m] ∧ (-9223372036854775808 ≤ z0 ∧ z0 ≤ 9223372036854775807) ∧ (-9223372036854775808 ≤ z1 ∧ z1 ≤ 9223372036854775807) ∧ (-9223372036854775808 ≤ z2 ∧ z2 ≤ 9223372036854775807) ∧ QRow w a n m l := by
  obtain ⟨y0, y1, y2, y3, y4, n, rfl, hl, g0', g1', g2', g3', g4'⟩ := trod_struct5C ht h
  rw [ct] at hl
  match cs, hl with
  | [v0, v1, v2, v3, v4, v5], _ =>
    rw [q0, c0] at g0'
    rw [q1, c1] at g1'
    rw [q2, c2] at g2'
    rw [q3, c3] at g3'
    rw [q4, c4] at g4'
    have hw : ∀ n ∈ y0.1.weights P f0.type ++ (y1.1.weights P f1.type ++ (y2.1.weights P f2.type ++ (y3.1.weights P f3.type ++ (y4.1.weights P f4.type ++ [])))), n ≤ reachBytes := by
      intro n hn
      apply hs n
      simp only [DataW.weights, ht]
      exact hn
    obtain ⟨z, hv, _, hwf⟩ := DataW.trod_int h0 g0'
    obtain ⟨z1, hv1, _, hwf1⟩ := DataW.trod_int h1 g1'
    obtain ⟨z2, hv2, _, hwf2⟩ := DataW.trod_int h2 g2'
    obtain ⟨u0, u1, n3, _, _, k0, k1⟩ := trod_struct2 h3 g3'
    rw [p0, d0] at k0
    rw [p1, d1] at k1
    obtain ⟨z3, hv3, _, hwf3⟩ := DataW.trod_int i0 k0
    obtain ⟨z4, hv4, _, hwf4⟩ := DataW.trod_int i1 k1
    obtain ⟨a, na, ma, za, hv5, r5, s5⟩ := rowS_of h4 ha ca ba g4' (fun n hn => hw n (List.mem_append_right _ (List.mem_append_right _ (List.mem_append_right _ (List.mem_append_right _ (List.mem_append_left _ hn))))))
    simp at hv hv1 hv2 hv3 hv4 hv5
    subst hv hv1 hv2 hv3 hv4 hv5
    obtain ⟨l, hl⟩ := r5.words s5
    have m1 : IntKind.i64.min = -9223372036854775808 := rfl
    have m2 : IntKind.i64.max = 9223372036854775807 := rfl
    have m3 : IntKind.u64.min = 0 := rfl
    have m4 : IntKind.u64.max = 18446744073709551615 := rfl
    simp [Lit.wf] at hwf hwf1 hwf2 hwf3 hwf4
    obtain ⟨hh, rfl⟩ := ex64 z3 (by omega)
    obtain ⟨ll, rfl⟩ := ex64 z4 (by omega)
    exact ⟨z, z1, z2, hh, ll, a, na, ma, l, rfl, by omega, by omega, by omega, hl⟩
end
end Go.Proofs.YthkmcnlciefnfaaGreat
end
