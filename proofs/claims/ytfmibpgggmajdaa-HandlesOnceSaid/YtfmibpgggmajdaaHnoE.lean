/- Layer 48: a slice of ops that came in: its datum opened. -/
import Derived.Test.YtfmibpgggmajdaaHnoD
import Derived.Test.YtfmibpgggmajdaaFrame
import Derived.Deep.Slices
import Derived.Deep.Strs
import Derived.SizedLaws
namespace Go.Proofs.Ytfmibpgggmajdaa
open Go Go.RowKit Go.Bv Go.Deep Go.ChangeShapes
set_option linter.unusedVariables false
set_option maxRecDepth 100000
section
variable {H : Type} {enc : TypeId × Value → H} {P : Program} {w : World} {base : Nat} {held : Bool}
theorem open_ops {t e : TypeId} {f0 f1 f2 : Field} {fuel : Nat} {cs : List Value} {x : DataW H × List MemPlace} (ht : P.underlying t = some (.slice e)) (he : P.underlying e = some (.struct #[f0, f1, f2])) (h0 : P.underlying f0.type = some (.int .i64)) (h1 : P.underlying f1.type = some (.int .u64)) (h2 : P.underlying f2.type = some (.int .i64))
    (q0 : f0.offset = 0) (q1 : f1.offset = 1) (q2 : f2.offset = 2) (c0 : P.cellsOf f0.type = 1) (c1 : P.cellsOf f1.type = 1) (c2 : P.cellsOf f2.type = 1) (ct : P.cellsOf e = 3) (bt : P.bytesOf e = 24) (h : DataW.trod enc P w base (fun _ => true) held fuel t cs = some x) (hs : ∀ n ∈ x.1.weights P t, n ≤ reachBytes) :
    ∃ a n m kd hh nn, cs = [.slice a n m] ∧ OpRow w a n m kd hh nn := by
  rcases open_slice ht h with ⟨rfl, _⟩ | ⟨a, len, cap, m, n, D, Pl, rfl, hb, hl, hm, hmm, hx, hel⟩
  · exact ⟨none, 0, 0, fun _ => 0, fun _ => 0#64, fun _ => 0, rfl, by omega, fun h0 => absurd h0 (by omega)⟩
  · have hmc : m = cap := by simpa using hmm
    subst hmc
    have hlen : len * 24 ≤ reachBytes := by
      subst hx
      have := hs _ (by simp only [DataW.weights, ht]; exact List.mem_cons_self)
      simp only [List.length_map, List.length_range, bt] at this
      omega
    rw [ct] at hel
    have hone : ∀ i, i < len → ∃ (k : Int) (y : BitVec 64) (z : Int), w.cells? base (a.add (i * 3)) 3 = some [.int .i64 k, .int .u64 (W64 y), .int .i64 z] := by
      intro i hi
      obtain ⟨cs', hc, hd⟩ := hel i (by omega)
      obtain ⟨y0, y1, y2, n', _, hcl, g0, g1, g2⟩ := trod_struct3 he hd
      rw [ct] at hcl
      match cs', hcl with
      | [v0, v1, v2], _ =>
        rw [q0, c0] at g0
        rw [q1, c1] at g1
        rw [q2, c2] at g2
        obtain ⟨z0, hv0, _, hw0⟩ := DataW.trod_int h0 g0
        obtain ⟨z1, hv1, _, hw1⟩ := DataW.trod_int h1 g1
        obtain ⟨z2, hv2, _, hw2⟩ := DataW.trod_int h2 g2
        simp at hv0 hv1 hv2
        subst hv0 hv1 hv2
        obtain ⟨y, rfl⟩ := wf64 hw1
        exact ⟨z0, y, z2, hc⟩
    rcases Nat.eq_zero_or_pos len with hz | hp
    · subst hz
      exact ⟨some a, 0, m, fun _ => 0, fun _ => 0#64, fun _ => 0, rfl, by omega, fun h0 => absurd h0 (by omega)⟩
    · have hsp : a.spot = none := by
        obtain ⟨k, y, z, hc⟩ := hone 0 hp
        have := (World.cells?_some hc).2.2 0 (by omega)
        have h2 := World.cell?_spot (this.trans rfl)
        simpa [Addr.add] using h2
      obtain ⟨g, gf, sp⟩ := a
      simp only at hsp
      subst hsp
      have hcell : ∀ i, i < len → ∃ (k : Int) (y : BitVec 64) (z : Int), w.cell? ⟨g, gf + i * 3, none⟩ = some (.int .i64 k) ∧ w.cell? ⟨g, gf + i * 3 + 1, none⟩ = some (.int .u64 (W64 y)) ∧ w.cell? ⟨g, gf + i * 3 + 2, none⟩ = some (.int .i64 z) := by
        intro i hi
        obtain ⟨k, y, z, hc⟩ := hone i hi
        have hc2 := (World.cells?_some hc).2.2
        have h0 := hc2 0 (by omega)
        have h1 := hc2 1 (by omega)
        have h2 := hc2 2 (by omega)
        rw [add_plain, add_plain] at h0 h1 h2
        exact ⟨k, y, z, h0, h1, h2⟩
      refine ⟨some ⟨g, gf, none⟩, len, m, fun i => if h : i < len then Classical.choose (hcell i h) else 0, fun i => if h : i < len then Classical.choose (Classical.choose_spec (hcell i h)) else 0#64, fun i => if h : i < len then Classical.choose (Classical.choose_spec (Classical.choose_spec (hcell i h))) else 0, rfl, by unfold reachBytes at hlen; omega, fun _ => ⟨g, gf, rfl, fun i hi => ?_⟩⟩
      simp only [dif_pos hi]
      exact Classical.choose_spec (Classical.choose_spec (Classical.choose_spec (hcell i hi)))
end
theorem HandlesOnce_walk (W : World) (a0 : Int) (w0 : (Lit.int .i64 a0).wf = true) (a1 : Option Addr) (n1 m1 : Nat) (kd1 : Nat → Int) (hh1 : Nat → BitVec 64) (nn1 : Nat → Int) (w1 : OpRow W a1 n1 m1 kd1 hh1 nn1) :
    Calls Try.prog 4 #[.int .i64 a0, .slice a1 n1 m1] W fun e w' => e = .returned (.bool true) ∧ Below W.heap.size W w' := once_48 a0 a1 n1 m1 kd1 hh1 nn1 W w1
end Go.Proofs.Ytfmibpgggmajdaa
