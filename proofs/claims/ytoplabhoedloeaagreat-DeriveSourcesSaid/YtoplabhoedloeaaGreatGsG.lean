/- All generators, by their kinds: New and Next, of any kind whose functions are known. -/
import Derived.Test.YtoplabhoedloeaaGreatGsE
import Derived.Deep.RegionHeld3
import Derived.StillTailTactics
import Derived.BigQuiet
import Derived.BigRegion
namespace Go.Proofs.YtoplabhoedloeaaGreat
open Go.RowKit Go.Bv
set_option linter.unusedVariables false
abbrev zst : Array Value := #[.int .i64 0, .int .u64 0, .int .u64 0, .int .u64 0, .int .u64 0]
abbrev put5 (w : World) (q : Nat) (v0 v1 v2 v3 v4 : Value) : World := ((((w.setCell ⟨q, 0, none⟩ v0).setCell ⟨q, 1, none⟩ v1).setCell ⟨q, 2, none⟩ v2).setCell ⟨q, 3, none⟩ v3).setCell ⟨q, 4, none⟩ v4
set_option maxHeartbeats 1000000 in
theorem put5_facts {w : World} {q : Nat} {u0 u1 u2 u3 u4 : Value} {T : TypeId} (v0 v1 v2 v3 v4 : Value) (h : w.heap[q]? = some (.cells #[u0, u1, u2, u3, u4] T (0, 0))) :
    (put5 w q v0 v1 v2 v3 v4).heap[q]? = some (.cells #[v0, v1, v2, v3, v4] T (0, 0)) ∧ (∀ j, j ≠ q → (put5 w q v0 v1 v2 v3 v4).heap[j]? = w.heap[j]?) ∧ (∀ W : World, New W w → W.heap.size ≤ q → New W (put5 w q v0 v1 v2 v3 v4)) ∧ (put5 w q v0 v1 v2 v3 v4).heap.size = w.heap.size := by
  refine ⟨?_, fun j hj => ?_, fun W hn hq => ?_, ?_⟩
  · have h0 : (w.setCell ⟨q, 0, none⟩ v0).heap[q]? = some (.cells #[v0, u1, u2, u3, u4] T (0, 0)) := heap_setCell_same _ q 0 _ _ v0 h
    have h1 := heap_setCell_same _ q 1 _ _ v1 h0
    have h2 := heap_setCell_same _ q 2 _ _ v2 h1
    have h3 := heap_setCell_same _ q 3 _ _ v3 h2
    exact heap_setCell_same _ q 4 _ _ v4 h3
  · rw [heap_setCell_other _ _ _ _ hj, heap_setCell_other _ _ _ _ hj, heap_setCell_other _ _ _ _ hj, heap_setCell_other _ _ _ _ hj, heap_setCell_other _ _ _ _ hj]
  · exact ((((hn.setCell (by exact hq) _).setCell (by exact hq) _).setCell (by exact hq) _).setCell (by exact hq) _).setCell (by exact hq) _
  · simp
/-- a state's words made out of a number -/
def SdC (k : Int) (n : BitVec 64) (q : W4) : Prop := ∀ (w : World) (g : Gn), IsGen w k g → Calls Tryz.prog g.sd.1 (#[.int .u64 (W64 n)] ++ g.sd.2) w fun e w' => e = .returned (.agg q.cells) ∧ New w w'
/-- a word, and the words behind it -/
def NxC (k : Int) (q : W4) (x : BitVec 64) (q' : W4) : Prop := ∀ (w : World) (g : Gn), IsGen w k g → Calls Tryz.prog g.nx.1 (#[.agg q.cells] ++ g.nx.2) w fun e w' => e = .returned (.tuple #[.int .u64 (W64 x), .agg q'.cells]) ∧ New w w'
set_option maxRecDepth 100000 in
set_option maxHeartbeats 1000000 in
theorem new_of (k : Int) (n : BitVec 64) (q : W4) (hk : okK k = true) (hs : SdC k n q) (w : World) : Calls Tryz.prog 10 #[.int .i64 k, .int .u64 (W64 n)] w fun e w' => e = .returned (.tuple #[.agg (stc k q), .int .i64 0]) ∧ New w w' := by
  have hz := heap_alloc_new w (.cells zst 28)
  have HZ := Lib.hid hz
  clear hz
  go_enter Tryz.func10, Tryz.ntmps10
  go_wp2_with fail
  refine (gen_of k _).mono ?_
  rintro e w' ⟨⟨cs, rfl, hv⟩, hn⟩
  obtain ⟨g, rfl, hg⟩ := hv.got hk
  rw [hk]
  have hent : ∀ (args : Array Value) (w : World), (callFunc g.sd.1 args).run Tryz.prog w = .ok (.enter g.sd.1 args) w := hg.now.ent.2.1
  have HO := Lib.hid hg
  clear hg hv
  go_wp2_with fail
  refine (hs _ g (HO.out.stay ((New.refl w').alloc _)).now).mono ?_
  rintro e w3 ⟨rfl, n3⟩
  have hx := (((hn.alloc _).trans n3).block _ (lt_of_block HZ.out)).trans HZ.out
  have c0 := cell_of_row _ _ 0 _ _ _ hx
  have c1 := cell_of_row _ _ 1 _ _ _ hx
  have c2 := cell_of_row _ _ 2 _ _ _ hx
  have c3 := cell_of_row _ _ 3 _ _ _ hx
  have c4 := cell_of_row _ _ 4 _ _ _ hx
  have cf := fun i => frozen_of_row _ _ i _ _ hx
  have HN := Lib.hid ((((New.refl w).alloc _).trans (hn.alloc _)).trans n3)
  have HX := Lib.hid hx
  clear hx n3 hn
  go_wp2_with fail
  have hp := put5_facts (.int .i64 k) (.int .u64 (W64 q.a)) (.int .u64 (W64 q.b)) (.int .u64 (W64 q.c)) (.int .u64 (W64 q.d)) HX.out
  refine bodyPost_ret (by simp [results, Tryz.results10, go_sem, c0, c1, c2, c3, c4]; try rfl) rfl ?_
  exact ⟨rfl, hp.2.2.1 _ HN.out (by omega)⟩
end Go.Proofs.YtoplabhoedloeaaGreat
