/- All generators: the document's New. · All generators: the document's New of kind 7. · All generators: the document's New of kind 8. -/
import Derived.Test.YtadcihkpnpemeaaGreatGsL
import Derived.StillTailTactics
import Derived.Deep.RegionHeld3
namespace Go.Proofs.YtadcihkpnpemeaaGreat
open Go.RowKit Go.Bv
set_option linter.unusedVariables false
set_option maxRecDepth 100000
theorem put4_keep {w : World} {g j : Nat} (hj : j ≠ g) (v1 v2 v3 v4 : Value) : ((((w.setCell ⟨g, 1, none⟩ v1).setCell ⟨g, 2, none⟩ v2).setCell ⟨g, 3, none⟩ v3).setCell ⟨g, 4, none⟩ v4).heap[j]? = w.heap[j]? := by
  rw [heap_setCell_other _ _ _ _ hj, heap_setCell_other _ _ _ _ hj, heap_setCell_other _ _ _ _ hj, heap_setCell_other _ _ _ _ hj]
theorem put4_newk {W w : World} {g : Nat} (hn : New W w) (hg : W.heap.size ≤ g) (v1 v2 v3 v4 : Value) : New W ((((w.setCell ⟨g, 1, none⟩ v1).setCell ⟨g, 2, none⟩ v2).setCell ⟨g, 3, none⟩ v3).setCell ⟨g, 4, none⟩ v4) :=
  (((hn.setCell (by exact hg) _).setCell (by exact hg) _).setCell (by exact hg) _).setCell (by exact hg) _
abbrev kst (k : Int) : Array Value := #[.int .i64 k, .int .u64 0, .int .u64 0, .int .u64 0, .int .u64 0]
end Go.Proofs.YtadcihkpnpemeaaGreat
namespace Go.Proofs.YtadcihkpnpemeaaGreat
open Go.RowKit Go.Bv
set_option linter.unusedVariables false
set_option maxRecDepth 100000
theorem inc_step (t : BitVec 64) : step13 0#64 (2#64 * t + 1#64) = 2#64 * t + 1#64 := by
  unfold step13
  have : (2#64 * t + 1#64) ||| 1#64 = 2#64 * t + 1#64 := by
    rw [← odd13, if_neg]
    intro h
    have h3 := congrArg (fun x : BitVec 64 => x.toNat) h
    simp [BitVec.toNat_umod, BitVec.toNat_add, BitVec.toNat_mul] at h3
  rw [this, BitVec.zero_mul, BitVec.zero_add]
theorem w7_a (n : BitVec 64) : (w7 n).a = step13 (2#64 * l15 n 2 + 1#64 + l15 n 1) (2#64 * l15 n 2 + 1#64) := by
  show step13 (step13 0#64 (2#64 * l15 n 2 + 1#64) + l15 n 1) (2#64 * l15 n 2 + 1#64) = _
  rw [inc_step]
end Go.Proofs.YtadcihkpnpemeaaGreat
namespace Go.Proofs.YtadcihkpnpemeaaGreat
open Go.RowKit Go.Bv
set_option linter.unusedVariables false
set_option maxRecDepth 100000
theorem zu_new (w : World) : (w.alloc (.cells #[.int .u64 0, .int .u64 0] 77)).heap[w.heap.size]? = some (.cells #[.int .u64 0, .int .u64 0] 77 (0, 0)) := heap_alloc_new w _
theorem zu_stay {w w' : World} {b : Nat} {o : Obj} (h : w.heap[b]? = some o) (hn : New w w') : w'.heap[b]? = some o := (hn.block _ (lt_of_block h)).trans h
theorem zu_put {P : World} {b : Nat} (x y : Value) (h : P.heap[b]? = some (.cells #[.int .u64 0, .int .u64 0] 77 (0, 0))) : ((P.setCell ⟨b, 0, none⟩ x).setCell ⟨b, 1, none⟩ y).heap[b]? = some (.cells #[x, y] 77 (0, 0)) := by
  have h0 := heap_setCell_same P b 0 _ _ x h
  exact heap_setCell_same _ b 1 _ _ y h0
theorem zz_set {P : World} {b c : Nat} (h : P.heap[c]? = some (.cells #[.int .u64 0, .int .u64 0] 77 (0, 0))) (hne : b ≠ c) (x y : Value) : ((P.setCell ⟨b, 0, none⟩ x).setCell ⟨b, 1, none⟩ y).heap[c]? = some (.cells #[.int .u64 0, .int .u64 0] 77 (0, 0)) := (heap_setCell_other _ _ _ _ (by simp; try omega)).trans ((heap_setCell_other _ _ _ _ (by simp; try omega)).trans h)
theorem zz_b (P : World) : ((P.alloc (.cells #[.int .u64 0, .int .u64 0] 77)).alloc (.cells #[.int .u64 0, .int .u64 0] 77)).heap[P.heap.size + 1]? = some (.cells #[.int .u64 0, .int .u64 0] 77 (0, 0)) := by
  have h := heap_alloc_new (P.alloc (.cells #[.int .u64 0, .int .u64 0] 77)) (.cells #[.int .u64 0, .int .u64 0] 77)
  rw [show (P.alloc (.cells #[.int .u64 0, .int .u64 0] 77)).heap.size = P.heap.size + 1 by simp] at h
  exact h
theorem zz_a (P : World) : ((P.alloc (.cells #[.int .u64 0, .int .u64 0] 77)).alloc (.cells #[.int .u64 0, .int .u64 0] 77)).heap[P.heap.size]? = some (.cells #[.int .u64 0, .int .u64 0] 77 (0, 0)) := zu_stay (zu_new P) ((New.refl _).alloc _)
theorem zw_other {P : World} {b c : Nat} {o : Obj} (h : P.heap[c]? = some o) (hne : b ≠ c) (x y : Value) : ((P.setCell ⟨b, 0, none⟩ x).setCell ⟨b, 1, none⟩ y).heap[c]? = some o := (heap_setCell_other _ _ _ _ (by simp; try omega)).trans ((heap_setCell_other _ _ _ _ (by simp; try omega)).trans h)
theorem zf1a {P : World} {b c : Nat} {x0 x1 y0 y1 : Value} (h : P.heap[b]? = some (.cells #[.int .u64 0, .int .u64 0] 77 (0, 0))) (hne : b ≠ c) : ((((P.setCell ⟨b, 0, none⟩ x0).setCell ⟨b, 1, none⟩ x1).setCell ⟨c, 0, none⟩ y0).setCell ⟨c, 1, none⟩ y1).heap[b]? = some (.cells #[x0, x1] 77 (0, 0)) := zw_other (zu_put x0 x1 h) hne.symm y0 y1
theorem zf1b {P : World} {b c : Nat} {x0 x1 y0 y1 : Value} (h : P.heap[c]? = some (.cells #[.int .u64 0, .int .u64 0] 77 (0, 0))) (hne : b ≠ c) : ((((P.setCell ⟨b, 0, none⟩ x0).setCell ⟨b, 1, none⟩ x1).setCell ⟨c, 0, none⟩ y0).setCell ⟨c, 1, none⟩ y1).heap[c]? = some (.cells #[y0, y1] 77 (0, 0)) := zu_put y0 y1 (zz_set h hne x0 x1)
theorem zf2a {P : World} {b : Nat} {x0 x1 y0 y1 : Value} (h : P.heap[b]? = some (.cells #[.int .u64 0, .int .u64 0] 77 (0, 0))) : (((((P.alloc (.cells #[.int .u64 0, .int .u64 0] 77)).setCell ⟨b, 0, none⟩ x0).setCell ⟨b, 1, none⟩ x1).setCell ⟨P.heap.size, 0, none⟩ y0).setCell ⟨P.heap.size, 1, none⟩ y1).heap[b]? = some (.cells #[x0, x1] 77 (0, 0)) := zf1a (zu_stay h ((New.refl _).alloc _)) (Nat.ne_of_lt (lt_of_block h))
theorem zf2b {P : World} {b : Nat} {x0 x1 y0 y1 : Value} (h : P.heap[b]? = some (.cells #[.int .u64 0, .int .u64 0] 77 (0, 0))) : (((((P.alloc (.cells #[.int .u64 0, .int .u64 0] 77)).setCell ⟨b, 0, none⟩ x0).setCell ⟨b, 1, none⟩ x1).setCell ⟨P.heap.size, 0, none⟩ y0).setCell ⟨P.heap.size, 1, none⟩ y1).heap[P.heap.size]? = some (.cells #[y0, y1] 77 (0, 0)) := zf1b (zu_new P) (Nat.ne_of_lt (lt_of_block h))
theorem zf3a {P : World} {b : Nat} {x0 x1 y0 y1 : Value} (h : P.heap[b]? = some (.cells #[.int .u64 0, .int .u64 0] 77 (0, 0))) : (((P.setCell ⟨b, 0, none⟩ x0).setCell ⟨b, 1, none⟩ x1).alloc (.cells #[y0, y1] 77)).heap[b]? = some (.cells #[x0, x1] 77 (0, 0)) := zu_stay (zu_put x0 x1 h) ((New.refl _).alloc _)
theorem zf3b {P : World} {b : Nat} {x0 x1 y0 y1 : Value} : (((P.setCell ⟨b, 0, none⟩ x0).setCell ⟨b, 1, none⟩ x1).alloc (.cells #[y0, y1] 77)).heap[P.heap.size]? = some (.cells #[y0, y1] 77 (0, 0)) := by
  have h := heap_alloc_new ((P.setCell ⟨b, 0, none⟩ x0).setCell ⟨b, 1, none⟩ x1) (.cells #[y0, y1] 77)
  rw [show ((P.setCell ⟨b, 0, none⟩ x0).setCell ⟨b, 1, none⟩ x1).heap.size = P.heap.size by simp] at h
  exact h
theorem zf4a {P : World} {x0 x1 y0 y1 : Value} : ((P.alloc (.cells #[x0, x1] 77)).alloc (.cells #[y0, y1] 77)).heap[P.heap.size]? = some (.cells #[x0, x1] 77 (0, 0)) := zu_stay (heap_alloc_new P _) ((New.refl _).alloc _)
theorem zf4b {P : World} {x0 x1 y0 y1 : Value} : ((P.alloc (.cells #[x0, x1] 77)).alloc (.cells #[y0, y1] 77)).heap[P.heap.size + 1]? = some (.cells #[y0, y1] 77 (0, 0)) := by
  have h := heap_alloc_new (P.alloc (.cells #[x0, x1] 77)) (.cells #[y0, y1] 77)
  rw [show (P.alloc (.cells #[x0, x1] 77)).heap.size = P.heap.size + 1 by simp] at h
  exact h
theorem zf5a {P : World} {b : Nat} {x0 x1 y0 y1 : Value} (h : P.heap[b]? = some (.cells #[.int .u64 0, .int .u64 0] 77 (0, 0))) : (((P.alloc (.cells #[x0, x1] 77)).setCell ⟨b, 0, none⟩ y0).setCell ⟨b, 1, none⟩ y1).heap[P.heap.size]? = some (.cells #[x0, x1] 77 (0, 0)) := zw_other (heap_alloc_new P _) (Nat.ne_of_lt (lt_of_block h)) y0 y1
theorem zf5b {P : World} {b : Nat} {x0 x1 y0 y1 : Value} (h : P.heap[b]? = some (.cells #[.int .u64 0, .int .u64 0] 77 (0, 0))) : (((P.alloc (.cells #[x0, x1] 77)).setCell ⟨b, 0, none⟩ y0).setCell ⟨b, 1, none⟩ y1).heap[b]? = some (.cells #[y0, y1] 77 (0, 0)) := zu_put y0 y1 (zu_stay h ((New.refl _).alloc _))
end Go.Proofs.YtadcihkpnpemeaaGreat
