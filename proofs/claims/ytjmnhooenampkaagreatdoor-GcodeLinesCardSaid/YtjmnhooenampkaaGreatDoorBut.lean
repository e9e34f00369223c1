/- Plain lemmas on worlds: 'But b w v': from w to v nothing has changed but what lies in the block b. -/
import Derived.Test.YtjmnhooenampkaaGreatDoorNew
namespace Go.Bv
open Go Go.RowKit
/-- nothing of w has changed in v, but what lies in the block b -/
structure But (b : Nat) (w v : World) : Prop where
  size : w.heap.size ≤ v.heap.size
  block : ∀ k, k < w.heap.size → k ≠ b → v.heap[k]? = w.heap[k]?
  new : ∀ W, New W w → W.heap.size ≤ b → New W v
theorem But.refl (b : Nat) (w : World) : But b w w := ⟨Nat.le_refl _, fun _ _ _ => rfl, fun _ h _ => h⟩
theorem But.of_new {b : Nat} {w v : World} (h : New w v) : But b w v := ⟨h.le, fun k hk _ => h.block k hk, fun _ h2 _ => h2.trans h⟩
theorem But.trans {b : Nat} {u w v : World} (h : But b u w) (k : But b w v) : But b u v :=
  ⟨Nat.le_trans h.size k.size, fun i hi hb => (k.block i (Nat.lt_of_lt_of_le hi h.size) hb).trans (h.block i hi hb), fun W h2 hb => k.new W (h.new W h2 hb) hb⟩
theorem But.setCell {b : Nat} {u w : World} (h : But b u w) {p : Addr} (hp : p.block = b) (x : Value) : But b u (w.setCell p x) :=
  ⟨by rw [show (w.setCell p x).heap.size = w.heap.size by simp [World.setCell]]; exact h.size,
   fun i hi hb => (Below.heap_setCell w p x i (by omega)).trans (h.block i hi hb), fun W h2 hb => (h.new W h2 hb).setCell (by omega) _⟩
theorem But.then {b : Nat} {u w v : World} (h : But b u w) (k : New w v) : But b u v := h.trans (But.of_new k)
theorem But.alloc {b : Nat} {u w : World} (h : But b u w) (o : Obj) : But b u (w.alloc o) := h.then ((New.refl _).alloc o)
theorem But.drew {b : Nat} {u w : World} (h : But b u w) : But b u w.drew := h.then (New.refl _).drew
theorem But.keep {b k : Nat} {w v : World} (h : But b w v) {o : Obj} (hk : k ≠ b) (e : w.heap[k]? = some o) : v.heap[k]? = some o := by
  rw [h.block k (lt_of_block e) hk]; exact e
end Go.Bv
