import Derived.Test.YthkmcnlciefnfaaGreatZ5Bv
import Derived.Below
import Derived.ProofKit
import Derived.Lib.Hide
/- Plain lemmas on worlds: 'New W w': nothing that was there in W has changed in w. -/
namespace Go.Bv
open Go Go.RowKit
/-- nothing that was there in W has changed in w -/
def New (W w : World) : Prop := Below W.heap.size W w
theorem New.refl (W : World) : New W W := Below.refl _ _
theorem New.trans {a b c : World} (h : New a b) (k : New b c) : New a c := Below.trans h (Below.mono k h.size)
theorem New.drew {W w : World} (h : New W w) : New W w.drew := Below.drew h
theorem New.alloc {W w : World} (h : New W w) (o : Obj) : New W (w.alloc o) := Below.alloc h h.size o
theorem New.setCell {W w : World} (h : New W w) {p : Addr} (hp : W.heap.size ≤ p.block) (u : Value) : New W (w.setCell p u) := Below.setCell h hp u
theorem New.grown {W w w' : World} (h : New W w) (hg : w.grownBy w' none) : New W w' := Below.grown h hg h.size (fun k e => by cases e)
theorem New.grown' {W w w' : World} {r : Option Nat} (h : New W w) (hg : w.grownBy w' r) (hr : ∀ k, r = some k → W.heap.size ≤ k) : New W w' := Below.grown h hg h.size hr
theorem own_base {w : World} {base : Nat} {e : TypeId} {size : Nat} {v : Value} {n : Nat} {xs : List Value} (h : w.ownsRow base e size v n xs) : ∀ k, v.ownBlock = some k → base ≤ k := by
  obtain ⟨_, h⟩ := h
  intro k hk
  rcases h with ⟨rfl, _⟩ | ⟨g, cap, cur, rfl, hb, _⟩
  · cases hk
  · cases hk; exact hb
theorem New.le {W w : World} (h : New W w) : W.heap.size ≤ w.heap.size := h.size
theorem New.cell {W w : World} (h : New W w) {a : Addr} (ha : a.block < W.heap.size) : w.cell? a = W.cell? a := Below.cell h ha
theorem New.frozen {W w : World} (h : New W w) {a : Addr} (ha : a.block < W.heap.size) : w.frozen? a = W.frozen? a := Below.frozen h ha
end Go.Bv
