/- All generators, by their kinds: generatorIn. · All generators, by their kinds: generatorIn, joined. -/
import Derived.Test.YtoplabhoedloeaaGreatGsC
namespace Go.Proofs.YtoplabhoedloeaaGreat
open Go.RowKit Go.Bv
set_option linter.unusedVariables false
abbrev stc (k : Int) (q : W4) : Array Value := #[.int .i64 k, .int .u64 (W64 q.a), .int .u64 (W64 q.b), .int .u64 (W64 q.c), .int .u64 (W64 q.d)]
/-- the functions are Go's: a call enters them -/
def Ent (f : Nat) : Prop := ∀ (args : Array Value) (w : World), (callFunc f args).run Tryz.prog w = .ok (.enter f args) w
theorem IsGen.ent {w : World} {k : Int} {g : Gn} (h : IsGen w k g) : Ent g.rf ∧ Ent g.sd.1 ∧ Ent g.st.1 ∧ Ent g.nx.1 ∧ Ent g.jp.1 := by
  cases h <;> exact ⟨fun _ _ => by kernel_rfl, fun _ _ => by kernel_rfl, fun _ _ => by kernel_rfl, fun _ _ => by kernel_rfl, fun _ _ => by kernel_rfl⟩
theorem GenV.got {n : Nat} {w : World} {k : Int} {cs : Array Value} (h : GenV n w k cs) (hk : okK k = true) : ∃ g : Gn, cs = g.cells ∧ Own n w k g := by
  rcases h with h | ⟨h, _⟩
  · exact h.2
  · rw [hk] at h; cases h
theorem two_blocksG (w : World) (A B : Obj) : ((w.alloc A).alloc B).heap[w.heap.size]? = some A ∧ ((w.alloc A).alloc B).heap[w.heap.size + 1]? = some B ∧ New w ((w.alloc A).alloc B) := by
  have e1 : (w.alloc A).heap.size = w.heap.size + 1 := by simp
  refine ⟨?_, ?_, ((New.refl w).alloc _).alloc _⟩
  · rw [((New.refl (w.alloc A)).alloc B).block _ (by rw [e1]; omega)]; exact heap_alloc_new _ _
  · rw [← e1]; exact heap_alloc_new _ _
end Go.Proofs.YtoplabhoedloeaaGreat
namespace Go.Proofs.YtoplabhoedloeaaGreat
open Go.RowKit Go.Bv
set_option linter.unusedVariables false
/-- words beyond a kind's are 0 -/
def formK (k : Int) (q : W4) : Bool := if szK k = 4 then false else if szK k = 2 then (q.c != 0#64 || q.d != 0#64) else (q.b != 0#64 || (q.c != 0#64 || q.d != 0#64))
/-- what is wrong with a state -/
def chkK (k : Int) (q : W4) : Int := if okK k = false then 6 else if formK k q then 5 else if badK k q then 13 else 0
theorem sz_cases {k : Int} (h : okK k = true) : szK k = 1 ∨ szK k = 2 ∨ szK k = 4 := by
  unfold okK at h; simp at h
  have h8 : k = 1 ∨ k = 2 ∨ k = 3 ∨ k = 4 ∨ k = 5 ∨ k = 6 ∨ k = 7 ∨ k = 8 := by omega
  rcases h8 with rfl | rfl | rfl | rfl | rfl | rfl | rfl | rfl <;> decide
end Go.Proofs.YtoplabhoedloeaaGreat
