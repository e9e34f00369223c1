/- strpoly.each: what it hands back; strpoly.Eval. -/
import Derived.Test.YtiboncnfepnjcaaStrC
import Derived.RangeFuncFrom
namespace Go.Proofs.Ytiboncnfepnjcaa
open Go Go.RowKit Go.Bv Go.Shelf
attribute [local go_sem] Oper.semAt_some
set_option linter.unusedVariables false
theorem each_q (a : Option Addr) (n c : Nat) (w : World) :
    Calls Try.prog 71 #[.slice a n c] w fun e w' => e = .returned (.func (Fn.func 84) #[] #[.pointer (some ⟨w.heap.size, 0, none⟩)]) ∧ w' = w.alloc (.cells #[.slice a n c] 48) := by
  have hmf : ∀ (fn : Fn) (first cap : Array Value) (w : World), (Instr.makeFunc fn first cap).run Try.prog w = .ok (.func fn first cap) w := fun _ _ _ _ => rfl
  go_enter Try.func71, Try.ntmps71
  go_wp2
  go_ret
  exact ⟨rfl, rfl⟩
set_option maxHeartbeats 2000000 in
theorem sapp_no (a h x : BitVec 64) (ha : a.toNat < PP) (hh : h.toNat < PP) (hx : ¬ x.toNat < PP) (w : World) :
    Calls Try.prog 49 #[.int .u64 (W64 a), .int .u64 (W64 h), .int .u64 (W64 x)] w fun e w' => e = .returned (.tuple #[.int .u64 0, .int .i64 2]) ∧ New w w' := by
  have g1 : decide (2305843009213693951 ≤ W64 a) = false := decide_eq_false (by unfold PP at ha; unfold W64; omega)
  have g2 : decide (2305843009213693951 ≤ W64 h) = false := decide_eq_false (by unfold PP at hh; unfold W64; omega)
  have g3 : decide (2305843009213693951 ≤ W64 x) = true := decide_eq_true (by unfold PP at hx; unfold W64; omega)
  clear ha hh hx
  go_enter Try.func49, Try.ntmps49
  go_wp2
  go_ret2
  exact ⟨rfl, New.refl _⟩
end Go.Proofs.Ytiboncnfepnjcaa
