/- Plain lemma: an operation of a drawn region of which its run is given. -/
import Derived.Test.YtepphoncljlkoaaGro3
namespace Go.Gro3
open Go
set_option linter.unusedVariables false
section
variable {P : Program} {ops : Array Oper} {A B : World → Prop} {kd : Nat → Nat} {N : World → World → Prop} {AQ : Nat → Nat → World → Prop}
theorem opv {Q : Bool → (World → Prop) → Act → Prop} {p : Bool} {G : World → Prop} {o : Oper} {rest : List Oper} {k : Nat} {a : Act} (v : Value) (hw : Region.wanted o (yielded ops a.tmps) = true) (hc : kd k = 0) (hr : ∀ w, (execOp a.eval o).run P w = .ok (.value v) w)
    (hk : ∀ a', a' = a.put o.dst v → wpGrow P ops A B kd N AQ Q rest (k + 1) p G a') : wpGrow P ops A B kd N AQ Q (o :: rest) k p G a := by
  show step P ops A B kd N AQ k o (wpGrow P ops A B kd N AQ Q rest (k + 1)) p G a
  unfold step
  rw [if_pos hw, if_pos (by unfold still?; simp [hc])]
  refine ⟨Or.inl hc, v, fun w _ => ?_, hk _ rfl⟩
  rw [hr w]
  exact ⟨rfl, rfl⟩
end
end Go.Gro3
