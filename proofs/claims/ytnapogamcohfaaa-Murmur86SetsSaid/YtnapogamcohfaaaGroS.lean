/- Drawn regions: operations that are not wanted, many at once. -/
import Derived.Test.YtnapogamcohfaaaGro3
namespace Go.Bv
open Go
set_option linter.unusedVariables false
/-- the operations that are not wanted -/
def _root_.Go.Gro3.skipAll (ops : Array Oper) : List Oper → Act → Bool
  | [], _ => true
  | o :: l, a => !(Region.wanted o (yielded ops a.tmps)) && Gro3.skipAll ops l (a.put o.dst undef)
def _root_.Go.Gro3.skipTo : List Oper → Act → Act
  | [], a => a
  | o :: l, a => Gro3.skipTo l (a.put o.dst undef)
theorem _root_.Go.Gro3.skips {P : Program} {ops : Array Oper} {A B : World → Prop} {kd : Nat → Nat} {N : World → World → Prop} {AQ : Nat → Nat → World → Prop} {Q : Bool → (World → Prop) → Act → Prop} {p : Bool} {G : World → Prop} : ∀ (n : Nat) (l : List Oper) (k : Nat) (a : Act), Gro3.skipAll ops (l.take n) a = true → Gro3.wpGrow P ops A B kd N AQ Q (l.drop n) (k + n) p G (Gro3.skipTo (l.take n) a) → Gro3.wpGrow P ops A B kd N AQ Q l k p G a := by
  intro n
  induction n with
  | zero => intro l k a _ h; simpa [Gro3.skipTo] using h
  | succ n ih =>
    intro l k a h1 h2
    cases l with
    | nil => simpa [Gro3.skipTo, Gro3.wpGrow] using h2
    | cons o rest =>
      rw [List.take_succ_cons] at h1 h2
      rw [List.drop_succ_cons] at h2
      unfold Gro3.skipAll at h1
      unfold Gro3.skipTo at h2
      rw [Bool.and_eq_true, Bool.not_eq_true'] at h1
      refine Gro3.skip h1.1 (fun a' ha => ?_)
      subst ha
      refine ih rest (k + 1) _ h1.2 ?_
      rw [show k + 1 + n = k + (n + 1) by omega]
      exact h2
theorem _root_.Go.Gro3.mvskips {P : Program} {ops : Array Oper} {A B : World → Prop} {kd : Nat → Nat} {N : World → World → Prop} {AQ : Nat → Nat → World → Prop} {Q : Bool → (World → Prop) → Act → Prop} {p : Bool} {G : World → Prop} {o : Oper} {rest : List Oper} {k : Nat} {a : Act} (x : Operand) (v : Value) (n : Nat) (hop : o.op = .move x) (hw : Region.wanted o (yielded ops a.tmps) = true) (hc : kd k = 0) (he : a.eval x = v) (hs : Gro3.skipAll ops (rest.take n) (a.put o.dst v) = true)
    (hk : ∀ a', a' = Gro3.skipTo (rest.take n) (a.put o.dst v) → Gro3.wpGrow P ops A B kd N AQ Q (rest.drop n) (k + 1 + n) p G a') : Gro3.wpGrow P ops A B kd N AQ Q (o :: rest) k p G a := by
  show Gro3.step P ops A B kd N AQ k o (Gro3.wpGrow P ops A B kd N AQ Q rest (k + 1)) p G a
  unfold Gro3.step
  rw [if_pos hw, if_pos (by unfold Gro3.still?; simp [hc])]
  refine ⟨Or.inl hc, v, fun w _ => ?_, Gro3.skips n _ _ _ hs (hk _ rfl)⟩
  generalize a.eval = ρ at he ⊢
  simp [execOp, hop, he, go_sem, Grow.stillUpon]
end Go.Bv
