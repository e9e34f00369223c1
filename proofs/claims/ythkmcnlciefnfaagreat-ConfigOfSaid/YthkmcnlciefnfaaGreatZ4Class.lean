import Derived.Test.YthkmcnlciefnfaaGreatZ4New
import Derived.Deep.QuietTactic
import Derived.BigQuiet
/- Plain lemmas: a region that draws its order and holds calls that make memory: one walk in the order of the text, in the class of the worlds that meet S. -/
namespace Go.Bv
open Go Go.RowKit
/-- A region whose operations, in every world that meets S, yield one value and leave a world that meets S: the worlds that meet S are named by an index, so that what S says of them are plain equations. -/
theorem wp_region_class {P : Program} {id : Nat} {l : List Oper} {Q : Exit → Act → World → Prop} {a : Act} {w : World} (S : World → Prop)
    (hm : P.follows .mixedOrders = true) (hB : Region.lexB .any l.toArray = true) (hS : S w.drew)
    (h : ∀ (I : Type) [Nonempty I] (f : I → World), (∀ n, S (f n)) → (∀ w', S w' → ∃ m, w' = f m) →
      wpQuiet P l.toArray (fun w' => ∃ n, w' = f n) (fun a' => ∀ w', (∃ n, w' = f n) → Q .normal a' w') l a) : (Code.region id l.toArray true).wp P Q a w :=
  wp_region_quiet (C := fun w' => ∃ n : {x : World // S x}, w' = n.1) hm hB ⟨⟨w.drew, hS⟩, rfl⟩
    (by simpa using @h {x : World // S x} ⟨⟨w.drew, hS⟩⟩ Subtype.val (fun n => n.2) (fun w' hw' => ⟨⟨w', hw'⟩, rfl⟩))
/-- a callee that makes nothing -/
theorem class_same {P : Program} {F : FuncId} {args : Array Value} {I : Type} {f : I → World} {n : I} {v : Value}
    (h : Calls P F args (f n) fun e w' => e = .returned v ∧ w' = f n) : Calls P F args (f n) fun e w'' => e = .returned v ∧ ∃ m, w'' = f m :=
  h.mono fun _ _ ⟨he, hn⟩ => ⟨he, n, hn⟩
end Go.Bv
