/- errors.As at a target of type *fault, of an error whose own type is fault. -/
import Derived.Test.YthcolfmjjfjmiaaDoorAsA
import Derived.LoopN
namespace Go.Proofs.YthcolfmjjfjmiaaDoor
open Go.RowKit Go.Extern.Stop Go.Stop Go.Extern Go.Bv
set_option linter.unusedVariables false
set_option maxRecDepth 100000 in
set_option maxHeartbeats 2000000 in
theorem as_inner (c p : Int) (q a : Nat) (o0 o1 : Value) (W : World) (ha : W.heap[a]? = some (.cells #[.pointer (some ⟨q, 0, none⟩)] 66 (0, 0))) (ht : W.heap[q]? = some (.cells #[o0, o1] 52 (0, 0))) :
    Calls Tryd.prog 49 #[.iface 52 (.agg #[.int .i64 c, .int .i64 p]), .iface 66 (.pointer (some ⟨q, 0, none⟩)), .agg #[.pointer (some ⟨5, 66, none⟩), .pointer (some ⟨a, 0, none⟩), .int .u64 150], .iface 83 (.agg #[.pointer (some ⟨5, 52, none⟩)])] W fun ev w' => ev = .returned (.bool true) ∧ w' = ((((W.alloc (.cells #[.pointer (some ⟨5, 66, none⟩), .pointer (some ⟨a, 0, none⟩), .int .u64 150] 71)).alloc (.cells #[.int .i64 c, .int .i64 p] 52))).setCell ⟨q, 0, none⟩ (.int .i64 c)).setCell ⟨q, 1, none⟩ (.int .i64 p) := by
  have h1 := @run_callFunc_extern Tryd.prog 46 _ (fun args => ReflectliteValue.unpack (args.getD 0 (.tuple #[]))) Tryd.func46 (by kernel_rfl) (by kernel_rfl) (by kernel_rfl) (by kernel_rfl)
  have h7 := @run_callFunc_extern Tryd.prog 52 _ ReflectliteType.typeOf Tryd.func52 (by kernel_rfl) (by kernel_rfl) (by kernel_rfl) (by kernel_rfl)
  have h8 := @run_callFunc_extern Tryd.prog 90 _ (ReflectliteType.relation "AssignableTo" ReflectliteType.assignableTo) Tryd.func90 (by kernel_rfl) (by kernel_rfl) (by kernel_rfl) (by kernel_rfl)
  have h9 := @run_callFunc_extern Tryd.prog 53 _ (ReflectliteValue.method (ReflectliteValue.valueError "reflectlite.Value.Elem" 0) ReflectliteValue.elem) Tryd.func53 (by kernel_rfl) (by kernel_rfl) (by kernel_rfl) (by kernel_rfl)
  have h10 := @run_callFunc_extern Tryd.prog 54 _ ReflectliteValue.set Tryd.func54 (by kernel_rfl) (by kernel_rfl) (by kernel_rfl) (by kernel_rfl)
  have tO := as_typeOf52
  have mA := as_mAssign
  have aA := as_assign52
  have vF := as_v52
  have n1 := (New.refl W).alloc (.cells #[.pointer (some ⟨5, 66, none⟩), .pointer (some ⟨a, 0, none⟩), .int .u64 150] 71)
  have n2 := n1.alloc (.cells #[.int .i64 c, .int .i64 p] 52)
  have z1 := (n1.block _ (lt_of_block ha)).trans ha
  have el := as_elemV66 ⟨a, 0, none⟩ ⟨q, 0, none⟩ (W.alloc (.cells #[.pointer (some ⟨5, 66, none⟩), .pointer (some ⟨a, 0, none⟩), .int .u64 150] 71)) (cell_of_row _ _ 0 _ _ _ z1)
  have e1 : (W.alloc (.cells #[.pointer (some ⟨5, 66, none⟩), .pointer (some ⟨a, 0, none⟩), .int .u64 150] 71)).heap.size = W.heap.size + 1 := by simp
  have b2 : ((W.alloc (.cells #[.pointer (some ⟨5, 66, none⟩), .pointer (some ⟨a, 0, none⟩), .int .u64 150] 71)).alloc (.cells #[.int .i64 c, .int .i64 p] 52)).heap[W.heap.size + 1]? = some (.cells #[.int .i64 c, .int .i64 p] 52 (0, 0)) := by rw [← e1]; exact heap_alloc_new _ _
  have st := as_set52 q (W.heap.size + 1) c p o0 o1 ((W.alloc (.cells #[.pointer (some ⟨5, 66, none⟩), .pointer (some ⟨a, 0, none⟩), .int .u64 150] 71)).alloc (.cells #[.int .i64 c, .int .i64 p] 52)) b2 ((n2.block _ (lt_of_block ht)).trans ht)
  clear b2 e1 z1 n1 n2 ht ha
  go_enter Tryd.func49, Tryd.ntmps49
  go_wp2_with fail
  refine wp_loop_rounds 1 ?_
  rw [rounds_succ]
  go_wp2
  go_ret
  exact ⟨rfl, rfl⟩
/-- errors.As: the fault that came in lies in the target's box behind it -/
def asW (w : World) (q : Nat) (c p : Int) : World := (((((((w.alloc (.cells #[.pointer (some ⟨q, 0, none⟩)] 66)).alloc (.cells #[.pointer (some ⟨5, 66, none⟩), .pointer (some ⟨w.heap.size, 0, none⟩), .int .u64 150] 71))).alloc (.cells #[.pointer (some ⟨5, 66, none⟩), .pointer (some ⟨w.heap.size, 0, none⟩), .int .u64 150] 71)).alloc (.cells #[.int .i64 c, .int .i64 p] 52)).setCell ⟨q, 0, none⟩ (.int .i64 c)).setCell ⟨q, 1, none⟩ (.int .i64 p))
set_option maxRecDepth 100000 in
set_option maxHeartbeats 2000000 in
theorem as_hit (c p : Int) (q : Nat) (o0 o1 : Value) (w : World) (hg : EtD 5 36 83 w) (ht : w.heap[q]? = some (.cells #[o0, o1] 52 (0, 0))) :
    Calls Tryd.prog 42 #[.iface 52 (.agg #[.int .i64 c, .int .i64 p]), .iface 66 (.pointer (some ⟨q, 0, none⟩))] w fun ev w' => ev = .returned (.bool true) ∧ w' = asW w q c p := by
  have h1 := @run_callFunc_extern Tryd.prog 46 _ (fun args => ReflectliteValue.unpack (args.getD 0 (.tuple #[]))) Tryd.func46 (by kernel_rfl) (by kernel_rfl) (by kernel_rfl) (by kernel_rfl)
  have h2 := @run_callFunc_extern Tryd.prog 47 _ (ReflectliteValue.methodAny (ReflectliteValue.valueError "reflectlite.Value.Type" 0) (fun t _ _ _ => ReflectliteType.toType t)) Tryd.func47 (by kernel_rfl) (by kernel_rfl) (by kernel_rfl) (by kernel_rfl)
  have h3 := @run_callFunc_extern Tryd.prog 48 _ (ReflectliteValue.method (ReflectliteValue.valueError "reflectlite.Value.IsNil" 0) ReflectliteValue.isNil) Tryd.func48 (by kernel_rfl) (by kernel_rfl) (by kernel_rfl) (by kernel_rfl)
  have h4 := @run_callFunc_extern Tryd.prog 82 _ (ReflectliteType.abiMethod fun t => do pure (.int .u8 (← Rtype.kind t))) Tryd.func82 (by kernel_rfl) (by kernel_rfl) (by kernel_rfl) (by kernel_rfl)
  have h5 := @run_callFunc_extern Tryd.prog 92 _ (ReflectliteType.method ReflectliteType.elem) Tryd.func92 (by kernel_rfl) (by kernel_rfl) (by kernel_rfl) (by kernel_rfl)
  have h6 := @run_callFunc_extern Tryd.prog 93 _ (ReflectliteType.relation "Implements" ReflectliteType.implements_) Tryd.func93 (by kernel_rfl) (by kernel_rfl) (by kernel_rfl) (by kernel_rfl)
  have vP := as_v66
  have ty := as_type66
  have mK := as_mKind
  have mE := as_mElem
  have mI := as_mImpl
  have kP := as_kind66
  have kF := as_kind52
  have eP := as_elem66
  have iF := as_impl52
  have z1 : (w.alloc (.cells #[.pointer (some ⟨q, 0, none⟩)] 66)).heap[w.heap.size]? = some (.cells #[.pointer (some ⟨q, 0, none⟩)] 66 (0, 0)) := heap_alloc_new w _
  have n1 := (New.refl w).alloc (.cells #[.pointer (some ⟨q, 0, none⟩)] 66)
  have n2 := n1.alloc (.cells #[.pointer (some ⟨5, 66, none⟩), .pointer (some ⟨w.heap.size, 0, none⟩), .int .u64 150] 71)
  have m2 := (New.refl (w.alloc (.cells #[.pointer (some ⟨q, 0, none⟩)] 66))).alloc (.cells #[.pointer (some ⟨5, 66, none⟩), .pointer (some ⟨w.heap.size, 0, none⟩), .int .u64 150] 71)
  have z2 := (m2.block _ (lt_of_block z1)).trans z1
  have nl := as_isNil66 ⟨w.heap.size, 0, none⟩ ⟨q, 0, none⟩ ((w.alloc (.cells #[.pointer (some ⟨q, 0, none⟩)] 66)).alloc (.cells #[.pointer (some ⟨5, 66, none⟩), .pointer (some ⟨w.heap.size, 0, none⟩), .int .u64 150] 71)) (cell_of_row _ _ 0 _ _ _ z2)
  have g2 : ((w.alloc (.cells #[.pointer (some ⟨q, 0, none⟩)] 66)).alloc (.cells #[.pointer (some ⟨5, 66, none⟩), .pointer (some ⟨w.heap.size, 0, none⟩), .int .u64 150] 71)).cell? ⟨0, 0, none⟩ = some (.iface 83 (.agg #[.pointer (some ⟨5, 36, none⟩)])) := (hg.stay n2).cell
  have HI := Lib.hid (as_inner c p q w.heap.size o0 o1 ((w.alloc (.cells #[.pointer (some ⟨q, 0, none⟩)] 66)).alloc (.cells #[.pointer (some ⟨5, 66, none⟩), .pointer (some ⟨w.heap.size, 0, none⟩), .int .u64 150] 71)) z2 ((n2.block _ (lt_of_block ht)).trans ht))
  clear z1 z2 m2 n1 n2 ht hg
  go_enter Tryd.func42, Tryd.ntmps42
  go_wp2_with fail
  refine HI.out.mono ?_
  rintro e w' ⟨rfl, rfl⟩
  go_wp2_with fail
  go_ret
  exact ⟨rfl, rfl⟩
theorem asW_facts (c p : Int) (q : Nat) (o0 o1 : Value) (w : World) (ht : w.heap[q]? = some (.cells #[o0, o1] 52 (0, 0))) :
    (asW w q c p).heap[q]? = some (.cells #[.int .i64 c, .int .i64 p] 52 (0, 0)) ∧ (∀ j, j ≠ q → j < w.heap.size → (asW w q c p).heap[j]? = w.heap[j]?) ∧ (∀ W : World, New W w → W.heap.size ≤ q → New W (asW w q c p)) := by
  have n4 := ((((New.refl w).alloc (.cells #[.pointer (some ⟨q, 0, none⟩)] 66)).alloc (.cells #[.pointer (some ⟨5, 66, none⟩), .pointer (some ⟨w.heap.size, 0, none⟩), .int .u64 150] 71)).alloc (.cells #[.pointer (some ⟨5, 66, none⟩), .pointer (some ⟨w.heap.size, 0, none⟩), .int .u64 150] 71)).alloc (.cells #[.int .i64 c, .int .i64 p] 52)
  have h4 := (n4.block _ (lt_of_block ht)).trans ht
  unfold asW
  refine ⟨?_, fun j hj hlt => ?_, fun W hn hq => ?_⟩
  · have h0 := heap_setCell_same _ q 0 _ _ (.int .i64 c) h4
    exact heap_setCell_same _ q 1 _ _ (.int .i64 p) h0
  · rw [heap_setCell_other _ _ _ _ hj, heap_setCell_other _ _ _ _ hj]
    exact n4.block _ hlt
  · exact ((hn.trans n4).setCell (p := ⟨q, 0, none⟩) hq _).setCell (p := ⟨q, 1, none⟩) hq _
end Go.Proofs.YthcolfmjjfjmiaaDoor
