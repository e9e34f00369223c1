/- errors.As at a target of type *fault, of an error whose own type is fault: the contracts. -/
import Derived.Test.YthcolfmjjfjmiaaDoorProg
import Derived.Test.YthcolfmjjfjmiaaDoorFrame
import Derived.WalkKit
import Derived.LaidEql
import Derived.Stop.Asserts
import Derived.RowKitTokens
namespace Go.Bv
open Go Go.RowKit
/-- the variable that holds the type error -/
structure EtD (G T R : Nat) (w : World) : Prop where
  lt : 0 < w.heap.size
  cell : w.cell? ⟨0, 0, none⟩ = some (.iface R (.agg #[.pointer (some ⟨G, T, none⟩)]))
theorem EtD.stay {G T R : Nat} {w w' : World} (h : EtD G T R w) (hn : New w w') : EtD G T R w' where
  lt := Nat.lt_of_lt_of_le h.lt hn.le
  cell := by
    have e := hn.block 0 h.lt
    rw [← h.cell]
    unfold World.cell?
    rw [e]
end Go.Bv
namespace Go.Proofs.YthcolfmjjfjmiaaDoor
open Go.RowKit Go.Extern.Stop Go.Stop Go.Extern Go.Bv
set_option linter.unusedVariables false
theorem as_v66 (t : Addr) (w : World) : (ReflectliteValue.unpack (.iface 66 (.pointer (some t)))).run Tryd.prog w
    = .ok (.agg #[.pointer (some ⟨5, 66, none⟩), .pointer (some ⟨w.heap.size, 0, none⟩), .int .u64 150]) (w.alloc (.cells #[.pointer (some t)] 66)) := by kernel_rfl
theorem as_v52 (c p : Int) (w : World) : (ReflectliteValue.unpack (.iface 52 (.agg #[.int .i64 c, .int .i64 p]))).run Tryd.prog w
    = .ok (.agg #[.pointer (some ⟨5, 52, none⟩), .pointer (some ⟨w.heap.size, 0, none⟩), .int .u64 153]) (w.alloc (.cells #[.int .i64 c, .int .i64 p] 52)) := by kernel_rfl
theorem as_type66 (a : Addr) (w : World) : (ReflectliteValue.methodAny (ReflectliteValue.valueError "reflectlite.Value.Type" 0) (fun t _ _ _ => ReflectliteType.toType t) #[.agg #[.pointer (some ⟨5, 66, none⟩), .pointer (some a), .int .u64 150]]).run Tryd.prog w
    = .ok (.iface 83 (.agg #[.pointer (some ⟨5, 66, none⟩)])) w := by kernel_rfl
theorem as_kind66 (w : World) : ((ReflectliteType.abiMethod fun t => (fun a : Nat => Value.int IntKind.u8 (a : Int)) <$> Rtype.kind t) #[.pointer (some ⟨5, 66, none⟩)]).run Tryd.prog w = .ok (.int .u8 22) w := by kernel_rfl
theorem as_kind52 (w : World) : ((ReflectliteType.abiMethod fun t => (fun a : Nat => Value.int IntKind.u8 (a : Int)) <$> Rtype.kind t) #[.pointer (some ⟨5, 52, none⟩)]).run Tryd.prog w = .ok (.int .u8 25) w := by kernel_rfl
theorem as_mKind (h : Value) (w : World) : (Go.method 242 83 (.agg #[h]) "Kind").run Tryd.prog w = .ok (82, h) w := by kernel_rfl
theorem as_mElem (h : Value) (w : World) : (Go.method 242 83 (.agg #[h]) "Elem").run Tryd.prog w = .ok (92, .agg #[h]) w := by kernel_rfl
theorem as_mImpl (h : Value) (w : World) : (Go.method 242 83 (.agg #[h]) "Implements").run Tryd.prog w = .ok (93, .agg #[h]) w := by kernel_rfl
theorem as_mAssign (h : Value) (w : World) : (Go.method 242 83 (.agg #[h]) "AssignableTo").run Tryd.prog w = .ok (90, .agg #[h]) w := by kernel_rfl
theorem as_rlm (z : Sem Value) (f : TypeId → Addr → Nat → Nat → Sem Value) (v : Value) :
    ReflectliteValue.method z f #[v] = (do match ← ReflectliteValue.parts v with | none => z | some (t, a, fl) => f t a fl (fl % 32)) := rfl
theorem as_parts66 (a : Addr) (w : World) : (ReflectliteValue.parts (.agg #[.pointer (some ⟨5, 66, none⟩), .pointer (some a), .int .u64 150])).run Tryd.prog w = .ok (some (66, a, 150)) w := by kernel_rfl
theorem as_isNil66 (a p : Addr) (W : World) (ha : W.cell? a = some (.pointer (some p))) :
    (ReflectliteValue.method (ReflectliteValue.valueError "reflectlite.Value.IsNil" 0) ReflectliteValue.isNil #[.agg #[.pointer (some ⟨5, 66, none⟩), .pointer (some a), .int .u64 150]]).run Tryd.prog W = .ok (.bool false) W := by
  rw [as_rlm]
  simp only [Sem.run_bind, as_parts66, Result.andThen]
  simp [ReflectliteValue.isNil, loadVar, isAgg, underlying, Tryd.underlying66, ha, Result.andThen]
theorem as_elem66 (w : World) : (ReflectliteType.method ReflectliteType.elem #[.agg #[.pointer (some ⟨5, 66, none⟩)]]).run Tryd.prog w = .ok (.iface 83 (.agg #[.pointer (some ⟨5, 52, none⟩)])) w := by kernel_rfl
theorem as_impl52 (w : World) : (ReflectliteType.relation "Implements" ReflectliteType.implements_ #[.agg #[.pointer (some ⟨5, 52, none⟩)], .iface 83 (.agg #[.pointer (some ⟨5, 36, none⟩)])]).run Tryd.prog w = .ok (.bool true) w := by kernel_rfl
theorem as_typeOf52 (v : Value) (w : World) : (ReflectliteType.typeOf #[.iface 52 v]).run Tryd.prog w = .ok (.iface 83 (.agg #[.pointer (some ⟨5, 52, none⟩)])) w := by kernel_rfl
theorem as_assign52 (w : World) : (ReflectliteType.relation "AssignableTo" ReflectliteType.assignableTo #[.agg #[.pointer (some ⟨5, 52, none⟩)], .iface 83 (.agg #[.pointer (some ⟨5, 52, none⟩)])]).run Tryd.prog w = .ok (.bool true) w := by kernel_rfl
theorem as_elemOf66 (w : World) : (Rtype.elem? 66).run Tryd.prog w = .ok (some 52) w := by kernel_rfl
theorem as_mk52 (p : Addr) (w : World) : (ReflectliteValue.mk 52 p ReflectliteValue.flagAddr).run Tryd.prog w = .ok (.agg #[.pointer (some ⟨5, 52, none⟩), .pointer (some p), .int .u64 409]) w := by kernel_rfl
theorem as_elemV66 (a p : Addr) (W : World) (ha : W.cell? a = some (.pointer (some p))) :
    (ReflectliteValue.method (ReflectliteValue.valueError "reflectlite.Value.Elem" 0) ReflectliteValue.elem #[.agg #[.pointer (some ⟨5, 66, none⟩), .pointer (some a), .int .u64 150]]).run Tryd.prog W
      = .ok (.agg #[.pointer (some ⟨5, 52, none⟩), .pointer (some p), .int .u64 409]) W := by
  rw [as_rlm]
  simp only [Sem.run_bind, as_parts66, Result.andThen]
  simp [ReflectliteValue.elem, loadVar, isAgg, underlying, Tryd.underlying66, ha, Result.andThen, as_elemOf66, as_mk52]
theorem as_rls (v x : Value) : ReflectliteValue.set #[v, x] = (do
    let (some (dst, a, fl), some (src, b, _)) := (← ReflectliteValue.parts v, ← ReflectliteValue.parts x)
      | unsupported (.noEntry "extern/(internal/reflectlite.Value).Set.zeroValue")
    if fl / ReflectliteValue.flagAddr % 2 == 0 then unsupported (.noEntry "extern/(internal/reflectlite.Value).Set.unaddressable")
    let val ← loadVar src b
    if ← Rtype.directlyAssignable dst src then storeVar dst a val
    else if ← Rtype.implements dst src then
      if (← Rtype.kind src) == 20 then
        match val with
        | .nilIface => unsupported (.noEntry "extern/reflectlite: a nil value of one interface type handed on as a value of another")
        | _ => storeVar dst a val
      else storeVar dst a (.iface src val)
    else panicString ("reflectlite.Set: value of type " ++ (← Rtype.spelt src) ++ " is not assignable to type " ++ (← Rtype.spelt dst))
    pure (.tuple #[])) := rfl
theorem as_parts52a (a : Addr) (w : World) : (ReflectliteValue.parts (.agg #[.pointer (some ⟨5, 52, none⟩), .pointer (some a), .int .u64 409])).run Tryd.prog w = .ok (some (52, a, 409)) w := by kernel_rfl
theorem as_parts52 (a : Addr) (w : World) : (ReflectliteValue.parts (.agg #[.pointer (some ⟨5, 52, none⟩), .pointer (some a), .int .u64 153])).run Tryd.prog w = .ok (some (52, a, 153)) w := by kernel_rfl
theorem as_direct52 (w : World) : (Rtype.directlyAssignable 52 52).run Tryd.prog w = .ok true w := by kernel_rfl
theorem as_agg52 (w : World) : (isAgg 52).run Tryd.prog w = .ok true w := by kernel_rfl
theorem as_size52 (w : World) : (sizeOf 52).run Tryd.prog w = .ok 2 w := by kernel_rfl
/-- (Value).Set: the fault at 'ta' gets what lies in the box 'b' -/
theorem as_set52 (q b : Nat) (c p : Int) (o0 o1 : Value) (W : World) (hb : W.heap[b]? = some (.cells #[.int .i64 c, .int .i64 p] 52 (0, 0))) (ht : W.heap[q]? = some (.cells #[o0, o1] 52 (0, 0))) :
    (ReflectliteValue.set #[.agg #[.pointer (some ⟨5, 52, none⟩), .pointer (some ⟨q, 0, none⟩), .int .u64 409], .agg #[.pointer (some ⟨5, 52, none⟩), .pointer (some ⟨b, 0, none⟩), .int .u64 153]]).run Tryd.prog W
      = .ok (.tuple #[]) ((W.setCell ⟨q, 0, none⟩ (.int .i64 c)).setCell ⟨q, 1, none⟩ (.int .i64 p)) := by
  have b0 := cell_of_row _ _ 0 _ _ _ hb
  have b1 := cell_of_row _ _ 1 _ _ _ hb
  have t0 := cell_of_row _ _ 0 _ _ _ ht
  have t1 := cell_of_row _ _ 1 _ _ _ ht
  have tf := fun i => frozen_of_row _ _ i _ _ ht
  rw [as_rls]
  simp only [Sem.run_bind, as_parts52a, as_parts52, Result.andThen]
  have hl : (loadVar 52 ⟨b, 0, none⟩).run Tryd.prog W = .ok (.agg #[.int .i64 c, .int .i64 p]) W := by
    unfold loadVar
    simp only [Sem.run_bind, as_agg52, Result.andThen, if_true, as_size52]
    simp [loadCells, loadCellsFrom, Addr.add, b0, b1, Result.andThen]
  have hs : (storeVar 52 ⟨q, 0, none⟩ (.agg #[.int .i64 c, .int .i64 p])).run Tryd.prog W = .ok () ((W.setCell ⟨q, 0, none⟩ (.int .i64 c)).setCell ⟨q, 1, none⟩ (.int .i64 p)) := by
    unfold storeVar
    simp only [Sem.run_bind, as_size52, Result.andThen]
    have t1' : (W.setCell ⟨q, 0, none⟩ (.int .i64 c)).cell? ⟨q, 1, none⟩ = some o1 := by
      have h := heap_setCell_same W q 0 _ _ (.int .i64 c) ht
      exact cell_of_row _ _ 1 _ _ _ h
    simp [Value.cells, storeCells, Addr.add, Result.andThen]
    rw [run_store Tryd.prog W ⟨q, 0, none⟩ _ _ (by rfl)]
    simp [t0, tf]
    rw [run_store Tryd.prog _ ⟨q, 1, none⟩ _ _ (by rfl)]
    simp [t1', World.frozen?_setCell, tf]
  simp [ReflectliteValue.flagAddr, Sem.run_bind, hl, hs, as_direct52, Result.andThen]
end Go.Proofs.YthcolfmjjfjmiaaDoor
