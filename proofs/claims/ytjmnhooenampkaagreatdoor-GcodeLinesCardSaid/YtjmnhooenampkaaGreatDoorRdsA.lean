/- errors.As at a target of type *refusal; errors.Is at a sentinel: over gcode's errors. -/
import Derived.Test.YtjmnhooenampkaaGreatDoorProg
import Derived.Test.YtjmnhooenampkaaGreatDoorFrame
import Derived.WalkKit
import Derived.LaidEql
import Derived.Stop.Asserts
import Derived.RowKitTokens
import Derived.LoopN
import Derived.Stop.LaidTwo
namespace Go.Bv
open Go Go.RowKit
/-- the variable that holds the type error -/
structure EtD (G T R : Nat) (w : World) : Prop where
  lt : 4 < w.heap.size
  cell : w.cell? ⟨4, 0, none⟩ = some (.iface R (.agg #[.pointer (some ⟨G, T, none⟩)]))
theorem EtD.stay {G T R : Nat} {w w' : World} (h : EtD G T R w) (hn : New w w') : EtD G T R w' where
  lt := Nat.lt_of_lt_of_le h.lt hn.le
  cell := by
    have e := hn.block 4 h.lt
    rw [← h.cell]
    unfold World.cell?
    rw [e]
end Go.Bv
namespace Go.Proofs.YtjmnhooenampkaaGreatDoor
open Go.RowKit Go.Extern.Stop Go.Stop Go.Extern Go.Bv
set_option linter.unusedVariables false
set_option maxRecDepth 100000
/-- an error of a layer below; an error in a part; a sentinel -/
abbrev refV (c : Int) : Value := .iface 69 (.int .i64 c)
abbrev inV (p : ByteArray) (e : Value) : Value := .iface 66 (.agg #[.string p, e])
abbrev senV (a : Addr) : Value := .iface 240 (.pointer (some a))
theorem ra_vP (t : Addr) (w : World) : (ReflectliteValue.unpack (.iface 93 (.pointer (some t)))).run Tryz.prog w
    = .ok (.agg #[.pointer (some ⟨8, 93, none⟩), .pointer (some ⟨w.heap.size, 0, none⟩), .int .u64 150]) (w.alloc (.cells #[.pointer (some t)] 93)) := by kernel_rfl
theorem ra_vR (c : Int) (w : World) : (ReflectliteValue.unpack (refV c)).run Tryz.prog w
    = .ok (.agg #[.pointer (some ⟨8, 69, none⟩), .pointer (some ⟨w.heap.size, 0, none⟩), .int .u64 130]) (w.alloc (.cells #[.int .i64 c] 69)) := by kernel_rfl
theorem ra_type (a : Addr) (w : World) : (ReflectliteValue.methodAny (ReflectliteValue.valueError "reflectlite.Value.Type" 0) (fun t _ _ _ => ReflectliteType.toType t) #[.agg #[.pointer (some ⟨8, 93, none⟩), .pointer (some a), .int .u64 150]]).run Tryz.prog w
    = .ok (.iface 155 (.agg #[.pointer (some ⟨8, 93, none⟩)])) w := by kernel_rfl
theorem ra_kindP (w : World) : ((ReflectliteType.abiMethod fun t => (fun a : Nat => Value.int IntKind.u8 (a : Int)) <$> Rtype.kind t) #[.pointer (some ⟨8, 93, none⟩)]).run Tryz.prog w = .ok (.int .u8 22) w := by kernel_rfl
theorem ra_kindR (w : World) : ((ReflectliteType.abiMethod fun t => (fun a : Nat => Value.int IntKind.u8 (a : Int)) <$> Rtype.kind t) #[.pointer (some ⟨8, 69, none⟩)]).run Tryz.prog w = .ok (.int .u8 2) w := by kernel_rfl
theorem ra_mKind (h : Value) (w : World) : (Go.method 373 155 (.agg #[h]) "Kind").run Tryz.prog w = .ok (220, h) w := by kernel_rfl
theorem ra_mElem (h : Value) (w : World) : (Go.method 373 155 (.agg #[h]) "Elem").run Tryz.prog w = .ok (232, .agg #[h]) w := by kernel_rfl
theorem ra_mImpl (h : Value) (w : World) : (Go.method 373 155 (.agg #[h]) "Implements").run Tryz.prog w = .ok (233, .agg #[h]) w := by kernel_rfl
theorem ra_mAssign (h : Value) (w : World) : (Go.method 373 155 (.agg #[h]) "AssignableTo").run Tryz.prog w = .ok (230, .agg #[h]) w := by kernel_rfl
theorem ra_mComp (h : Value) (w : World) : (Go.method 373 155 (.agg #[h]) "Comparable").run Tryz.prog w = .ok (231, .agg #[h]) w := by kernel_rfl
theorem ra_mUn (v : Value) (w : World) : (Go.method 373 66 v "Unwrap").run Tryz.prog w = .ok (224, v) w := by kernel_rfl
theorem ra_compE (w : World) : (ReflectliteType.method (fun t => do Rtype.noPackHeld "Comparable" t; (fun a => Value.bool a.comparable) <$> typeInfo t) #[.agg #[.pointer (some ⟨8, 240, none⟩)]]).run Tryz.prog w = .ok (.bool true) w := by kernel_rfl
theorem ra_eqIE (v : Value) (a : Addr) (w : World) : (binOp .eql 45 (.iface 66 v) (senV a)).run Tryz.prog w = .ok (.bool false) w := run_eql_iface_types _ _ _ _ Tryz.underlying45 (by decide) w
theorem ra_infoE : ∃ i, Tryz.prog.info? 240 = some i ∧ i.comparable = true := by
  have h : (Tryz.prog.info? 240).map (fun i => i.comparable) = some true := by kernel_rfl
  obtain ⟨i, hi, hc⟩ := Option.map_eq_some_iff.1 h
  exact ⟨i, hi, hc⟩
theorem ra_infoS : ∃ i, Tryz.prog.info? 261 = some i ∧ i.size ≠ 0 := by
  have h : (Tryz.prog.info? 261).map (fun i => i.size) = some 1 := by kernel_rfl
  obtain ⟨i, hi, hc⟩ := Option.map_eq_some_iff.1 h
  exact ⟨i, hi, by omega⟩
theorem ra_eqS (a : Addr) (w : World) : (binOp .eql 45 (senV a) (senV a)).run Tryz.prog w = .ok (.bool true) w := by
  obtain ⟨i, hi, hc⟩ := ra_infoE
  obtain ⟨j, hj, _⟩ := ra_infoS
  exact run_eql_iface_ptr_same w a Tryz.underlying45 Tryz.underlying240 hi hc hj
theorem ra_eqD {a b : Addr} {w : World} (h : a ≠ b) {ca cb : Array Value} {ta tb : TypeId} (ha : w.heap[a.block]? = some (.cells ca ta (0, 0))) (hb : w.heap[b.block]? = some (.cells cb tb (0, 0))) : (binOp .eql 45 (senV a) (senV b)).run Tryz.prog w = .ok (.bool false) w := by
  obtain ⟨i, hi, hc⟩ := ra_infoE
  obtain ⟨j, hj, hz⟩ := ra_infoS
  exact run_eql_iface_ptr_other w Tryz.underlying45 Tryz.underlying240 hi hc hj hz h ha hb
theorem ra_rlm (z : Sem Value) (f : TypeId → Addr → Nat → Nat → Sem Value) (v : Value) :
    ReflectliteValue.method z f #[v] = (do match ← ReflectliteValue.parts v with | none => z | some (t, a, fl) => f t a fl (fl % 32)) := rfl
theorem ra_partsP (a : Addr) (w : World) : (ReflectliteValue.parts (.agg #[.pointer (some ⟨8, 93, none⟩), .pointer (some a), .int .u64 150])).run Tryz.prog w = .ok (some (93, a, 150)) w := by kernel_rfl
theorem ra_isNil (a p : Addr) (W : World) (ha : W.cell? a = some (.pointer (some p))) :
    (ReflectliteValue.method (ReflectliteValue.valueError "reflectlite.Value.IsNil" 0) ReflectliteValue.isNil #[.agg #[.pointer (some ⟨8, 93, none⟩), .pointer (some a), .int .u64 150]]).run Tryz.prog W = .ok (.bool false) W := by
  rw [ra_rlm]
  simp only [Sem.run_bind, ra_partsP, Result.andThen]
  simp [ReflectliteValue.isNil, loadVar, isAgg, underlying, Tryz.underlying93, ha, Result.andThen]
theorem ra_elem (w : World) : (ReflectliteType.method ReflectliteType.elem #[.agg #[.pointer (some ⟨8, 93, none⟩)]]).run Tryz.prog w = .ok (.iface 155 (.agg #[.pointer (some ⟨8, 69, none⟩)])) w := by kernel_rfl
theorem ra_impl (w : World) : (ReflectliteType.relation "Implements" ReflectliteType.implements_ #[.agg #[.pointer (some ⟨8, 69, none⟩)], .iface 155 (.agg #[.pointer (some ⟨8, 45, none⟩)])]).run Tryz.prog w = .ok (.bool true) w := by kernel_rfl
theorem ra_typeOfR (v : Value) (w : World) : (ReflectliteType.typeOf #[.iface 69 v]).run Tryz.prog w = .ok (.iface 155 (.agg #[.pointer (some ⟨8, 69, none⟩)])) w := by kernel_rfl
theorem ra_typeOfI (v : Value) (w : World) : (ReflectliteType.typeOf #[.iface 66 v]).run Tryz.prog w = .ok (.iface 155 (.agg #[.pointer (some ⟨8, 66, none⟩)])) w := by kernel_rfl
theorem ra_typeOfE (v : Value) (w : World) : (ReflectliteType.typeOf #[.iface 240 v]).run Tryz.prog w = .ok (.iface 155 (.agg #[.pointer (some ⟨8, 240, none⟩)])) w := by kernel_rfl
theorem ra_assignR (w : World) : (ReflectliteType.relation "AssignableTo" ReflectliteType.assignableTo #[.agg #[.pointer (some ⟨8, 69, none⟩)], .iface 155 (.agg #[.pointer (some ⟨8, 69, none⟩)])]).run Tryz.prog w = .ok (.bool true) w := by kernel_rfl
theorem ra_assignI (w : World) : (ReflectliteType.relation "AssignableTo" ReflectliteType.assignableTo #[.agg #[.pointer (some ⟨8, 66, none⟩)], .iface 155 (.agg #[.pointer (some ⟨8, 69, none⟩)])]).run Tryz.prog w = .ok (.bool false) w := by kernel_rfl
theorem ra_assignE (w : World) : (ReflectliteType.relation "AssignableTo" ReflectliteType.assignableTo #[.agg #[.pointer (some ⟨8, 240, none⟩)], .iface 155 (.agg #[.pointer (some ⟨8, 69, none⟩)])]).run Tryz.prog w = .ok (.bool false) w := by kernel_rfl
theorem ra_elemOf (w : World) : (Rtype.elem? 93).run Tryz.prog w = .ok (some 69) w := by kernel_rfl
theorem ra_mk (p : Addr) (w : World) : (ReflectliteValue.mk 69 p ReflectliteValue.flagAddr).run Tryz.prog w = .ok (.agg #[.pointer (some ⟨8, 69, none⟩), .pointer (some p), .int .u64 386]) w := by kernel_rfl
theorem ra_elemV (a p : Addr) (W : World) (ha : W.cell? a = some (.pointer (some p))) :
    (ReflectliteValue.method (ReflectliteValue.valueError "reflectlite.Value.Elem" 0) ReflectliteValue.elem #[.agg #[.pointer (some ⟨8, 93, none⟩), .pointer (some a), .int .u64 150]]).run Tryz.prog W
      = .ok (.agg #[.pointer (some ⟨8, 69, none⟩), .pointer (some p), .int .u64 386]) W := by
  rw [ra_rlm]
  simp only [Sem.run_bind, ra_partsP, Result.andThen]
  simp [ReflectliteValue.elem, loadVar, isAgg, underlying, Tryz.underlying93, ha, Result.andThen, ra_elemOf, ra_mk]
theorem ra_rls (v x : Value) : ReflectliteValue.set #[v, x] = (do
    let (some (dst, a, fl), some (src, b, _)) := (← ReflectliteValue.parts v, ← ReflectliteValue.parts x)
      | unsupported (.noEntry "extern/(internal/reflectlite.Value).Set.zeroValue")
    if fl / ReflectliteValue.flagAddr % 2 == 0 then unsupported (.noEntry "extern/(internal/reflectlite.Value).Set.unaddressable")
    let val ← loadVar src b
    if ← Rtype.directlyAssignable dst src then storeVar dst a val
    else if ← Rtype.implements dst src then
      if (← Rtype.kind src) == 20 then
        match val with
        | .nilIface => unsupported (.noEntry "extern/reflectlite: a nil value of one interface type handed on as a value of another")
        | _ => storeVar dst a val
      else storeVar dst a (.iface src val)
    else panicString ("reflectlite.Set: value of type " ++ (← Rtype.spelt src) ++ " is not assignable to type " ++ (← Rtype.spelt dst))
    pure (.tuple #[])) := rfl
theorem ra_partsA (a : Addr) (w : World) : (ReflectliteValue.parts (.agg #[.pointer (some ⟨8, 69, none⟩), .pointer (some a), .int .u64 386])).run Tryz.prog w = .ok (some (69, a, 386)) w := by kernel_rfl
theorem ra_partsB (a : Addr) (w : World) : (ReflectliteValue.parts (.agg #[.pointer (some ⟨8, 69, none⟩), .pointer (some a), .int .u64 130])).run Tryz.prog w = .ok (some (69, a, 130)) w := by kernel_rfl
theorem ra_direct (w : World) : (Rtype.directlyAssignable 69 69).run Tryz.prog w = .ok true w := by kernel_rfl
theorem ra_agg (w : World) : (isAgg 69).run Tryz.prog w = .ok false w := by kernel_rfl
theorem ra_size (w : World) : (sizeOf 69).run Tryz.prog w = .ok 1 w := by kernel_rfl
/-- (Value).Set: the number at 'q' gets what lies in the box 'b' -/
theorem ra_set (q b : Nat) (c : Int) (o0 : Value) (W : World) (hb : W.heap[b]? = some (.cells #[.int .i64 c] 69 (0, 0))) (ht : W.heap[q]? = some (.cells #[o0] 69 (0, 0))) :
    (ReflectliteValue.set #[.agg #[.pointer (some ⟨8, 69, none⟩), .pointer (some ⟨q, 0, none⟩), .int .u64 386], .agg #[.pointer (some ⟨8, 69, none⟩), .pointer (some ⟨b, 0, none⟩), .int .u64 130]]).run Tryz.prog W
      = .ok (.tuple #[]) (W.setCell ⟨q, 0, none⟩ (.int .i64 c)) := by
  have b0 := cell_of_row _ _ 0 _ _ _ hb
  have t0 := cell_of_row _ _ 0 _ _ _ ht
  have tf := fun i => frozen_of_row _ _ i _ _ ht
  rw [ra_rls]
  simp only [Sem.run_bind, ra_partsA, ra_partsB, Result.andThen]
  have hl : (loadVar 69 ⟨b, 0, none⟩).run Tryz.prog W = .ok (.int .i64 c) W := by
    unfold loadVar
    simp only [Sem.run_bind, ra_agg, Result.andThen]
    simp [b0]
  have hs : (storeVar 69 ⟨q, 0, none⟩ (.int .i64 c)).run Tryz.prog W = .ok () (W.setCell ⟨q, 0, none⟩ (.int .i64 c)) := by
    unfold storeVar
    simp only [Sem.run_bind, ra_size, Result.andThen]
    simp [Value.cells, storeCells, Addr.add]
    rw [run_store Tryz.prog W ⟨q, 0, none⟩ _ _ (by rfl)]
    simp [t0, tf]
  simp [ReflectliteValue.flagAddr, Sem.run_bind, hl, hs, ra_direct, Result.andThen]
theorem ra_asI (v : Value) (xT : TypeId) (w : World) : (Instr.typeAssert (.iface 66 v) xT 159 true).run Tryz.prog w = .ok (.tuple #[.nilIface, .bool false]) w := run_typeAssert_lacksB Tryz.underlying159 (by kernel_rfl) (by kernel_rfl) v xT w
theorem ra_asE (v : Value) (xT : TypeId) (w : World) : (Instr.typeAssert (.iface 240 v) xT 159 true).run Tryz.prog w = .ok (.tuple #[.nilIface, .bool false]) w := run_typeAssert_lacksB Tryz.underlying159 (by kernel_rfl) (by kernel_rfl) v xT w
theorem ra_isI (v : Value) (xT : TypeId) (w : World) : (Instr.typeAssert (.iface 66 v) xT 167 true).run Tryz.prog w = .ok (.tuple #[.nilIface, .bool false]) w := run_typeAssert_lacksB Tryz.underlying167 (by kernel_rfl) (by kernel_rfl) v xT w
theorem ra_isE (v : Value) (xT : TypeId) (w : World) : (Instr.typeAssert (.iface 240 v) xT 167 true).run Tryz.prog w = .ok (.tuple #[.nilIface, .bool false]) w := run_typeAssert_lacksB Tryz.underlying167 (by kernel_rfl) (by kernel_rfl) v xT w
theorem ra_unE (v : Value) (xT : TypeId) (w : World) : (Instr.typeAssert (.iface 240 v) xT 162 true).run Tryz.prog w = .ok (.tuple #[.nilIface, .bool false]) w := run_typeAssert_lacksB Tryz.underlying162 (by kernel_rfl) (by kernel_rfl) v xT w
theorem ra_unsE (v : Value) (xT : TypeId) (w : World) : (Instr.typeAssert (.iface 240 v) xT 164 true).run Tryz.prog w = .ok (.tuple #[.nilIface, .bool false]) w := run_typeAssert_lacksB Tryz.underlying164 (by kernel_rfl) (by kernel_rfl) v xT w
theorem ra_unI (v : Value) (xT : TypeId) (w : World) : (Instr.typeAssert (.iface 66 v) xT 162 true).run Tryz.prog w = .ok (.tuple #[.iface 66 v, .bool true]) w := run_typeAssert_hasB Tryz.underlying162 (by kernel_rfl) v xT w
end Go.Proofs.YtjmnhooenampkaaGreatDoor
