/- errors.As and errors.Is over gcode's errors: in a part, or not. -/
import Derived.Test.YtjmnhooenampkaaGreatDoorRdsB
namespace Go.Proofs.YtjmnhooenampkaaGreatDoor
open Go.RowKit Go.Extern.Stop Go.Stop Go.Extern Go.Bv
set_option linter.unusedVariables false
set_option maxRecDepth 100000
/-- the object that a sentinel points to -/
def SenOK (a : Addr) (w : World) : Prop := ∃ ca ta, w.heap[a.block]? = some (.cells ca ta (0, 0))
theorem SenOK.stay {a : Addr} {w w' : World} (h : SenOK a w) (hn : New w w') : SenOK a w' := by
  obtain ⟨ca, ta, h⟩ := h
  exact ⟨ca, ta, (hn.block _ (lt_of_block h)).trans h⟩
set_option maxHeartbeats 2000000 in
theorem ras_inref (p : ByteArray) (c : Int) (q a : Nat) (o0 : Value) (W : World) (ha : W.heap[a]? = some (.cells #[.pointer (some ⟨q, 0, none⟩)] 93 (0, 0))) (ht : W.heap[q]? = some (.cells #[o0] 69 (0, 0))) :
    Calls Tryz.prog 64 #[inV p (refV c), .iface 93 (.pointer (some ⟨q, 0, none⟩)), .agg #[.pointer (some ⟨8, 93, none⟩), .pointer (some ⟨a, 0, none⟩), .int .u64 150], .iface 155 (.agg #[.pointer (some ⟨8, 69, none⟩)])] W fun ev w' => ev = .returned (.bool true) ∧ Hit q c W w' := by
  have h1 := @run_callFunc_extern Tryz.prog 61 _ (fun args => ReflectliteValue.unpack (args.getD 0 (.tuple #[]))) Tryz.func61 (by kernel_rfl) (by kernel_rfl) (by kernel_rfl) (by kernel_rfl)
  have h7 := @run_callFunc_extern Tryz.prog 65 _ ReflectliteType.typeOf Tryz.func65 (by kernel_rfl) (by kernel_rfl) (by kernel_rfl) (by kernel_rfl)
  have h8 := @run_callFunc_extern Tryz.prog 230 _ (ReflectliteType.relation "AssignableTo" ReflectliteType.assignableTo) Tryz.func230 (by kernel_rfl) (by kernel_rfl) (by kernel_rfl) (by kernel_rfl)
  have h9 := @run_callFunc_extern Tryz.prog 121 _ (ReflectliteValue.method (ReflectliteValue.valueError "reflectlite.Value.Elem" 0) ReflectliteValue.elem) Tryz.func121 (by kernel_rfl) (by kernel_rfl) (by kernel_rfl) (by kernel_rfl)
  have h10 := @run_callFunc_extern Tryz.prog 122 _ ReflectliteValue.set Tryz.func122 (by kernel_rfl) (by kernel_rfl) (by kernel_rfl) (by kernel_rfl)
  have tO := ra_typeOfR
  have tI := ra_typeOfI
  have mA := ra_mAssign
  have aA := ra_assignR
  have aI := ra_assignI
  have nA := ra_asI
  have nU := ra_unI
  have mU := ra_mUn
  have vF := ra_vR
  obtain ⟨W1, hW1⟩ : ∃ z, W.alloc (.cells #[.pointer (some ⟨8, 93, none⟩), .pointer (some ⟨a, 0, none⟩), .int .u64 150] 110) = z := ⟨_, rfl⟩
  have n1 : New W W1 := by rw [← hW1]; exact (New.refl W).alloc _
  have HBX : Hid (W1.heap[W.heap.size]? = some (.cells #[.pointer (some ⟨8, 93, none⟩), .pointer (some ⟨a, 0, none⟩), .int .u64 150] 110 (0, 0))) := Lib.hid (by rw [← hW1]; exact heap_alloc_new W _)
  have HA1 := Lib.hid ((n1.block _ (lt_of_block ha)).trans ha)
  have HT1 := Lib.hid ((n1.block _ (lt_of_block ht)).trans ht)
  have HN1 := Lib.hid n1
  have HAL := Lib.hid hW1
  clear ha ht n1 hW1
  go_enter Tryz.func64, Tryz.ntmps64
  go_wp2_with fail
  refine wp_loop_rounds 2 ?_
  rw [rounds_succ]
  go_wp2_with fail
  rw [HAL.out]
  refine (un_in _ _ _ _).mono ?_
  rintro e w1 ⟨rfl, hn1⟩
  have hbx := (hn1.block _ (lt_of_block HBX.out)).trans HBX.out
  have c0 := cell_of_row _ _ 0 _ _ _ hbx
  have c1 := cell_of_row _ _ 1 _ _ _ hbx
  have c2 := cell_of_row _ _ 2 _ _ _ hbx
  have ha1 := (hn1.block _ (lt_of_block HA1.out)).trans HA1.out
  have ht1 := (hn1.block _ (lt_of_block HT1.out)).trans HT1.out
  have el := ra_elemV ⟨a, 0, none⟩ ⟨q, 0, none⟩ w1 (cell_of_row _ _ 0 _ _ _ ha1)
  have b2 := heap_alloc_new w1 (.cells #[.int .i64 c] 69)
  have n2 := (New.refl w1).alloc (.cells #[.int .i64 c] 69)
  have t2 := (n2.block _ (lt_of_block ht1)).trans ht1
  have st := ra_set q w1.heap.size c o0 (w1.alloc (.cells #[.int .i64 c] 69)) b2 t2
  have HH : Hid (Hit q c W ((w1.alloc (.cells #[.int .i64 c] 69)).setCell ⟨q, 0, none⟩ (.int .i64 c))) := Lib.hid ⟨heap_setCell_same _ q 0 _ _ (.int .i64 c) t2, fun W0 h0 hq => (((h0.trans HN1.out).trans hn1).trans n2).setCell (p := ⟨q, 0, none⟩) hq _⟩
  clear hbx ha1 ht1 b2 n2 t2 hn1 HAL HBX HA1 HT1 HN1
  go_wp2_with fail
  try rw [rounds_succ]
  go_wp2
  go_ret
  exact ⟨rfl, HH.out⟩
set_option maxHeartbeats 2000000 in
theorem ras_insen (p : ByteArray) (s : Addr) (q a : Nat) (o0 : Value) (W : World) (ha : W.heap[a]? = some (.cells #[.pointer (some ⟨q, 0, none⟩)] 93 (0, 0))) (ht : W.heap[q]? = some (.cells #[o0] 69 (0, 0))) :
    Calls Tryz.prog 64 #[inV p (senV s), .iface 93 (.pointer (some ⟨q, 0, none⟩)), .agg #[.pointer (some ⟨8, 93, none⟩), .pointer (some ⟨a, 0, none⟩), .int .u64 150], .iface 155 (.agg #[.pointer (some ⟨8, 69, none⟩)])] W fun ev w' => ev = .returned (.bool false) ∧ New W w' := by
  have h7 := @run_callFunc_extern Tryz.prog 65 _ ReflectliteType.typeOf Tryz.func65 (by kernel_rfl) (by kernel_rfl) (by kernel_rfl) (by kernel_rfl)
  have h8 := @run_callFunc_extern Tryz.prog 230 _ (ReflectliteType.relation "AssignableTo" ReflectliteType.assignableTo) Tryz.func230 (by kernel_rfl) (by kernel_rfl) (by kernel_rfl) (by kernel_rfl)
  have tO := ra_typeOfE
  have tI := ra_typeOfI
  have mA := ra_mAssign
  have aA := ra_assignE
  have aI := ra_assignI
  have nA := ra_asI
  have nU := ra_unI
  have nE := ra_asE
  have uE := ra_unE
  have sE := ra_unsE
  have mU := ra_mUn
  clear ha ht
  go_enter Tryz.func64, Tryz.ntmps64
  go_wp2_with fail
  refine wp_loop_rounds 2 ?_
  rw [rounds_succ]
  go_wp2_with fail
  refine (un_in _ _ _ _).mono ?_
  rintro e w1 ⟨rfl, hn1⟩
  have HN := Lib.hid (((New.refl W).alloc (.cells #[.pointer (some ⟨8, 93, none⟩), .pointer (some ⟨a, 0, none⟩), .int .u64 150] 110)).trans hn1)
  clear hn1
  go_wp2_with fail
  try rw [rounds_succ]
  go_wp2
  go_ret
  exact ⟨rfl, HN.out⟩
set_option maxHeartbeats 2000000 in
theorem ras_sen (s : Addr) (q a : Nat) (W : World) :
    Calls Tryz.prog 64 #[senV s, .iface 93 (.pointer (some ⟨q, 0, none⟩)), .agg #[.pointer (some ⟨8, 93, none⟩), .pointer (some ⟨a, 0, none⟩), .int .u64 150], .iface 155 (.agg #[.pointer (some ⟨8, 69, none⟩)])] W fun ev w' => ev = .returned (.bool false) ∧ New W w' := by
  have h7 := @run_callFunc_extern Tryz.prog 65 _ ReflectliteType.typeOf Tryz.func65 (by kernel_rfl) (by kernel_rfl) (by kernel_rfl) (by kernel_rfl)
  have h8 := @run_callFunc_extern Tryz.prog 230 _ (ReflectliteType.relation "AssignableTo" ReflectliteType.assignableTo) Tryz.func230 (by kernel_rfl) (by kernel_rfl) (by kernel_rfl) (by kernel_rfl)
  have tO := ra_typeOfE
  have mA := ra_mAssign
  have aA := ra_assignE
  have nE := ra_asE
  have uE := ra_unE
  have sE := ra_unsE
  go_enter Tryz.func64, Tryz.ntmps64
  go_wp2_with fail
  refine wp_loop_rounds 1 ?_
  rw [rounds_succ]
  go_wp2_with fail
  go_wp2
  go_ret
  exact ⟨rfl, (New.refl W).alloc _⟩
set_option maxHeartbeats 2000000 in
/-- errors.As by what its loop does -/
theorem ras_of (t : TypeId) (v : Value) (P : Ending → World → World → Prop) (q : Nat) (o0 : Value) (w : World)
    (H : ∀ (a : Nat) (W : World), W.heap[a]? = some (.cells #[.pointer (some ⟨q, 0, none⟩)] 93 (0, 0)) → W.heap[q]? = some (.cells #[o0] 69 (0, 0)) → Calls Tryz.prog 64 #[.iface t v, .iface 93 (.pointer (some ⟨q, 0, none⟩)), .agg #[.pointer (some ⟨8, 93, none⟩), .pointer (some ⟨a, 0, none⟩), .int .u64 150], .iface 155 (.agg #[.pointer (some ⟨8, 69, none⟩)])] W fun ev w' => (∃ b, ev = .returned (.bool b)) ∧ P ev W w')
    (hg : EtD 8 45 155 w) (ht : w.heap[q]? = some (.cells #[o0] 69 (0, 0))) :
    Calls Tryz.prog 45 #[.iface t v, .iface 93 (.pointer (some ⟨q, 0, none⟩))] w fun ev w' => ∃ W1, New w W1 ∧ P ev W1 w' := by
  have h1 := @run_callFunc_extern Tryz.prog 61 _ (fun args => ReflectliteValue.unpack (args.getD 0 (.tuple #[]))) Tryz.func61 (by kernel_rfl) (by kernel_rfl) (by kernel_rfl) (by kernel_rfl)
  have h2 := @run_callFunc_extern Tryz.prog 62 _ (ReflectliteValue.methodAny (ReflectliteValue.valueError "reflectlite.Value.Type" 0) (fun t _ _ _ => ReflectliteType.toType t)) Tryz.func62 (by kernel_rfl) (by kernel_rfl) (by kernel_rfl) (by kernel_rfl)
  have h3 := @run_callFunc_extern Tryz.prog 63 _ (ReflectliteValue.method (ReflectliteValue.valueError "reflectlite.Value.IsNil" 0) ReflectliteValue.isNil) Tryz.func63 (by kernel_rfl) (by kernel_rfl) (by kernel_rfl) (by kernel_rfl)
  have h4 := @run_callFunc_extern Tryz.prog 220 _ (ReflectliteType.abiMethod fun t => do pure (.int .u8 (← Rtype.kind t))) Tryz.func220 (by kernel_rfl) (by kernel_rfl) (by kernel_rfl) (by kernel_rfl)
  have h5 := @run_callFunc_extern Tryz.prog 232 _ (ReflectliteType.method ReflectliteType.elem) Tryz.func232 (by kernel_rfl) (by kernel_rfl) (by kernel_rfl) (by kernel_rfl)
  have h6 := @run_callFunc_extern Tryz.prog 233 _ (ReflectliteType.relation "Implements" ReflectliteType.implements_) Tryz.func233 (by kernel_rfl) (by kernel_rfl) (by kernel_rfl) (by kernel_rfl)
  have vP := ra_vP
  have ty := ra_type
  have mK := ra_mKind
  have mE := ra_mElem
  have mI := ra_mImpl
  have kP := ra_kindP
  have kF := ra_kindR
  have eP := ra_elem
  have iF := ra_impl
  have z1 := heap_alloc_new w (.cells #[.pointer (some ⟨q, 0, none⟩)] 93)
  have n1 := (New.refl w).alloc (.cells #[.pointer (some ⟨q, 0, none⟩)] 93)
  have n2 := n1.alloc (.cells #[.pointer (some ⟨8, 93, none⟩), .pointer (some ⟨w.heap.size, 0, none⟩), .int .u64 150] 110)
  have m2 := (New.refl (w.alloc (.cells #[.pointer (some ⟨q, 0, none⟩)] 93))).alloc (.cells #[.pointer (some ⟨8, 93, none⟩), .pointer (some ⟨w.heap.size, 0, none⟩), .int .u64 150] 110)
  have z2 := (m2.block _ (lt_of_block z1)).trans z1
  have nl := ra_isNil ⟨w.heap.size, 0, none⟩ ⟨q, 0, none⟩ ((w.alloc (.cells #[.pointer (some ⟨q, 0, none⟩)] 93)).alloc (.cells #[.pointer (some ⟨8, 93, none⟩), .pointer (some ⟨w.heap.size, 0, none⟩), .int .u64 150] 110)) (cell_of_row _ _ 0 _ _ _ z2)
  have g2 : ((w.alloc (.cells #[.pointer (some ⟨q, 0, none⟩)] 93)).alloc (.cells #[.pointer (some ⟨8, 93, none⟩), .pointer (some ⟨w.heap.size, 0, none⟩), .int .u64 150] 110)).cell? ⟨4, 0, none⟩ = some (.iface 155 (.agg #[.pointer (some ⟨8, 45, none⟩)])) := (hg.stay n2).cell
  have HI := Lib.hid (H w.heap.size ((w.alloc (.cells #[.pointer (some ⟨q, 0, none⟩)] 93)).alloc (.cells #[.pointer (some ⟨8, 93, none⟩), .pointer (some ⟨w.heap.size, 0, none⟩), .int .u64 150] 110)) z2 ((n2.block _ (lt_of_block ht)).trans ht))
  have HN := Lib.hid n2
  clear z1 z2 m2 n1 n2 ht hg H
  go_enter Tryz.func45, Tryz.ntmps45
  go_wp2_with fail
  refine HI.out.mono ?_
  rintro e w' ⟨⟨b, rfl⟩, hp⟩
  have HP := Lib.hid hp
  clear hp
  go_wp2_with fail
  go_ret
  exact ⟨_, HN.out, HP.out⟩
end Go.Proofs.YtjmnhooenampkaaGreatDoor
