/- Contracts of errors.As at a target of type *refusal and of errors.Is at a sentinel, over gcode's errors. -/
import Derived.Test.YtjmnhooenampkaaGreatDoorRdsA
namespace Go.Proofs.YtjmnhooenampkaaGreatDoor
open Go.RowKit Go.Extern.Stop Go.Stop Go.Extern Go.Bv
set_option linter.unusedVariables false
set_option maxRecDepth 100000
theorem un_in (p : ByteArray) (t : TypeId) (v : Value) (w : World) : Calls Tryz.prog 224 #[.agg #[.string p, .iface t v]] w fun e w' => e = .returned (.iface t v) ∧ New w w' := by
  go_enter Tryz.func224, Tryz.ntmps224
  go_wp2
  go_ret
  exact ⟨rfl, (New.refl w).alloc _⟩
/-- what errors.As leaves where it finds a refusal -/
def Hit (q : Nat) (c : Int) (W w' : World) : Prop := w'.heap[q]? = some (.cells #[.int .i64 c] 69 (0, 0)) ∧ ∀ W0 : World, New W0 W → W0.heap.size ≤ q → New W0 w'
theorem Hit.ahead {q : Nat} {c : Int} {W W1 w' : World} (h : Hit q c W1 w') (hn : New W W1) : Hit q c W w' := ⟨h.1, fun W0 h0 hq => h.2 W0 (h0.trans hn) hq⟩
set_option maxHeartbeats 2000000 in
theorem ras_ref (c : Int) (q a : Nat) (o0 : Value) (W : World) (ha : W.heap[a]? = some (.cells #[.pointer (some ⟨q, 0, none⟩)] 93 (0, 0))) (ht : W.heap[q]? = some (.cells #[o0] 69 (0, 0))) :
    Calls Tryz.prog 64 #[refV c, .iface 93 (.pointer (some ⟨q, 0, none⟩)), .agg #[.pointer (some ⟨8, 93, none⟩), .pointer (some ⟨a, 0, none⟩), .int .u64 150], .iface 155 (.agg #[.pointer (some ⟨8, 69, none⟩)])] W fun ev w' => ev = .returned (.bool true) ∧ Hit q c W w' := by
  have h1 := @run_callFunc_extern Tryz.prog 61 _ (fun args => ReflectliteValue.unpack (args.getD 0 (.tuple #[]))) Tryz.func61 (by kernel_rfl) (by kernel_rfl) (by kernel_rfl) (by kernel_rfl)
  have h7 := @run_callFunc_extern Tryz.prog 65 _ ReflectliteType.typeOf Tryz.func65 (by kernel_rfl) (by kernel_rfl) (by kernel_rfl) (by kernel_rfl)
  have h8 := @run_callFunc_extern Tryz.prog 230 _ (ReflectliteType.relation "AssignableTo" ReflectliteType.assignableTo) Tryz.func230 (by kernel_rfl) (by kernel_rfl) (by kernel_rfl) (by kernel_rfl)
  have h9 := @run_callFunc_extern Tryz.prog 121 _ (ReflectliteValue.method (ReflectliteValue.valueError "reflectlite.Value.Elem" 0) ReflectliteValue.elem) Tryz.func121 (by kernel_rfl) (by kernel_rfl) (by kernel_rfl) (by kernel_rfl)
  have h10 := @run_callFunc_extern Tryz.prog 122 _ ReflectliteValue.set Tryz.func122 (by kernel_rfl) (by kernel_rfl) (by kernel_rfl) (by kernel_rfl)
  have tO := ra_typeOfR
  have mA := ra_mAssign
  have aA := ra_assignR
  have vF := ra_vR
  obtain ⟨W1, hW1⟩ : ∃ z, W.alloc (.cells #[.pointer (some ⟨8, 93, none⟩), .pointer (some ⟨a, 0, none⟩), .int .u64 150] 110) = z := ⟨_, rfl⟩
  have n1 : New W W1 := by rw [← hW1]; exact (New.refl W).alloc _
  have e1 : W1.heap.size = W.heap.size + 1 := by rw [← hW1]; simp
  have z1 := (n1.block _ (lt_of_block ha)).trans ha
  have el := ra_elemV ⟨a, 0, none⟩ ⟨q, 0, none⟩ W1 (cell_of_row _ _ 0 _ _ _ z1)
  have b2 := heap_alloc_new W1 (.cells #[.int .i64 c] 69)
  have n2 := n1.alloc (.cells #[.int .i64 c] 69)
  have t2 := (n2.block _ (lt_of_block ht)).trans ht
  have st := ra_set q W1.heap.size c o0 (W1.alloc (.cells #[.int .i64 c] 69)) b2 t2
  have HH : Hid (Hit q c W ((W1.alloc (.cells #[.int .i64 c] 69)).setCell ⟨q, 0, none⟩ (.int .i64 c))) := Lib.hid ⟨heap_setCell_same _ q 0 _ _ (.int .i64 c) t2, fun W0 h0 hq => (h0.trans n2).setCell (p := ⟨q, 0, none⟩) hq _⟩
  rw [← hW1] at el st HH
  have e1' : (W.alloc (.cells #[.pointer (some ⟨8, 93, none⟩), .pointer (some ⟨a, 0, none⟩), .int .u64 150] 110)).heap.size = W.heap.size + 1 := by simp
  rw [e1'] at st
  clear b2 e1 e1' z1 n1 n2 t2 ht ha hW1
  go_enter Tryz.func64, Tryz.ntmps64
  go_wp2_with fail
  refine wp_loop_rounds 1 ?_
  rw [rounds_succ]
  go_wp2
  go_ret
  exact ⟨rfl, HH.out⟩
end Go.Proofs.YtjmnhooenampkaaGreatDoor
