/- Contracts of layer 28: New. -/
import Derived.Test.YtegibnffingciaaBlkC
import Derived.Defers
import Derived.Recover
import Derived.Laws.Pointers
import Derived.Handy
import Derived.Laws.EntriesVeiled
namespace Go.Bv
open Go Go.RowKit
/-- what lies there, for simp to leave alone -/
def Lies (w : World) (p : Nat) (o : Obj) : Prop := w.heap[p]? = some o
theorem brow_none (w : World) : BRow w none 0 0 [] := ⟨rfl, Nat.le_refl _, by omega, by omega, fun _ => ⟨rfl, rfl⟩, (fun _ _ e => by cases e), (fun _ e => by cases e), (fun _ e => by cases e)⟩
end Go.Bv
namespace Go.Proofs.Ytegibnffingciaa
open Go.RowKit Go.Bv
set_option linter.unusedVariables false
set_option maxRecDepth 100000 in
set_option maxHeartbeats 2000000 in
theorem new_28 (i : Int) (fs : BitVec 64 × Int) (w : World) : Calls Try.prog 19 #[.int .i64 i, .agg #[.int .u64 (W64 (fs.1)), .int .i64 (fs.2)], (.func (Fn.func 20) #[] #[])] w fun e w' => ∃ p, e = .returned (.pointer (some ⟨p, 0, none⟩)) ∧ w.heap.size ≤ p ∧ Strm_28 w' p (szN i) fs fs [] 0#64 ∧ New w w' := by
  have HSZ : Hid (∀ w : World, Calls Try.prog 80 #[.int .i64 i] w fun e w' => e = .returned (.int .i64 ((szN i : Nat) : Int)) ∧ w' = w) := Lib.hid fun w => size_of i w
  have HB0 := Lib.hid (heap_alloc_new w (.cells #[.int .u64 (W64 (fs.1)), .int .i64 (fs.2)] 27))
  go_enter Try.func19, Try.ntmps19
  go_wp2_with fail
  refine Gro2.wp_region_gro2S (fun w' => w'.heap[w.heap.size]? = some (.cells #[.int .u64 (W64 (fs.1)), .int .i64 (fs.2)] 27 (0, 0)) ∧ New w w') (fun w' => w'.heap[w.heap.size]? = some (.cells #[.int .u64 (W64 (fs.1)), .int .i64 (fs.2)] 27 (0, 0)) ∧ New w w') [0,2,1,1,0,0,2,0] (by kernel_rfl) (by kernel_rfl) (by kernel_rfl) (fun w' hw' => hw') (⟨HB0.out, ((New.refl w).alloc _).drew⟩) ?_
  intro I J _ _ f g hfa hba hgb hbb
  have HFA := Lib.hid hfa
  have HBA := Lib.hid hba
  have HGB := Lib.hid hgb
  have HBB := Lib.hid hbb
  have s0 := fun n => cell_of_row _ _ 0 _ _ _ (hgb n).1
  have s1 := fun n => cell_of_row _ _ 1 _ _ _ (hgb n).1
  clear hfa hba hgb hbb
  refine Gro2.take0 1 (by kernel_rfl) ?_
  simp only [List.take, List.drop, List.length]
  repeat (go_big_quiet_step (fail))
  refine wpQuiet_nil ?_
  refine Gro2.call (fun v => v = .int .i64 ((szN i : Nat) : Int)) (fun _ _ => True) rfl rfl (⟨_, rfl⟩) (fun w1 hB hG => ?_) (fun v1 A1 hv1 hA => ?_)
  · obtain ⟨nq, rfl⟩ := hB
    go_simp
    refine (HSZ.out _).mono ?_
    rintro e w2 ⟨rfl, rfl⟩
    first | exact ⟨_, rfl, ⟨nq, rfl⟩, rfl, trivial, trivial⟩ | exact ⟨⟨nq, rfl⟩, rfl⟩ | exact ⟨rfl, ⟨nq, rfl⟩⟩ | exact ⟨nq, rfl⟩
  simp [Act.put] at hA
  subst hA
  obtain rfl := hv1
  refine Gro2.take1 2 (by kernel_rfl) ?_
  simp only [List.take, List.drop, List.length]
  repeat (go_big_quiet_step (fail))
  refine wpQuiet_nil ?_
  refine Gro2.take0 2 (by kernel_rfl) ?_
  simp only [List.take, List.drop, List.length]
  repeat (go_big_quiet_step (fail))
  refine wpQuiet_nil ?_
  refine Gro2.call (fun v => ∃ p, v = .pointer (some ⟨p, 0, none⟩)) (fun v w' => ∃ p, v = .pointer (some ⟨p, 0, none⟩) ∧ w.heap.size ≤ p ∧ Lies w' p (.cells #[.int .i64 ((szN i : Nat) : Int), .int .u64 (W64 (fs.1)), .int .i64 (fs.2), .int .u64 (W64 (fs.1)), .int .i64 (fs.2), (.func (Fn.func 20) #[] #[]), .slice none 0 0, .int .u64 0] 82)) rfl rfl (⟨_, 0, rfl⟩) (fun w1 hB hG => ?_) (fun v2 A2 hv2 hA => ?_)
  · obtain ⟨nq, rfl⟩ := hB
    have hz := heap_alloc_new (g nq) (.cells #[.int .i64 ((szN i : Nat) : Int), .int .u64 (W64 (fs.1)), .int .i64 (fs.2), .int .u64 (W64 (fs.1)), .int .i64 (fs.2), (.func (Fn.func 20) #[] #[]), .slice none 0 0, .int .u64 0] 82)
    have hal := (New.refl (g nq)).alloc (.cells #[.int .i64 ((szN i : Nat) : Int), .int .u64 (W64 (fs.1)), .int .i64 (fs.2), .int .u64 (W64 (fs.1)), .int .i64 (fs.2), (.func (Fn.func 20) #[] #[]), .slice none 0 0, .int .u64 0] 82)
    have HX := Lib.hid (HBB.out _ ⟨(hal.block _ (lt_of_block (HGB.out nq).1)).trans (HGB.out nq).1, (HGB.out nq).2.trans hal⟩)
    have HLE := Lib.hid ((HGB.out nq).2.le)
    have HZ := Lib.hid (show Lies _ _ _ from hz)
    clear hz hal
    go_simp
    first | exact ⟨HX.out, ⟨_, rfl, HLE.out, HZ.out⟩⟩ | exact ⟨HX.out, HLE.out, HZ.out⟩ | exact ⟨HX.out, ⟨_, rfl⟩, trivial, ⟨_, rfl, HLE.out, HZ.out⟩⟩
  simp [Act.put] at hA
  subst hA
  obtain ⟨p, rfl⟩ := hv2
  refine Gro2.take0 1 (by kernel_rfl) ?_
  simp only [List.take, List.drop, List.length]
  repeat (go_big_quiet_step (fail))
  refine wpQuiet_nil ?_
  refine Gro2.nil ?_
  rintro w9 ⟨n9, rfl⟩ hG
  have HN := Lib.hid (HGB.out n9).2
  obtain ⟨_, p2, e2, hle, hbx⟩ := hG
  cases e2
  have HX := Lib.hid hbx
  have HLE := Lib.hid hle
  clear HFA HBA HGB HBB hbx hle s0 s1
  generalize g n9 = w9 at *
  go_wp2
  go_ret
  exact ⟨p, rfl, HLE.out, ⟨none, 0, HX.out, brow_none _⟩, HN.out⟩
end Go.Proofs.Ytegibnffingciaa
