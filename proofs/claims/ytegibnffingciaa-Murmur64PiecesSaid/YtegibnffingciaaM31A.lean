/- Contracts of layer 31: the mixers. -/
import Derived.Test.YtegibnffingciaaBlkG
import Derived.Test.YtegibnffingciaaTurn
import Derived.Test.YtegibnffingciaaGro3
import Derived.Test.YtegibnffingciaaLoadB
import Derived.Defers
import Derived.Recover
import Derived.Laws.Pointers
import Derived.Handy
import Derived.Laws.EntriesVeiled
namespace Go.Proofs.Ytegibnffingciaa
open Go.RowKit Go.Bv
set_option linter.unusedVariables false
def in31a (h k : BitVec 64) : BitVec 64 := h ^^^ (k * 9782798678568883157#64).rotateLeft 31 * 5545529020109919103#64
def in31b (h k : BitVec 64) : BitVec 64 := h ^^^ (k * 5545529020109919103#64).rotateLeft 33 * 9782798678568883157#64
def mm31a (a b k : BitVec 64) : BitVec 64 := ((in31a a k).rotateLeft 27 + b) * 5#64 + 1390208809#64
def mm31b (a b k : BitVec 64) : BitVec 64 := ((in31b b k).rotateLeft 31 + a) * 5#64 + 944331445#64
/-- a block -/
def stp31 (s : BitVec 64 × BitVec 64) (l : List (BitVec 8)) : BitVec 64 × BitVec 64 :=
  (mm31a s.1 s.2 (rd l 0 8), mm31b (mm31a s.1 s.2 (rd l 0 8)) s.2 (rd l 8 8))
theorem rot_n (y : BitVec 64) (n : Nat) (hn : n < 64) (w : World) : Calls Try.prog 160 #[.int .u64 (W64 y), .int .i64 n] w fun e w' => e = .returned (.int .u64 (W64 (y.rotateLeft n))) ∧ w' = w := by
  have h := rot64_any (W64 y) (b64 _) n w
  rw [ofInt_W64, show ((n : Int) % 64).toNat = n by omega] at h
  exact h
set_option maxRecDepth 100000 in
set_option maxHeartbeats 1000000 in
theorem in31a_c (h k : BitVec 64) (w : World) : Calls Try.prog 181 #[.agg #[.int .u64 9782798678568883157, .int .u64 5545529020109919103, .int .i64 31], .int .u64 (W64 h), .int .u64 (W64 k)] w fun e w' => e = .returned (.int .u64 (W64 (in31a h k))) ∧ New w w' := by
  have HZ := Lib.hid (heap_alloc_new w (.cells #[.int .u64 9782798678568883157, .int .u64 5545529020109919103, .int .i64 31] 177))
  have HR := Lib.hid (fun w => rot_n (k * 9782798678568883157#64) 31 (by decide) w)
  go_enter Try.func181, Try.ntmps181
  go_wp2_with fail
  refine Gro3.wp_region_gro3S (fun w' => w'.heap[w.heap.size]? = some (.cells #[.int .u64 9782798678568883157, .int .u64 5545529020109919103, .int .i64 31] 177 (0, 0)) ∧ New w w') (fun w' => w'.heap[w.heap.size]? = some (.cells #[.int .u64 9782798678568883157, .int .u64 5545529020109919103, .int .i64 31] 177 (0, 0)) ∧ New w w') [0,0,0,1,0,0,1,2,0,1,0,0,0] New (fun _ _ _ => True) (by kernel_rfl) (by kernel_rfl) (by kernel_rfl) (fun _ _ _ _ _ _ => trivial) (fun w' hw' => hw') (⟨HZ.out, ((New.refl w).alloc _).drew⟩) ?_
  intro I J _ _ f g hfa hba hgb hbb
  have HFA := Lib.hid hfa
  have HBA := Lib.hid hba
  have HGB := Lib.hid hgb
  have HBB := Lib.hid hbb
  have s0 := fun n => cell_of_row _ _ 0 _ _ _ (hgb n).1
  have s1 := fun n => cell_of_row _ _ 1 _ _ _ (hgb n).1
  have s2 := fun n => cell_of_row _ _ 2 _ _ _ (hgb n).1
  clear hfa hba hgb hbb
  refine Gro3.take0 3 (by kernel_rfl) ?_
  simp only [List.take, List.drop, List.length]
  repeat (go_big_quiet_step (fail))
  refine wpQuiet_nil ?_
  refine Gro3.take1 1 (by kernel_rfl) ?_
  simp only [List.take, List.drop, List.length]
  repeat (go_big_quiet_step (fail))
  refine wpQuiet_nil ?_
  refine Gro3.take0 2 (by kernel_rfl) ?_
  simp only [List.take, List.drop, List.length]
  repeat (go_big_quiet_step (fail))
  refine wpQuiet_nil ?_
  refine Gro3.take1 1 (by kernel_rfl) ?_
  simp only [List.take, List.drop, List.length]
  repeat (go_big_quiet_step (fail))
  refine wpQuiet_nil ?_
  refine Gro3.callt (fun v => v = .int .u64 (W64 ((k * 9782798678568883157#64).rotateLeft 31))) (fun _ _ => True) rfl rfl (⟨_, rfl⟩) (fun _ _ _ _ _ => trivial) (fun w1 hB hG => ?_) (fun v1 A1 hv1 hA => ?_)
  · obtain ⟨nq, rfl⟩ := hB
    clear s0 s1 s2
    go_simp
    refine (HR.out _).mono ?_
    rintro e w2 ⟨rfl, rfl⟩
    first | exact ⟨_, rfl, ⟨nq, rfl⟩, New.refl _, rfl⟩ | exact ⟨_, rfl, ⟨nq, rfl⟩, New.refl _, rfl, trivial⟩ | exact ⟨⟨nq, rfl⟩, New.refl _⟩
  simp [Act.put] at hA
  subst hA
  obtain rfl := hv1
  refine Gro3.take0 1 (by kernel_rfl) ?_
  simp only [List.take, List.drop, List.length]
  repeat (go_big_quiet_step (fail))
  refine wpQuiet_nil ?_
  refine Gro3.take1 1 (by kernel_rfl) ?_
  simp only [List.take, List.drop, List.length]
  repeat (go_big_quiet_step (fail))
  refine wpQuiet_nil ?_
  refine Gro3.take0 3 (by kernel_rfl) ?_
  simp only [List.take, List.drop, List.length]
  repeat (go_big_quiet_step (fail))
  refine wpQuiet_nil ?_
  refine Gro3.nil ?_
  rintro w9 ⟨n9, rfl⟩ hG
  have HN := Lib.hid (HGB.out n9).2
  clear HFA HBA HGB HBB hG s0 s1 s2
  generalize g n9 = w9 at *
  go_wp2
  go_ret
  exact ⟨rfl, HN.out⟩
set_option maxRecDepth 100000 in
set_option maxHeartbeats 1000000 in
theorem in31b_c (h k : BitVec 64) (w : World) : Calls Try.prog 181 #[.agg #[.int .u64 5545529020109919103, .int .u64 9782798678568883157, .int .i64 33], .int .u64 (W64 h), .int .u64 (W64 k)] w fun e w' => e = .returned (.int .u64 (W64 (in31b h k))) ∧ New w w' := by
  have HZ := Lib.hid (heap_alloc_new w (.cells #[.int .u64 5545529020109919103, .int .u64 9782798678568883157, .int .i64 33] 177))
  have HR := Lib.hid (fun w => rot_n (k * 5545529020109919103#64) 33 (by decide) w)
  go_enter Try.func181, Try.ntmps181
  go_wp2_with fail
  refine Gro3.wp_region_gro3S (fun w' => w'.heap[w.heap.size]? = some (.cells #[.int .u64 5545529020109919103, .int .u64 9782798678568883157, .int .i64 33] 177 (0, 0)) ∧ New w w') (fun w' => w'.heap[w.heap.size]? = some (.cells #[.int .u64 5545529020109919103, .int .u64 9782798678568883157, .int .i64 33] 177 (0, 0)) ∧ New w w') [0,0,0,1,0,0,1,2,0,1,0,0,0] New (fun _ _ _ => True) (by kernel_rfl) (by kernel_rfl) (by kernel_rfl) (fun _ _ _ _ _ _ => trivial) (fun w' hw' => hw') (⟨HZ.out, ((New.refl w).alloc _).drew⟩) ?_
  intro I J _ _ f g hfa hba hgb hbb
  have HFA := Lib.hid hfa
  have HBA := Lib.hid hba
  have HGB := Lib.hid hgb
  have HBB := Lib.hid hbb
  have s0 := fun n => cell_of_row _ _ 0 _ _ _ (hgb n).1
  have s1 := fun n => cell_of_row _ _ 1 _ _ _ (hgb n).1
  have s2 := fun n => cell_of_row _ _ 2 _ _ _ (hgb n).1
  clear hfa hba hgb hbb
  refine Gro3.take0 3 (by kernel_rfl) ?_
  simp only [List.take, List.drop, List.length]
  repeat (go_big_quiet_step (fail))
  refine wpQuiet_nil ?_
  refine Gro3.take1 1 (by kernel_rfl) ?_
  simp only [List.take, List.drop, List.length]
  repeat (go_big_quiet_step (fail))
  refine wpQuiet_nil ?_
  refine Gro3.take0 2 (by kernel_rfl) ?_
  simp only [List.take, List.drop, List.length]
  repeat (go_big_quiet_step (fail))
  refine wpQuiet_nil ?_
  refine Gro3.take1 1 (by kernel_rfl) ?_
  simp only [List.take, List.drop, List.length]
  repeat (go_big_quiet_step (fail))
  refine wpQuiet_nil ?_
  refine Gro3.callt (fun v => v = .int .u64 (W64 ((k * 5545529020109919103#64).rotateLeft 33))) (fun _ _ => True) rfl rfl (⟨_, rfl⟩) (fun _ _ _ _ _ => trivial) (fun w1 hB hG => ?_) (fun v1 A1 hv1 hA => ?_)
  · obtain ⟨nq, rfl⟩ := hB
    clear s0 s1 s2
    go_simp
    refine (HR.out _).mono ?_
    rintro e w2 ⟨rfl, rfl⟩
    first | exact ⟨_, rfl, ⟨nq, rfl⟩, New.refl _, rfl⟩ | exact ⟨_, rfl, ⟨nq, rfl⟩, New.refl _, rfl, trivial⟩ | exact ⟨⟨nq, rfl⟩, New.refl _⟩
  simp [Act.put] at hA
  subst hA
  obtain rfl := hv1
  refine Gro3.take0 1 (by kernel_rfl) ?_
  simp only [List.take, List.drop, List.length]
  repeat (go_big_quiet_step (fail))
  refine wpQuiet_nil ?_
  refine Gro3.take1 1 (by kernel_rfl) ?_
  simp only [List.take, List.drop, List.length]
  repeat (go_big_quiet_step (fail))
  refine wpQuiet_nil ?_
  refine Gro3.take0 3 (by kernel_rfl) ?_
  simp only [List.take, List.drop, List.length]
  repeat (go_big_quiet_step (fail))
  refine wpQuiet_nil ?_
  refine Gro3.nil ?_
  rintro w9 ⟨n9, rfl⟩ hG
  have HN := Lib.hid (HGB.out n9).2
  clear HFA HBA HGB HBB hG s0 s1 s2
  generalize g n9 = w9 at *
  go_wp2
  go_ret
  exact ⟨rfl, HN.out⟩
set_option maxRecDepth 100000 in
set_option maxHeartbeats 1000000 in
theorem mixers_31 (w : World) : Calls Try.prog 158 #[] w fun e w' => e = .returned (.agg #[.func (Fn.func 181) #[.agg #[.int .u64 9782798678568883157, .int .u64 5545529020109919103, .int .i64 31]] #[], .func (Fn.func 181) #[.agg #[.int .u64 5545529020109919103, .int .u64 9782798678568883157, .int .i64 33]] #[]]) ∧ New w w' := by
  have hmf : ∀ (fn : Fn) (first cap : Array Value) (w : World), (Instr.makeFunc fn first cap).run Try.prog w = .ok (.func fn first cap) w := fun _ _ _ _ => rfl
  go_enter Try.func158, Try.ntmps158
  go_wp2
  go_returns
  exact ⟨rfl, (((New.refl w).alloc _).alloc _).alloc _⟩
end Go.Proofs.Ytegibnffingciaa
