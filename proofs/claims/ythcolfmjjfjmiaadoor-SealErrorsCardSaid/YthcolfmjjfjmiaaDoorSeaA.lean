/- Layer 16: Wrap, faultIn, Errno, At. -/
import Derived.Test.YthcolfmjjfjmiaaDoorAsB
import Derived.Defers
import Derived.Recover
import Derived.Handy
namespace Go.Proofs.YthcolfmjjfjmiaaDoor
open Go.RowKit Go.Bv
set_option linter.unusedVariables false
/-- an error as Wrap makes it -/
abbrev errV (c p : Int) : Value := .iface 52 (.agg #[.int .i64 c, .int .i64 p])
theorem wrap_ok (p : Int) (w : World) : Calls Tryd.prog 14 #[.int .i64 0, .int .i64 p] w fun e w' => e = .returned .nilIface ∧ w' = w := by
  go_enter Tryd.func14, Tryd.ntmps14
  go_wp2
  go_ret
  exact ⟨rfl, rfl⟩
theorem wrap_err (c p : Int) (hc : ¬ c = 0) (w : World) : Calls Tryd.prog 14 #[.int .i64 c, .int .i64 p] w fun e w' => e = .returned (errV c p) ∧ w' = w := by
  go_enter Tryd.func14, Tryd.ntmps14
  go_wp2
  go_ret
  exact ⟨rfl, rfl⟩
theorem recover_fi (a b : Value) (w : World) : CallsD Tryd.prog 41 #[a, b] .returning w fun e u' w' => e = .returned (.tuple #[]) ∧ u' = .returning ∧ w' = w := by
  refine callsD_of_wpS Tryd.func41 rfl fun c₀ cs hu => ?_
  apply wpS_seq
  apply wpS_region
  simp [wpOpsS, go_sem, recoverD, hu, Tryd.ntmps41, Exit.thenS]
  refine wpS_cond (t := false) (by simp [Act.eval, Array.replicate]) ?_
  simp only [Bool.false_eq_true, if_false]
  refine wpS_of_wp (wp_skip ?_)
  cases c₀
  simp_all [bodyPostS, results, Tryd.results41]
set_option maxRecDepth 100000 in
set_option maxHeartbeats 1000000 in
theorem fault_in (c p : Int) (w : World) (hg : EtD 5 36 83 w) : Calls Tryd.prog 26 #[errV c p] w fun e w' => e = .returned (.agg #[.int .i64 c, .int .i64 p]) ∧ New w w' := by
  have hmf : ∀ (fn : Fn) (first cap : Array Value) (w : World), (Instr.makeFunc fn first cap).run Tryd.prog w = .ok (.func fn first cap) w := fun _ _ _ _ => rfl
  have z1 := heap_alloc_new w (.cells #[.int .i64 0, .int .i64 0] 52)
  have n2 := ((New.refl w).alloc (.cells #[.int .i64 0, .int .i64 0] 52)).alloc (.cells #[.int .i64 5, .int .i64 (-1)] 52)
  have z2 := (((New.refl (w.alloc (.cells #[.int .i64 0, .int .i64 0] 52))).alloc (.cells #[.int .i64 5, .int .i64 (-1)] 52)).block _ (lt_of_block z1)).trans z1
  have HAS := Lib.hid (as_hit c p w.heap.size _ _ _ (hg.stay n2) z2)
  have hf := asW_facts c p w.heap.size _ _ _ z2
  have HF := Lib.hid hf.1
  have HN := Lib.hid (hf.2.2 w n2 (Nat.le_refl _))
  clear hf n2 z1 z2 hg
  go_enter_defers Tryd.func26, Tryd.ntmps26
  go_wp2_with fail
  refine HAS.out.mono ?_
  rintro e w3 ⟨rfl, rfl⟩
  generalize asW ((w.alloc (.cells #[.int .i64 0, .int .i64 0] 52)).alloc (.cells #[.int .i64 5, .int .i64 (-1)] 52)) w.heap.size c p = w3 at *
  have k0 := cell_of_row _ _ 0 _ _ _ HF.out
  have k1 := cell_of_row _ _ 1 _ _ _ HF.out
  have kf := fun i => frozen_of_row _ _ i _ _ HF.out
  clear HAS
  go_wp2
  refine leaves_cons (f := 41) (args := #[.pointer (some ⟨w.heap.size + 1, 0, none⟩), .pointer (some ⟨w.heap.size, 0, none⟩)]) (by simp) (by simp [go_sem]) ?_
  refine (recover_fi _ _ _).mono ?_
  rintro e u' w'' ⟨rfl, rfl, rfl⟩
  simp [Leaves, settle, results, Tryd.results26, go_sem, k0, k1]
  exact (HN.out.setCell (p := ⟨w.heap.size, 0, none⟩) (Nat.le_refl _) _).setCell (p := ⟨w.heap.size, 1, none⟩) (Nat.le_refl _) _
theorem errno_nil (w : World) : Calls Tryd.prog 15 #[.nilIface] w fun e w' => e = .returned (.int .i64 0) ∧ w' = w := by
  go_enter Tryd.func15, Tryd.ntmps15
  go_wp2
  go_ret
  exact ⟨rfl, rfl⟩
theorem errno_err (c p : Int) (w : World) (hg : EtD 5 36 83 w) : Calls Tryd.prog 15 #[errV c p] w fun e w' => e = .returned (.int .i64 c) ∧ New w w' := by
  have hfd : ∀ w, (Instr.field 52 (.agg #[.int .i64 c, .int .i64 p]) 0).run Tryd.prog w = .ok (.int .i64 c) w := fun w => by kernel_rfl
  have HF := Lib.hid (fault_in c p w hg)
  clear hg
  go_enter Tryd.func15, Tryd.ntmps15
  go_wp2_with fail
  refine HF.out.mono ?_
  rintro e w9 ⟨rfl, hn⟩
  have HN := Lib.hid hn
  clear hn
  go_wp2
  go_ret
  exact ⟨rfl, HN.out⟩
theorem at_nil (w : World) : Calls Tryd.prog 16 #[.nilIface] w fun e w' => e = .returned (.int .i64 (-1)) ∧ w' = w := by
  go_enter Tryd.func16, Tryd.ntmps16
  go_wp2
  go_ret
  exact ⟨rfl, rfl⟩
theorem at_err (c p : Int) (w : World) (hg : EtD 5 36 83 w) : Calls Tryd.prog 16 #[errV c p] w fun e w' => e = .returned (.int .i64 p) ∧ New w w' := by
  have hfd : ∀ w, (Instr.field 52 (.agg #[.int .i64 c, .int .i64 p]) 1).run Tryd.prog w = .ok (.int .i64 p) w := fun w => by kernel_rfl
  have HF := Lib.hid (fault_in c p w hg)
  clear hg
  go_enter Tryd.func16, Tryd.ntmps16
  go_wp2_with fail
  refine HF.out.mono ?_
  rintro e w9 ⟨rfl, hn⟩
  have HN := Lib.hid hn
  clear hn
  go_wp2
  go_ret
  exact ⟨rfl, HN.out⟩
end Go.Proofs.YthcolfmjjfjmiaaDoor
