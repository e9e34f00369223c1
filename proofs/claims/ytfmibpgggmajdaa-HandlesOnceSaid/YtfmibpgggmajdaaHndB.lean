/- Contracts of layer 48: the example. -/
import Derived.Test.YtfmibpgggmajdaaHndA
import Derived.Test.YtfmibpgggmajdaaRowQ
import Derived.OneCell
import Derived.Test.YtfmibpgggmajdaaClass
import Derived.Laws.MakeOwn
namespace Go.Proofs.Ytfmibpgggmajdaa
open Go.RowKit Go.Bv
set_option linter.unusedVariables false
theorem new_two (w : World) : Calls Try.prog 7 #[.int .i64 2] w fun e w' => e = .returned (.pointer (some ⟨w.heap.size + 1, 0, none⟩)) ∧ w'.heap[w.heap.size]? = some (.cells #[.int .i64 0, .bool false, .int .u64 0, .int .i64 0, .bool false, .int .u64 0] 55) ∧ w'.heap[w.heap.size + 1]? = some (.cells #[.slice (some ⟨w.heap.size, 0, none⟩) 2 2] 49) ∧ New w w' := by
  have hmk : ∀ w : World, (Instr.makeSlice 47 (.int .i64 2) (.int .i64 2)).run Try.prog w = .ok (.slice (some ⟨w.heap.size, 0, none⟩) 2 2) (w.alloc (.cells #[.int .i64 0, .bool false, .int .u64 0, .int .i64 0, .bool false, .int .u64 0] 55)) := fun w => by kernel_rfl
  go_enter Try.func7, Try.ntmps7
  go_wp2
  go_ret
  have e1 : (w.alloc (.cells #[.int .i64 0, .bool false, .int .u64 0, .int .i64 0, .bool false, .int .u64 0] 55)).heap.size = w.heap.size + 1 := by simp
  refine ⟨rfl, ?_, ?_, ((New.refl w).alloc _).alloc _⟩
  · exact (((New.refl _).alloc _).block _ (by rw [e1]; omega)).trans (heap_alloc_new _ _)
  · rw [← e1]; exact heap_alloc_new _ _
theorem made_at (b tb : Nat) (n s : Int) (t : Bool) (w : World) (hb : w.heap[b]? = some (.cells #[.int .i64 n, .bool t, .int .u64 s, .int .i64 0, .bool false, .int .u64 0] 55)) (ht : w.heap[tb]? = some (.cells #[.slice (some ⟨b, 0, none⟩) 2 2] 49)) : Calls Try.prog 21 #[(.pointer (some ⟨tb, 0, none⟩))] w fun e w' => e = .returned (.bool true) ∧ w' = w := by
  have q0 := cell_of_row _ _ 0 _ _ _ ht
  clear hb ht
  go_enter Try.func21, Try.ntmps21
  go_wp2
  go_ret
  exact ⟨rfl, rfl⟩
theorem put1_at (i n s : Int) (t : Bool) (w : World) : Calls Try.prog 25 #[.int .i64 i, .agg #[.int .i64 n, .bool t, .int .u64 s]] w fun e w' => e = .returned (.bool (!t)) ∧ New w w' := by
  go_enter Try.func25, Try.ntmps25
  go_wp2
  go_ret
  exact ⟨rfl, (New.refl _).alloc _⟩
theorem search_put (b tb : Nat) (n s : Int) (w : World) (hb : w.heap[b]? = some (.cells #[.int .i64 n, .bool false, .int .u64 s, .int .i64 0, .bool false, .int .u64 0] 55)) (ht : w.heap[tb]? = some (.cells #[.slice (some ⟨b, 0, none⟩) 2 2] 49)) : Calls Try.prog 24 #[(.pointer (some ⟨tb, 0, none⟩)), .func (Fn.func 25) #[] #[]] w fun e w' => e = .returned (.tuple #[.pointer (some ⟨b, 0, none⟩), .int .i64 0]) ∧ New w w' := by
  have HP := Lib.hid (put1_at 0 n s false w)
  have HB := Lib.hid hb
  have HT := Lib.hid ht
  have q0 := cell_of_row _ _ 0 _ _ _ ht
  have p0 := cell_of_row _ _ 0 _ _ _ hb
  have p1 := cell_of_row _ _ 1 _ _ _ hb
  have p2 := cell_of_row _ _ 2 _ _ _ hb
  have p3 := cell_of_row _ _ 3 _ _ _ hb
  have p4 := cell_of_row _ _ 4 _ _ _ hb
  have p5 := cell_of_row _ _ 5 _ _ _ hb
  clear hb ht
  go_enter Try.func24, Try.ntmps24
  go_wp2
  go_loop [6, 12] (fun _ I => I = .int .i64 0) (fun _ _ => 0)
  case atStart => rfl
  case round =>
    subst hrel
    go_wp2_with fail
    refine (HP.out).mono ?_
    rintro e w1 ⟨rfl, hn⟩
    have HN := Lib.hid hn
    have q0 := cell_of_row _ _ 0 _ _ _ ((hn.block _ (lt_of_block HT.out)).trans HT.out)
    clear hn
    go_wp2
    go_ret2
    exact ⟨rfl, HN.out⟩
theorem handle_1 (n : Int) (t : Bool) (w : World) : Calls Try.prog 22 #[.agg #[.int .i64 n, .bool t, .int .u64 1], .int .i64 0] w fun e w' => e = .returned (.int .u64 16) ∧ New w w' := by
  go_enter Try.func22, Try.ntmps22
  go_wp2
  go_ret
  exact ⟨rfl, (New.refl _).alloc _⟩
theorem handle_2 (n : Int) (t : Bool) (w : World) : Calls Try.prog 22 #[.agg #[.int .i64 n, .bool t, .int .u64 2], .int .i64 0] w fun e w' => e = .returned (.int .u64 32) ∧ New w w' := by
  go_enter Try.func22, Try.ntmps22
  go_wp2
  go_ret
  exact ⟨rfl, (New.refl _).alloc _⟩
set_option maxHeartbeats 1000000 in
theorem find1_at (g : Nat) (w : World) (hh : w.heap[g]? = some (.cells #[.int .u64 16] 28)) : Calls Try.prog 29 #[.int .i64 0, .agg #[.int .i64 5, .bool true, .int .u64 1], .pointer (some ⟨g, 0, none⟩)] w fun e w' => e = .returned (.bool true) ∧ New w w' := by
  have HD := Lib.hid (fun w => handle_1 5 true w)
  have hx0 := heap_alloc_new w (.cells #[.int .i64 5, .bool true, .int .u64 1] 55)
  have hn0 := (New.refl w).alloc (.cells #[.int .i64 5, .bool true, .int .u64 1] 55)
  obtain ⟨w0, hw0⟩ : ∃ w0, w.alloc (.cells #[.int .i64 5, .bool true, .int .u64 1] 55) = w0 := ⟨_, rfl⟩
  rw [hw0] at hx0 hn0
  obtain ⟨q, hq⟩ : ∃ q, w.heap.size = q := ⟨_, rfl⟩
  rw [hq] at hx0
  have HX := Lib.hid hx0
  have HN := Lib.hid hn0
  have HH := Lib.hid ((hn0.block _ (lt_of_block hh)).trans hh)
  have HE := Lib.hid (show w.alloc (.cells #[.int .i64 5, .bool true, .int .u64 1] 55) = w0 ∧ w.heap.size = q from ⟨hw0, hq⟩)
  clear hx0 hn0 hh hw0 hq
  go_enter Try.func29, Try.ntmps29
  go_wp2_with (rw [HE.out.1, HE.out.2])
  refine wp_region_class (fun w' => (w'.heap[q]? = some (.cells #[.int .i64 5, .bool true, .int .u64 1] 55) ∧ w'.heap[g]? = some (.cells #[.int .u64 16] 28)) ∧ New w0 w') (by kernel_rfl) (by kernel_rfl) ⟨⟨((New.refl w0).drew.block _ (lt_of_block HX.out)).trans HX.out, ((New.refl w0).drew.block _ (lt_of_block HH.out)).trans HH.out⟩, (New.refl _).drew⟩ ?_
  intro I _ f hall hback
  have HSTEP : Hid (∀ n w', New (f n) w' → ∃ m, w' = f m) := Lib.hid fun n w' hn => hback w' ⟨⟨(hn.block _ (lt_of_block ((hall n).1.1))).trans ((hall n).1.1), (hn.block _ (lt_of_block ((hall n).1.2))).trans ((hall n).1.2)⟩, (hall n).2.trans hn⟩
  have HALL := Lib.hid fun n => (hall n).2
  have s0 := fun n => cell_of_row _ _ 0 _ _ _ ((hall n).1.1)
  have s1 := fun n => cell_of_row _ _ 1 _ _ _ ((hall n).1.1)
  have s2 := fun n => cell_of_row _ _ 2 _ _ _ ((hall n).1.1)
  have s3 := fun n => cell_of_row _ _ 0 _ _ _ ((hall n).1.2)
  clear hall hback
  repeat (go_big_quiet_step (first
    | (go_at_call 22; refine class_new HSTEP.out (HD.out _))))
  refine wpQuiet_nil ?_
  rintro w9 ⟨n1, hw1⟩
  have hS := HALL.out n1
  rw [← hw1] at hS
  replace HX := Lib.hid ((hS.block _ (lt_of_block HX.out)).trans HX.out)
  replace HH := Lib.hid ((hS.block _ (lt_of_block HH.out)).trans HH.out)
  replace HN := Lib.hid (HN.out.trans hS)
  clear HALL HSTEP hw1 hS s0 s1 s2 s3
  go_wp2
  go_ret
  exact ⟨rfl, HN.out⟩

theorem search_find (b tb g : Nat) (w : World) (hb : w.heap[b]? = some (.cells #[.int .i64 5, .bool true, .int .u64 1, .int .i64 0, .bool false, .int .u64 0] 55)) (ht : w.heap[tb]? = some (.cells #[.slice (some ⟨b, 0, none⟩) 2 2] 49)) (hh : w.heap[g]? = some (.cells #[.int .u64 16] 28)) : Calls Try.prog 24 #[(.pointer (some ⟨tb, 0, none⟩)), .func (Fn.func 29) #[] #[.pointer (some ⟨g, 0, none⟩)]] w fun e w' => e = .returned (.tuple #[.pointer (some ⟨b, 0, none⟩), .int .i64 0]) ∧ New w w' := by
  have HP := Lib.hid (find1_at g w hh)
  have HT := Lib.hid ht
  have q0 := cell_of_row _ _ 0 _ _ _ ht
  have p0 := cell_of_row _ _ 0 _ _ _ hb
  have p1 := cell_of_row _ _ 1 _ _ _ hb
  have p2 := cell_of_row _ _ 2 _ _ _ hb
  have p3 := cell_of_row _ _ 3 _ _ _ hb
  have p4 := cell_of_row _ _ 4 _ _ _ hb
  have p5 := cell_of_row _ _ 5 _ _ _ hb
  clear hb ht hh
  go_enter Try.func24, Try.ntmps24
  go_wp2
  go_loop [6, 12] (fun _ I => I = .int .i64 0) (fun _ _ => 0)
  case atStart => rfl
  case round =>
    subst hrel
    go_wp2_with fail
    refine (HP.out).mono ?_
    rintro e w1 ⟨rfl, hn⟩
    have HN := Lib.hid hn
    have q0 := cell_of_row _ _ 0 _ _ _ ((hn.block _ (lt_of_block HT.out)).trans HT.out)
    clear hn
    go_wp2
    go_ret2
    exact ⟨rfl, HN.out⟩
set_option maxHeartbeats 1000000 in
theorem find_at (b tb : Nat) (w : World) (hb : w.heap[b]? = some (.cells #[.int .i64 5, .bool true, .int .u64 1, .int .i64 0, .bool false, .int .u64 0] 55)) (ht : w.heap[tb]? = some (.cells #[.slice (some ⟨b, 0, none⟩) 2 2] 49)) : Calls Try.prog 26 #[(.pointer (some ⟨tb, 0, none⟩)), .int .u64 16] w fun e w' => e = .returned (.tuple #[.pointer (some ⟨b, 0, none⟩), .int .i64 0]) ∧ New w w' := by
  have hmf : ∀ (fn : Fn) (first cap : Array Value) (w : World), (Instr.makeFunc fn first cap).run Try.prog w = .ok (.func fn first cap) w := fun _ _ _ _ => rfl
  have hx0 := heap_alloc_new w (.cells #[.int .u64 16] 28)
  have hn0 := (New.refl w).alloc (.cells #[.int .u64 16] 28)
  have hb0 := (hn0.block _ (lt_of_block hb)).trans hb
  have ht0 := (hn0.block _ (lt_of_block ht)).trans ht
  obtain ⟨w0, hw0⟩ : ∃ w0, w.alloc (.cells #[.int .u64 16] 28) = w0 := ⟨_, rfl⟩
  rw [hw0] at hx0 hn0 hb0 ht0
  obtain ⟨q, hq⟩ : ∃ q, w.heap.size = q := ⟨_, rfl⟩
  rw [hq] at hx0
  have HM := Lib.hid (made_at b tb 5 1 true w0 hb0 ht0)
  have HS := Lib.hid (search_find b tb q w0 hb0 ht0 hx0)
  have HN := Lib.hid hn0
  have HE := Lib.hid (show w.alloc (.cells #[.int .u64 16] 28) = w0 ∧ w.heap.size = q from ⟨hw0, hq⟩)
  clear hx0 hn0 hb0 ht0 hb ht hw0 hq
  go_enter Try.func26, Try.ntmps26
  go_wp2_with (rw [HE.out.1, HE.out.2])
  refine (HM.out).mono ?_
  rintro e w1 ⟨rfl, rfl⟩
  go_wp2_with fail
  refine (HS.out).mono ?_
  rintro e w2 ⟨rfl, hn⟩
  have HN2 := Lib.hid (HN.out.trans hn)
  clear hn
  go_wp2
  go_ret2
  exact ⟨rfl, HN2.out⟩
end Go.Proofs.Ytfmibpgggmajdaa
