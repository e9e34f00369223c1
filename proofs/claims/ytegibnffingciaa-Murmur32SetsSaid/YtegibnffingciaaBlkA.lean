/- Contracts of layer 28: the document's step; apply. -/
import Derived.Test.YtegibnffingciaaCat
import Derived.Test.YtegibnffingciaaBlkM
import Derived.Test.YtegibnffingciaaGro2
import Derived.Defers
import Derived.Recover
import Derived.Laws.Pointers
import Derived.Handy
import Derived.Laws.EntriesVeiled
namespace Go.Bv
open Go Go.RowKit
theorem two_blocks (w : World) (A B : Obj) : ((w.alloc A).alloc B).heap[w.heap.size]? = some A ∧ ((w.alloc A).alloc B).heap[w.heap.size + 1]? = some B ∧ New w ((w.alloc A).alloc B) := by
  have e1 : (w.alloc A).heap.size = w.heap.size + 1 := by simp
  refine ⟨?_, ?_, ((New.refl w).alloc _).alloc _⟩
  · rw [((New.refl (w.alloc A)).alloc B).block _ (by rw [e1]; omega)]; exact heap_alloc_new _ _
  · rw [← e1]; exact heap_alloc_new _ _
/-- a byte into a number -/
def byt28 (x : BitVec 64) (b : BitVec 8) : BitVec 64 := x * 257#64 + b.setWidth 64 + 1#64
/-- one block more -/
def stp28 (s : BitVec 64 × Int) (l : List (BitVec 8)) : BitVec 64 × Int := (l.foldl byt28 s.1, wrap64 (s.2 + 1))
theorem fold_take (x : BitVec 64) (l : List (BitVec 8)) (k : Nat) (h : k < l.length) : (l.take (k + 1)).foldl byt28 x = byt28 ((l.take k).foldl byt28 x) (l.getD k 0) := by
  rw [List.take_succ_eq_append_getElem h, List.foldl_append]
  simp [List.getD_eq_getElem?_getD, List.getElem?_eq_getElem h]
end Go.Bv
namespace Go.Proofs.Ytegibnffingciaa
open Go.RowKit Go.Bv
set_option linter.unusedVariables false
set_option maxHeartbeats 1000000 in
theorem step_28 (s : BitVec 64 × Int) (a : Option Addr) (n cap : Nat) (l : List (BitVec 8)) (w : World) (h : BRow w a n cap l) :
    Calls Try.prog 20 #[.agg #[.int .u64 (W64 (s.1)), .int .i64 (s.2)], .slice a n cap] w fun e w' => e = .returned (.agg #[.int .u64 (W64 ((stp28 s l).1)), .int .i64 ((stp28 s l).2)]) ∧ New w w' := by
  obtain ⟨x, m⟩ := s
  have hm := h.most
  have hle := h.le
  have hlen := h.len_eq
  have H := Lib.hid h
  have HLEN := Lib.hid hlen
  clear h hlen
  have hz := two_blocks w (.cells #[.int .u64 (W64 x), .int .i64 m] 27) (.cells #[.int .u64 0, .int .i64 0] 27)
  have HZ := Lib.hid hz
  clear hz
  go_enter Try.func20, Try.ntmps20
  go_wp2
  go_loopw [9] (fun i wr => ∃ k : Nat, k ≤ n ∧ i = .int .i64 (k : Int) ∧ wr.heap[w.heap.size]? = some (.cells #[.int .u64 (W64 ((l.take k).foldl byt28 x)), .int .i64 m] 27 (0, 0)) ∧ wr.heap[w.heap.size + 1]? = some (.cells #[.int .u64 0, .int .i64 0] 27 (0, 0)) ∧ New w wr) (fun i _ => n - (intOf i).toNat)
  case atStart => exact ⟨0, by omega, rfl, HZ.out.1, HZ.out.2.1, HZ.out.2.2⟩
  case round =>
    obtain ⟨k, hk, rfl, hb, hr, hn⟩ := hrel
    have k0 := cell_of_row _ _ 0 _ _ _ hb
    have k1 := cell_of_row _ _ 1 _ _ _ hb
    have kf := fun i => frozen_of_row _ _ i _ _ hb
    have HB := Lib.hid hb
    have HR := Lib.hid hr
    have HN := Lib.hid hn
    clear hb hr hn
    by_cases hlt : (k : Int) < (n : Int)
    · obtain ⟨b, off, rfl, hcell⟩ := (H.out.stay HN.out).addr (by omega)
      have hck := hcell k (by omega)
      have HF := Lib.hid (fold_take x l k (by have := HLEN.out; omega))
      have hkc : (k : Int) ≤ (cap : Int) := by omega
      have hk0 : (0 : Int) ≤ (k : Int) := by omega
      clear hcell
      go_wp2
      refine ⟨⟨k + 1, by omega, by go_num, ?_, ?_, HN.out.setCell (by show w.heap.size ≤ w.heap.size; omega) _⟩, by simp [intOf]; omega⟩
      · rw [HF.out]; exact heap_setCell_same _ _ 0 _ _ _ HB.out
      · rw [heap_setCell_other _ _ _ _ (by show w.heap.size + 1 ≠ w.heap.size; omega)]; exact HR.out
    · obtain rfl : k = n := by omega
      have r0 := cell_of_row _ _ 0 _ _ _ HR.out
      have r1 := cell_of_row _ _ 1 _ _ _ HR.out
      have rf := fun i => frozen_of_row _ _ i _ _ HR.out
      have hl : l.take k = l := by rw [List.take_of_length_le]; have := HLEN.out; omega
      rw [hl] at k0
      clear hl
      go_wp2
      refine bodyPost_ret (by simp [results, Try.results20, go_sem, r0, r1]; try rfl) rfl ?_
      exact ⟨rfl, (HN.out.setCell (by show w.heap.size ≤ w.heap.size + 1; omega) _).setCell (by show w.heap.size ≤ w.heap.size + 1; omega) _⟩
theorem recover_28 (w : World) : CallsD Try.prog 165 #[] .returning w fun e u' w' => e = .returned (.tuple #[]) ∧ u' = .returning ∧ w' = w := by
  refine callsD_of_wpS Try.func165 rfl fun c₀ cs hu => ?_
  apply wpS_region
  simp [wpOpsS, go_sem, recoverD, hu, Try.ntmps165, bodyPostS, results, Try.results165]
  cases c₀; simp_all
set_option maxRecDepth 100000 in
set_option maxHeartbeats 1000000 in
theorem apply_28 (s : BitVec 64 × Int) (a : Option Addr) (n cap : Nat) (l : List (BitVec 8)) (w : World) (h : BRow w a n cap l) :
    Calls Try.prog 138 #[(.func (Fn.func 20) #[] #[]), .agg #[.int .u64 (W64 (s.1)), .int .i64 (s.2)], .slice a n cap] w fun e w' => e = .returned (.agg #[.int .u64 (W64 ((stp28 s l).1)), .int .i64 ((stp28 s l).2)]) ∧ New w w' := by
  have hmf : ∀ (fn : Fn) (first cap : Array Value) (w : World), (Instr.makeFunc fn first cap).run Try.prog w = .ok (.func fn first cap) w := fun _ _ _ _ => rfl
  have hnf : ∀ w, (binOp .eql 30 (.func (Fn.func 20) #[] #[]) .nilFunc).run Try.prog w = .ok (.bool false) w := fun _ => rfl
  have HS := Lib.hid (fun w' (hn : New w w') => step_28 s a n cap l w' (h.stay hn))
  clear h
  have hz := two_blocks w (.cells #[.int .u64 (W64 (s.1)), .int .i64 (s.2)] 27) (.cells #[.int .u64 (W64 (s.1)), .int .i64 (s.2)] 27)
  have HZ := Lib.hid hz
  clear hz
  go_enter_defers Try.func138, Try.ntmps138
  go_wp2_with fail
  refine (HS.out _ ?hn).mono ?_
  case hn => exact HZ.out.2.2
  rintro e w3 ⟨rfl, hn⟩
  have hb := (hn.block _ (lt_of_block HZ.out.2.1)).trans HZ.out.2.1
  have k0 := cell_of_row _ _ 0 _ _ _ hb
  have k1 := cell_of_row _ _ 1 _ _ _ hb
  have kf := fun i => frozen_of_row _ _ i _ _ hb
  have HN := Lib.hid (HZ.out.2.2.trans hn)
  clear hb hn HZ
  go_wp2
  refine leaves_cons (f := 165) (args := #[]) (by simp) (by simp [go_sem]) ?_
  refine (recover_28 _).mono ?_
  rintro e u' w'' ⟨rfl, rfl, rfl⟩
  simp [Leaves, settle, results, Try.results138, go_sem, k0, k1]
  exact (HN.out.setCell (by show w.heap.size ≤ w.heap.size + 1; omega) _).setCell (by show w.heap.size ≤ w.heap.size + 1; omega) _
end Go.Proofs.Ytegibnffingciaa
