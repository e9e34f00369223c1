/- Contracts of Run of xoshiro and of the document's own Steps; the example of xoshiro (awake). -/
import Derived.Test.YtcibfipbibaicaaXoR
namespace Go.Proofs.Ytcibfipbibaicaa
open Go.RowKit Go.Bv
set_option linter.unusedVariables false
/-- the words of a state -/
def cs4 (q : Q4) : Array Value := #[.int .u64 (W64 q.a), .int .u64 (W64 q.b), .int .u64 (W64 q.c), .int .u64 (W64 q.d)]
theorem row4 {w : World} {g : Nat} {t : TypeId} {q : Q4} (h : w.heap[g]? = some (.cells (cs4 q) t (0, 0))) : C4 w g q.a q.b q.c q.d := by
  unfold C4
  rw [cell_of_row _ _ _ _ _ _ h, cell_of_row _ _ _ _ _ _ h, cell_of_row _ _ _ _ _ _ h, cell_of_row _ _ _ _ _ _ h]
  exact ⟨rfl, rfl, rfl, rfl⟩
/-- a state stored whole -/
theorem set4 {w : World} {g : Nat} {t : TypeId} {q : Q4} (p : Q4) (h : w.heap[g]? = some (.cells (cs4 q) t (0, 0))) :
    ((((w.setCell ⟨g, 0, none⟩ (.int .u64 (W64 p.a))).setCell ⟨g, 1, none⟩ (.int .u64 (W64 p.b))).setCell ⟨g, 2, none⟩ (.int .u64 (W64 p.c))).setCell ⟨g, 3, none⟩ (.int .u64 (W64 p.d))).heap[g]? = some (.cells (cs4 p) t (0, 0)) := by
  have h1 := heap_setCell_same w g 0 _ t (.int .u64 (W64 p.a)) h
  have h2 := heap_setCell_same _ g 1 _ t (.int .u64 (W64 p.b)) h1
  have h3 := heap_setCell_same _ g 2 _ t (.int .u64 (W64 p.c)) h2
  have h4 := heap_setCell_same _ g 3 _ t (.int .u64 (W64 p.d)) h3
  rw [h4]; rfl
theorem set4_other {w : World} {g k : Nat} (p : Q4) (hk : k ≠ g) :
    ((((w.setCell ⟨g, 0, none⟩ (.int .u64 (W64 p.a))).setCell ⟨g, 1, none⟩ (.int .u64 (W64 p.b))).setCell ⟨g, 2, none⟩ (.int .u64 (W64 p.c))).setCell ⟨g, 3, none⟩ (.int .u64 (W64 p.d))).heap[k]? = w.heap[k]? := by
  rw [heap_setCell_other _ _ _ _ hk, heap_setCell_other _ _ _ _ hk, heap_setCell_other _ _ _ _ hk, heap_setCell_other _ _ _ _ hk]
theorem set4_new {W w : World} {g : Nat} (p : Q4) (hn : New W w) (hg : W.heap.size ≤ g) :
    New W ((((w.setCell ⟨g, 0, none⟩ (.int .u64 (W64 p.a))).setCell ⟨g, 1, none⟩ (.int .u64 (W64 p.b))).setCell ⟨g, 2, none⟩ (.int .u64 (W64 p.c))).setCell ⟨g, 3, none⟩ (.int .u64 (W64 p.d))) :=
  (((hn.setCell hg _).setCell hg _).setCell hg _).setCell hg _
def zs4 : Array Value := #[.int .u64 0, .int .u64 0, .int .u64 0, .int .u64 0]
theorem row4z {w : World} {g : Nat} {t : TypeId} (h : w.heap[g]? = some (.cells zs4 t (0, 0))) (i : Nat) (hi : i < 4) : w.cell? ⟨g, i, none⟩ = some (.int .u64 0) := by
  rw [cell_of_row _ _ _ _ _ _ h]
  have hc : i = 0 ∨ i = 1 ∨ i = 2 ∨ i = 3 := by omega
  rcases hc with rfl | rfl | rfl | rfl <;> rfl
theorem alloc3_2 (w : World) (A B C : Obj) : (((w.alloc A).alloc B).alloc C).heap[w.heap.size + 2]? = some C := by
  have h := heap_alloc_new ((w.alloc A).alloc B) C
  rw [show ((w.alloc A).alloc B).heap.size = w.heap.size + 2 by simp] at h
  exact h
theorem alloc3_1 (w : World) (A B C : Obj) : (((w.alloc A).alloc B).alloc C).heap[w.heap.size + 1]? = some B := by
  rw [heap_alloc_old _ _ (h := by simp)]; exact heap_alloc2_new w A B
set_option maxHeartbeats 2000000 in
theorem run_up (q : Q4) (m : Nat) (hm : m ≤ 300) (w : World) :
    Calls Try.prog 19 #[.agg #[.int .u64 (W64 q.a), .int .u64 (W64 q.b), .int .u64 (W64 q.c), .int .u64 (W64 q.d)], .int .i64 (m)] w fun e w' =>
      e = .returned (.agg #[.int .u64 (W64 (it9 st9 m q).a), .int .u64 (W64 (it9 st9 m q).b), .int .u64 (W64 (it9 st9 m q).c), .int .u64 (W64 (it9 st9 m q).d)]) ∧ New w w' := by
  obtain ⟨s0, s1, s2, s3⟩ := q
  have h1 : ¬ (4096 : Int) < m := by omega
  have h2 : ¬ (m : Int) < 0 := by omega
  go_enter Try.func19, Try.ntmps19
  go_wp2_with fail
  go_loopw [17] (fun i wr => ∃ k : Nat, k ≤ m ∧ i = .int .i64 k ∧ wr.heap[w.heap.size + 2]? = some (.cells (cs4 (it9 st9 k ⟨s0, s1, s2, s3⟩)) 44 (0, 0)) ∧ wr.heap[w.heap.size + 1]? = some (.cells (zs4) 23 (0, 0)) ∧ New w wr) (fun i _ => m - (intOf i).toNat)
  case atStart =>
    exact ⟨0, by omega, rfl, alloc3_2 _ _ _ _, alloc3_1 _ _ _ _, (((New.refl w).alloc _).alloc _).alloc _⟩
  case round =>
    obtain ⟨k, hk, rfl, hb2, hb1, hn⟩ := hrel
    by_cases hlt : (k : Int) < m
    · obtain ⟨c0, c1, c2, c3⟩ := row4 hb2
      have cf := fun i => frozen_of_row wr (w.heap.size + 2) i _ _ hb2
      go_wp2_with fail
      refine (step_mv _ _).mono ?_
      rintro e w' ⟨rfl, hn1⟩
      have hb2' : w'.heap[w.heap.size + 2]? = some (.cells (cs4 (it9 st9 k ⟨s0, s1, s2, s3⟩)) 44 (0, 0)) := by rw [hn1.block _ (lt_of_block hb2)]; exact hb2
      have hb1' : w'.heap[w.heap.size + 1]? = some (.cells zs4 23 (0, 0)) := by rw [hn1.block _ (lt_of_block hb1)]; exact hb1
      have hn' : New w w' := hn.trans hn1
      clear hb1 hb2 hn hn1 c0 c1 c2 c3 cf
      obtain ⟨c0, c1, c2, c3⟩ := row4 hb2'
      have cf := fun i => frozen_of_row w' (w.heap.size + 2) i _ _ hb2'
      have HB2 := Lib.hid (set4 (st9 (it9 st9 k ⟨s0, s1, s2, s3⟩)) hb2')
      have HB1 := Lib.hid hb1'
      have HN := Lib.hid hn'
      clear hb1' hb2' hn'
      go_wp2
      exact ⟨⟨k + 1, by omega, by go_num, HB2.out, by rw [set4_other _ (by omega)]; exact HB1.out, set4_new _ HN.out (by omega)⟩, by simp [intOf]; omega⟩
    · obtain rfl : k = m := by omega
      obtain ⟨c0, c1, c2, c3⟩ := row4 hb2
      have z0 := row4z hb1 0 (by omega)
      have z1 := row4z hb1 1 (by omega)
      have z2 := row4z hb1 2 (by omega)
      have z3 := row4z hb1 3 (by omega)
      have zf := fun i => frozen_of_row wr (w.heap.size + 1) i _ _ hb1
      have HN := Lib.hid hn
      clear hn hb1 hb2
      go_wp2
      refine bodyPost_ret (by simp [results, Try.results19, go_sem, z0, z1, z2, z3]; try rfl) rfl ?_
      exact ⟨rfl, set4_new _ HN.out (by omega)⟩
set_option maxHeartbeats 2000000 in
theorem run_dn0 (q : Q4) (m : Nat) (hm : m ≤ 300) (hm0 : 0 < m) (w : World) :
    Calls Try.prog 19 #[.agg #[.int .u64 (W64 q.a), .int .u64 (W64 q.b), .int .u64 (W64 q.c), .int .u64 (W64 q.d)], .int .i64 (-(m : Int))] w fun e w' =>
      e = .returned (.agg #[.int .u64 (W64 (it9 bk9 m q).a), .int .u64 (W64 (it9 bk9 m q).b), .int .u64 (W64 (it9 bk9 m q).c), .int .u64 (W64 (it9 bk9 m q).d)]) ∧ New w w' := by
  obtain ⟨s0, s1, s2, s3⟩ := q
  have h1 : ¬ (-4096 : Int) > -(m : Int) := by omega
  have h1b : -(m : Int) ≤ 4096 := by omega
  have h2 : -(m : Int) < 0 := by omega
  go_enter Try.func19, Try.ntmps19
  go_wp2_with fail
  go_loopw [17] (fun i wr => ∃ k : Nat, k ≤ m ∧ i = .int .i64 k ∧ wr.heap[w.heap.size + 2]? = some (.cells (cs4 (it9 bk9 k ⟨s0, s1, s2, s3⟩)) 44 (0, 0)) ∧ wr.heap[w.heap.size + 1]? = some (.cells (zs4) 23 (0, 0)) ∧ New w wr) (fun i _ => m - (intOf i).toNat)
  case atStart =>
    exact ⟨0, by omega, rfl, alloc3_2 _ _ _ _, alloc3_1 _ _ _ _, (((New.refl w).alloc _).alloc _).alloc _⟩
  case round =>
    obtain ⟨k, hk, rfl, hb2, hb1, hn⟩ := hrel
    by_cases hlt : (k : Int) < m
    · obtain ⟨c0, c1, c2, c3⟩ := row4 hb2
      have cf := fun i => frozen_of_row wr (w.heap.size + 2) i _ _ hb2
      go_wp2_with fail
      refine (back_mv _ _).mono ?_
      rintro e w' ⟨rfl, hn1⟩
      have hb2' : w'.heap[w.heap.size + 2]? = some (.cells (cs4 (it9 bk9 k ⟨s0, s1, s2, s3⟩)) 44 (0, 0)) := by rw [hn1.block _ (lt_of_block hb2)]; exact hb2
      have hb1' : w'.heap[w.heap.size + 1]? = some (.cells zs4 23 (0, 0)) := by rw [hn1.block _ (lt_of_block hb1)]; exact hb1
      have hn' : New w w' := hn.trans hn1
      clear hb1 hb2 hn hn1 c0 c1 c2 c3 cf
      obtain ⟨c0, c1, c2, c3⟩ := row4 hb2'
      have cf := fun i => frozen_of_row w' (w.heap.size + 2) i _ _ hb2'
      have HB2 := Lib.hid (set4 (bk9 (it9 bk9 k ⟨s0, s1, s2, s3⟩)) hb2')
      have HB1 := Lib.hid hb1'
      have HN := Lib.hid hn'
      clear hb1' hb2' hn'
      go_wp2
      exact ⟨⟨k + 1, by omega, by go_num, HB2.out, by rw [set4_other _ (by omega)]; exact HB1.out, set4_new _ HN.out (by omega)⟩, by simp [intOf]; omega⟩
    · obtain rfl : k = m := by omega
      obtain ⟨c0, c1, c2, c3⟩ := row4 hb2
      have z0 := row4z hb1 0 (by omega)
      have z1 := row4z hb1 1 (by omega)
      have z2 := row4z hb1 2 (by omega)
      have z3 := row4z hb1 3 (by omega)
      have zf := fun i => frozen_of_row wr (w.heap.size + 1) i _ _ hb1
      have HN := Lib.hid hn
      clear hn hb1 hb2
      go_wp2
      refine bodyPost_ret (by simp [results, Try.results19, go_sem, z0, z1, z2, z3]; try rfl) rfl ?_
      exact ⟨rfl, set4_new _ HN.out (by omega)⟩
end Go.Proofs.Ytcibfipbibaicaa
