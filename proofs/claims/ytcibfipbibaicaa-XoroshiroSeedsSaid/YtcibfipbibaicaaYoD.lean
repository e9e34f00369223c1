/- Contracts of xoroshiro.Run, Xor, Zero and of the document's own Steps, for whatever move; what back and step undo. -/
import Derived.Test.YtcibfipbibaicaaYoC
import Derived.Test.YtcibfipbibaicaaXoW
namespace Go.Proofs.Ytcibfipbibaicaa
open Go.RowKit Go.Bv
set_option linter.unusedVariables false
def it2 (f : Q2 → Q2) : Nat → Q2 → Q2
  | 0, q => q
  | k + 1, q => f (it2 f k q)
def cs2 (q : Q2) : Array Value := #[.int .u64 (W64 q.a), .int .u64 (W64 q.b)]
def zs2 : Array Value := #[.int .u64 0, .int .u64 0]
def C2 (w : World) (b : Nat) (q : Q2) : Prop := w.cell? ⟨b, 0, none⟩ = some (.int .u64 (W64 q.a)) ∧ w.cell? ⟨b, 1, none⟩ = some (.int .u64 (W64 q.b))
theorem C2.stay {w w' : World} {b : Nat} {q : Q2} (h : C2 w b q) (hn : New w w') : C2 w' b q := by
  have hb := World.block_lt_of_cell? w _ h.1
  unfold C2
  rw [hn.cell (a := ⟨b, 0, none⟩) hb, hn.cell (a := ⟨b, 1, none⟩) hb]
  exact h
theorem c2_new (w : World) (t : TypeId) (q : Q2) : C2 (w.alloc (.cells (cs2 q) t)) w.heap.size q := by
  unfold C2
  refine ⟨?_, ?_⟩ <;> (rw [World.cell?_alloc_new]; rfl)
theorem row2 {w : World} {g : Nat} {t : TypeId} {q : Q2} (h : w.heap[g]? = some (.cells (cs2 q) t (0, 0))) : C2 w g q := by
  unfold C2
  rw [cell_of_row _ _ _ _ _ _ h, cell_of_row _ _ _ _ _ _ h]
  exact ⟨rfl, rfl⟩
theorem row2z {w : World} {g : Nat} {t : TypeId} (h : w.heap[g]? = some (.cells zs2 t (0, 0))) (i : Nat) (hi : i < 2) : w.cell? ⟨g, i, none⟩ = some (.int .u64 0) := by
  rw [cell_of_row _ _ _ _ _ _ h]
  have hc : i = 0 ∨ i = 1 := by omega
  rcases hc with rfl | rfl <;> rfl
theorem set2 {w : World} {g : Nat} {t : TypeId} {q : Q2} (p : Q2) (h : w.heap[g]? = some (.cells (cs2 q) t (0, 0))) :
    ((w.setCell ⟨g, 0, none⟩ (.int .u64 (W64 p.a))).setCell ⟨g, 1, none⟩ (.int .u64 (W64 p.b))).heap[g]? = some (.cells (cs2 p) t (0, 0)) := by
  have h1 := heap_setCell_same w g 0 _ t (.int .u64 (W64 p.a)) h
  have h2 := heap_setCell_same _ g 1 _ t (.int .u64 (W64 p.b)) h1
  rw [h2]; rfl
theorem set2_other {w : World} {g k : Nat} (p : Q2) (hk : k ≠ g) :
    ((w.setCell ⟨g, 0, none⟩ (.int .u64 (W64 p.a))).setCell ⟨g, 1, none⟩ (.int .u64 (W64 p.b))).heap[k]? = w.heap[k]? := by
  rw [heap_setCell_other _ _ _ _ hk, heap_setCell_other _ _ _ _ hk]
theorem set2_new {W w : World} {g : Nat} (p : Q2) (hn : New W w) (hg : W.heap.size ≤ g) :
    New W ((w.setCell ⟨g, 0, none⟩ (.int .u64 (W64 p.a))).setCell ⟨g, 1, none⟩ (.int .u64 (W64 p.b))) := (hn.setCell hg _).setCell hg _
set_option maxHeartbeats 2000000 in
theorem run2_up (k : Int) (f : Q2 → Q2) (hmv : Mv2 26 k f) (q : Q2) (m : Nat) (hm : m ≤ 300) (w : World) :
    Calls Try.prog 30 #[.int .i64 k, .agg #[.int .u64 (W64 q.a), .int .u64 (W64 q.b)], .int .i64 (m)] w fun e w' => e = .returned (.agg #[.int .u64 (W64 (it2 f m q).a), .int .u64 (W64 (it2 f m q).b)]) ∧ New w w' := by
  obtain ⟨s0, s1⟩ := q
  have HMV := Lib.hid hmv
  clear hmv
  have h1 : ¬ (4096 : Int) < m := by omega
  have h2 : ¬ (m : Int) < 0 := by omega
  go_enter Try.func30, Try.ntmps30
  go_wp2_with fail
  go_loopw [17] (fun i wr => ∃ j : Nat, j ≤ m ∧ i = .int .i64 j ∧ wr.heap[w.heap.size]? = some (.cells (cs2 (it2 f j ⟨s0, s1⟩)) 35 (0, 0)) ∧ wr.heap[w.heap.size + 1]? = some (.cells zs2 35 (0, 0)) ∧ New w wr) (fun i _ => m - (intOf i).toNat)
  case atStart =>
    exact ⟨0, by omega, rfl, heap_alloc2_old _ _ _, heap_alloc2_new _ _ _, ((New.refl w).alloc _).alloc _⟩
  case round =>
    obtain ⟨j, hk, rfl, hb2, hb1, hn⟩ := hrel
    by_cases hlt : (j : Int) < m
    · obtain ⟨c0, c1⟩ := row2 hb2
      have cf := fun i => frozen_of_row wr w.heap.size i _ _ hb2
      go_wp2_with fail
      refine (HMV.out _ _).mono ?_
      rintro e w' ⟨rfl, hn1⟩
      have hb2' : w'.heap[w.heap.size]? = some (.cells (cs2 (it2 f j ⟨s0, s1⟩)) 35 (0, 0)) := by rw [hn1.block _ (lt_of_block hb2)]; exact hb2
      have hb1' : w'.heap[w.heap.size + 1]? = some (.cells zs2 35 (0, 0)) := by rw [hn1.block _ (lt_of_block hb1)]; exact hb1
      have hn' : New w w' := hn.trans hn1
      clear hb1 hb2 hn hn1 c0 c1 cf
      obtain ⟨c0, c1⟩ := row2 hb2'
      have cf := fun i => frozen_of_row w' w.heap.size i _ _ hb2'
      have HB2 := Lib.hid (set2 (f (it2 f j ⟨s0, s1⟩)) hb2')
      have HB1 := Lib.hid hb1'
      have HN := Lib.hid hn'
      clear hb1' hb2' hn'
      go_wp2
      exact ⟨⟨j + 1, by omega, by go_num, HB2.out, by rw [set2_other _ (by omega)]; exact HB1.out, set2_new _ HN.out (by omega)⟩, by simp [intOf]; omega⟩
    · obtain rfl : j = m := by omega
      obtain ⟨c0, c1⟩ := row2 hb2
      have z0 := row2z hb1 0 (by omega)
      have z1 := row2z hb1 1 (by omega)
      have zf := fun i => frozen_of_row wr (w.heap.size + 1) i _ _ hb1
      have HN := Lib.hid hn
      clear hn hb1 hb2
      go_wp2
      refine bodyPost_ret (by simp [results, Try.results30, go_sem, z0, z1]; try rfl) rfl ?_
      exact ⟨rfl, set2_new _ HN.out (by omega)⟩
set_option maxHeartbeats 2000000 in
theorem run2_dn0 (k : Int) (f : Q2 → Q2) (hmv : Mv2 32 k f) (q : Q2) (m : Nat) (hm : m ≤ 300) (hm0 : 0 < m) (w : World) :
    Calls Try.prog 30 #[.int .i64 k, .agg #[.int .u64 (W64 q.a), .int .u64 (W64 q.b)], .int .i64 (-(m : Int))] w fun e w' => e = .returned (.agg #[.int .u64 (W64 (it2 f m q).a), .int .u64 (W64 (it2 f m q).b)]) ∧ New w w' := by
  obtain ⟨s0, s1⟩ := q
  have HMV := Lib.hid hmv
  clear hmv
  have h1 : ¬ (-4096 : Int) > -(m : Int) := by omega
  have h1b : -(m : Int) ≤ 4096 := by omega
  have h2 : -(m : Int) < 0 := by omega
  go_enter Try.func30, Try.ntmps30
  go_wp2_with fail
  go_loopw [17] (fun i wr => ∃ j : Nat, j ≤ m ∧ i = .int .i64 j ∧ wr.heap[w.heap.size]? = some (.cells (cs2 (it2 f j ⟨s0, s1⟩)) 35 (0, 0)) ∧ wr.heap[w.heap.size + 1]? = some (.cells zs2 35 (0, 0)) ∧ New w wr) (fun i _ => m - (intOf i).toNat)
  case atStart =>
    exact ⟨0, by omega, rfl, heap_alloc2_old _ _ _, heap_alloc2_new _ _ _, ((New.refl w).alloc _).alloc _⟩
  case round =>
    obtain ⟨j, hk, rfl, hb2, hb1, hn⟩ := hrel
    by_cases hlt : (j : Int) < m
    · obtain ⟨c0, c1⟩ := row2 hb2
      have cf := fun i => frozen_of_row wr w.heap.size i _ _ hb2
      go_wp2_with fail
      refine (HMV.out _ _).mono ?_
      rintro e w' ⟨rfl, hn1⟩
      have hb2' : w'.heap[w.heap.size]? = some (.cells (cs2 (it2 f j ⟨s0, s1⟩)) 35 (0, 0)) := by rw [hn1.block _ (lt_of_block hb2)]; exact hb2
      have hb1' : w'.heap[w.heap.size + 1]? = some (.cells zs2 35 (0, 0)) := by rw [hn1.block _ (lt_of_block hb1)]; exact hb1
      have hn' : New w w' := hn.trans hn1
      clear hb1 hb2 hn hn1 c0 c1 cf
      obtain ⟨c0, c1⟩ := row2 hb2'
      have cf := fun i => frozen_of_row w' w.heap.size i _ _ hb2'
      have HB2 := Lib.hid (set2 (f (it2 f j ⟨s0, s1⟩)) hb2')
      have HB1 := Lib.hid hb1'
      have HN := Lib.hid hn'
      clear hb1' hb2' hn'
      go_wp2
      exact ⟨⟨j + 1, by omega, by go_num, HB2.out, by rw [set2_other _ (by omega)]; exact HB1.out, set2_new _ HN.out (by omega)⟩, by simp [intOf]; omega⟩
    · obtain rfl : j = m := by omega
      obtain ⟨c0, c1⟩ := row2 hb2
      have z0 := row2z hb1 0 (by omega)
      have z1 := row2z hb1 1 (by omega)
      have zf := fun i => frozen_of_row wr (w.heap.size + 1) i _ _ hb1
      have HN := Lib.hid hn
      clear hn hb1 hb2
      go_wp2
      refine bodyPost_ret (by simp [results, Try.results30, go_sem, z0, z1]; try rfl) rfl ?_
      exact ⟨rfl, set2_new _ HN.out (by omega)⟩
set_option maxHeartbeats 2000000 in
theorem steps2_ref (k : Int) (f : Q2 → Q2) (hmv : Mv2 27 k f) (q : Q2) (m : Nat) (hm : m ≤ 300) (w : World) :
    Calls Try.prog 31 #[.int .i64 k, .agg #[.int .u64 (W64 q.a), .int .u64 (W64 q.b)], .int .i64 (m)] w fun e w' => e = .returned (.agg #[.int .u64 (W64 (it2 f m q).a), .int .u64 (W64 (it2 f m q).b)]) ∧ New w w' := by
  obtain ⟨s0, s1⟩ := q
  have HMV := Lib.hid hmv
  clear hmv
  go_enter Try.func31, Try.ntmps31
  go_wp2_with fail
  go_loopw [7] (fun i wr => ∃ j : Nat, j ≤ m ∧ i = .int .i64 j ∧ wr.heap[w.heap.size]? = some (.cells (cs2 (it2 f j ⟨s0, s1⟩)) 35 (0, 0)) ∧ wr.heap[w.heap.size + 1]? = some (.cells zs2 35 (0, 0)) ∧ New w wr) (fun i _ => m - (intOf i).toNat)
  case atStart =>
    exact ⟨0, by omega, rfl, heap_alloc2_old _ _ _, heap_alloc2_new _ _ _, ((New.refl w).alloc _).alloc _⟩
  case round =>
    obtain ⟨j, hk, rfl, hb2, hb1, hn⟩ := hrel
    by_cases hlt : (j : Int) < m
    · obtain ⟨c0, c1⟩ := row2 hb2
      have cf := fun i => frozen_of_row wr w.heap.size i _ _ hb2
      go_wp2_with fail
      refine (HMV.out _ _).mono ?_
      rintro e w' ⟨rfl, hn1⟩
      have hb2' : w'.heap[w.heap.size]? = some (.cells (cs2 (it2 f j ⟨s0, s1⟩)) 35 (0, 0)) := by rw [hn1.block _ (lt_of_block hb2)]; exact hb2
      have hb1' : w'.heap[w.heap.size + 1]? = some (.cells zs2 35 (0, 0)) := by rw [hn1.block _ (lt_of_block hb1)]; exact hb1
      have hn' : New w w' := hn.trans hn1
      clear hb1 hb2 hn hn1 c0 c1 cf
      obtain ⟨c0, c1⟩ := row2 hb2'
      have cf := fun i => frozen_of_row w' w.heap.size i _ _ hb2'
      have HB2 := Lib.hid (set2 (f (it2 f j ⟨s0, s1⟩)) hb2')
      have HB1 := Lib.hid hb1'
      have HN := Lib.hid hn'
      clear hb1' hb2' hn'
      go_wp2
      exact ⟨⟨j + 1, by omega, by go_num, HB2.out, by rw [set2_other _ (by omega)]; exact HB1.out, set2_new _ HN.out (by omega)⟩, by simp [intOf]; omega⟩
    · obtain rfl : j = m := by omega
      obtain ⟨c0, c1⟩ := row2 hb2
      have z0 := row2z hb1 0 (by omega)
      have z1 := row2z hb1 1 (by omega)
      have zf := fun i => frozen_of_row wr (w.heap.size + 1) i _ _ hb1
      have HN := Lib.hid hn
      clear hn hb1 hb2
      go_wp2
      refine bodyPost_ret (by simp [results, Try.results31, go_sem, z0, z1]; try rfl) rfl ?_
      exact ⟨rfl, set2_new _ HN.out (by omega)⟩
end Go.Proofs.Ytcibfipbibaicaa
