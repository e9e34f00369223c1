/- Contracts of package xoroshiro and of the document's own Step and Out, for each kind. · Contracts of xoroshiro.Step and of the document's own Step, for each kind. · Contracts of xoroshiro.Back, Out and of the document's own Out, for each kind. · States of two words in boxes. -/
import Derived.Test.YtoplabhoedloeaaGreatXoU
import Derived.Deep.RegionHeld3
import Derived.StillTailTactics
import Derived.BigQuiet
namespace Go.Proofs.YtoplabhoedloeaaGreat
open Go.RowKit Go.Bv
set_option linter.unusedVariables false
structure Q2 where
  a : BitVec 64
  b : BitVec 64
def stp (A B C : Nat) (q : Q2) : Q2 := ⟨q.a.rotateLeft A ^^^ (q.a ^^^ q.b) ^^^ (q.a ^^^ q.b) <<< B, (q.a ^^^ q.b).rotateLeft C⟩
def bck (A B C : Nat) (q : Q2) : Q2 := ⟨(q.a ^^^ q.b.rotateLeft C ^^^ q.b.rotateLeft C <<< B).rotateLeft A, q.b.rotateLeft C ^^^ (q.a ^^^ q.b.rotateLeft C ^^^ q.b.rotateLeft C <<< B).rotateLeft A⟩
/-- a move of a state of the kind k -/
def Mv2 (F : FuncId) (k : Int) (f : Q2 → Q2) : Prop := ∀ (q : Q2) (w : World), Calls Tryz.prog F #[.int .i64 k, .agg #[.int .u64 (W64 q.a), .int .u64 (W64 q.b)]] w fun e w' =>
  e = .returned (.agg #[.int .u64 (W64 (f q).a), .int .u64 (W64 (f q).b)]) ∧ New w w'
def Ot2 (F : FuncId) (k : Int) (f : Q2 → BitVec 64) : Prop := ∀ (q : Q2) (w : World), Calls Tryz.prog F #[.int .i64 k, .agg #[.int .u64 (W64 q.a), .int .u64 (W64 q.b)]] w fun e w' =>
  e = .returned (.int .u64 (W64 (f q))) ∧ New w w'
set_option maxHeartbeats 400000 in
theorem shifts_5 (w : World) :
    Calls Tryz.prog 97 #[.int .i64 5] w fun e w' => e = .returned (.tuple #[.agg #[.int .i64 24, .int .i64 16, .int .i64 37], .bool true]) ∧ New w w' := by
  go_enter Tryz.func97, Tryz.ntmps97
  go_wp2
  refine bodyPost_ret (by simp [results, Tryz.results97, go_sem]; try rfl) rfl ?_
  exact ⟨rfl, ((New.refl w).alloc _).alloc _⟩
set_option maxHeartbeats 400000 in
theorem shifts_6 (w : World) :
    Calls Tryz.prog 97 #[.int .i64 6] w fun e w' => e = .returned (.tuple #[.agg #[.int .i64 49, .int .i64 21, .int .i64 28], .bool true]) ∧ New w w' := by
  go_enter Tryz.func97, Tryz.ntmps97
  go_wp2
  refine bodyPost_ret (by simp [results, Tryz.results97, go_sem]; try rfl) rfl ?_
  exact ⟨rfl, ((New.refl w).alloc _).alloc _⟩
set_option maxHeartbeats 400000 in
theorem shifts_o (k : Int) (h5 : (k == 5) = false) (h6 : (k == 6) = false) (w : World) :
    Calls Tryz.prog 97 #[.int .i64 k] w fun e w' => e = .returned (.tuple #[.agg #[.int .i64 0, .int .i64 0, .int .i64 0], .bool false]) ∧ New w w' := by
  go_enter Tryz.func97, Tryz.ntmps97
  go_wp2
  refine bodyPost_ret (by simp [results, Tryz.results97, go_sem]; try rfl) rfl ?_
  exact ⟨rfl, ((New.refl w).alloc _).alloc _⟩
theorem cell_old {w : World} {a : Addr} {v : Value} (h : w.cell? a = some v) (o : Obj) : (w.alloc o).cell? a = some v := by
  rw [World.cell?_alloc_lt _ _ _ (World.block_lt_of_cell? w a h)]; exact h
theorem free_old {w : World} {b : Nat} {j : Nat} {v : Value} (h : w.cell? ⟨b, j, none⟩ = some v) (hf : ∀ i, w.frozen? ⟨b, i, none⟩ = false) (o : Obj) (i : Nat) : (w.alloc o).frozen? ⟨b, i, none⟩ = false := by
  rw [((New.refl w).alloc o).frozen (a := ⟨b, i, none⟩) (World.block_lt_of_cell? w ⟨b, j, none⟩ h)]; exact hf i
theorem f1 {w w' : World} {o : Obj} {cs : Array Value} {t : TypeId} (hn : New ((w.alloc (.cells cs t)).alloc o) w') (i : Nat) : w'.cell? ⟨w.heap.size, i, none⟩ = cs[i]? := by
  rw [hn.cell (a := ⟨w.heap.size, i, none⟩) (by simp; omega)]
  exact cell_of_row _ _ _ cs t (0, 0) (heap_alloc2_old w (.cells cs t) o)
set_option maxRecDepth 100000 in
set_option maxHeartbeats 2000000 in
theorem step_5 : Mv2 57 5 (stp 24 16 37) := by
  intro q w
  obtain ⟨s0, s1⟩ := q
  go_enter Tryz.func57, Tryz.ntmps57
  go_wp2_with fail
  refine (shifts_5 _).mono ?_
  rintro e w' ⟨rfl, hn⟩
  have c0 : w'.cell? ⟨w.heap.size, 0, none⟩ = some (.int .u64 (W64 s0)) := f1 hn 0
  have c1 : w'.cell? ⟨w.heap.size, 1, none⟩ = some (.int .u64 (W64 s1)) := f1 hn 1
  have k0 : w'.cell? ⟨w.heap.size + 1, 0, none⟩ = some (.int .u64 0) := fresh_cell hn 0
  have k1 : w'.cell? ⟨w.heap.size + 1, 1, none⟩ = some (.int .u64 0) := fresh_cell hn 1
  have kf := fresh_free hn
  have hN : New w w' := (((New.refl w).alloc _).alloc _).trans hn
  have g0 := cell_old c0 (.cells #[.int .i64 24, .int .i64 16, .int .i64 37] 118)
  have g1 := cell_old c1 (.cells #[.int .i64 24, .int .i64 16, .int .i64 37] 118)
  have g2 := cell_old k0 (.cells #[.int .i64 24, .int .i64 16, .int .i64 37] 118)
  have g3 := cell_old k1 (.cells #[.int .i64 24, .int .i64 16, .int .i64 37] 118)
  have gf := free_old k0 kf (.cells #[.int .i64 24, .int .i64 16, .int .i64 37] 118)
  have m0 : (w'.alloc (.cells #[.int .i64 24, .int .i64 16, .int .i64 37] 118)).cell? ⟨w'.heap.size, 0, none⟩ = some (.int .i64 24) := by rw [World.cell?_alloc_new]; rfl
  have m1 : (w'.alloc (.cells #[.int .i64 24, .int .i64 16, .int .i64 37] 118)).cell? ⟨w'.heap.size, 1, none⟩ = some (.int .i64 16) := by rw [World.cell?_alloc_new]; rfl
  have m2 : (w'.alloc (.cells #[.int .i64 24, .int .i64 16, .int .i64 37] 118)).cell? ⟨w'.heap.size, 2, none⟩ = some (.int .i64 37) := by rw [World.cell?_alloc_new]; rfl
  have HN := Lib.hid ((hN.alloc (.cells #[.int .i64 24, .int .i64 16, .int .i64 37] 118)).drew)
  clear hN hn c0 c1 k0 k1 kf
  go_wp2_with fail
  generalize w'.heap.size = b5 at m0 m1 m2 ⊢
  generalize w'.alloc (.cells #[.int .i64 24, .int .i64 16, .int .i64 37] 118) = w2 at g0 g1 g2 g3 gf m0 m1 m2 HN ⊢
  refine wp_region_still_tail 17 (by kernel_rfl) (by kernel_rfl) ?_
  change wpStill _ _ w2.drew (fun a' => wpList _ _ _ _ a' w2.drew) _ _
  change w2.drew.cell? _ = _ at g0 g1 g2 g3 m0 m1 m2
  change ∀ i, w2.drew.frozen? _ = _ at gf
  generalize w2.drew = w3 at g0 g1 g2 g3 gf m0 m1 m2 HN ⊢
  simp only [List.take_succ_cons, List.take_zero, List.drop_succ_cons, List.drop_zero]
  repeat (first | still_step | still_call (rot64_any _ (b64 _) _ _))
  refine wpStill_nil ?_
  go_wp2
  refine bodyPost_ret (by simp [results, Tryz.results57, go_sem, g2, g3]; try rfl) rfl ?_
  exact ⟨rfl, (HN.out.setCell (by simp) _).setCell (by simp) _⟩
end Go.Proofs.YtoplabhoedloeaaGreat
namespace Go.Proofs.YtoplabhoedloeaaGreat
open Go.RowKit Go.Bv
set_option linter.unusedVariables false
set_option maxRecDepth 100000
set_option maxHeartbeats 2000000 in
theorem step_6 : Mv2 57 6 (stp 49 21 28) := by
  intro q w
  obtain ⟨s0, s1⟩ := q
  go_enter Tryz.func57, Tryz.ntmps57
  go_wp2_with fail
  refine (shifts_6 _).mono ?_
  rintro e w' ⟨rfl, hn⟩
  have c0 : w'.cell? ⟨w.heap.size, 0, none⟩ = some (.int .u64 (W64 s0)) := f1 hn 0
  have c1 : w'.cell? ⟨w.heap.size, 1, none⟩ = some (.int .u64 (W64 s1)) := f1 hn 1
  have k0 : w'.cell? ⟨w.heap.size + 1, 0, none⟩ = some (.int .u64 0) := fresh_cell hn 0
  have k1 : w'.cell? ⟨w.heap.size + 1, 1, none⟩ = some (.int .u64 0) := fresh_cell hn 1
  have kf := fresh_free hn
  have hN : New w w' := (((New.refl w).alloc _).alloc _).trans hn
  have g0 := cell_old c0 (.cells #[.int .i64 49, .int .i64 21, .int .i64 28] 118)
  have g1 := cell_old c1 (.cells #[.int .i64 49, .int .i64 21, .int .i64 28] 118)
  have g2 := cell_old k0 (.cells #[.int .i64 49, .int .i64 21, .int .i64 28] 118)
  have g3 := cell_old k1 (.cells #[.int .i64 49, .int .i64 21, .int .i64 28] 118)
  have gf := free_old k0 kf (.cells #[.int .i64 49, .int .i64 21, .int .i64 28] 118)
  have m0 : (w'.alloc (.cells #[.int .i64 49, .int .i64 21, .int .i64 28] 118)).cell? ⟨w'.heap.size, 0, none⟩ = some (.int .i64 49) := by rw [World.cell?_alloc_new]; rfl
  have m1 : (w'.alloc (.cells #[.int .i64 49, .int .i64 21, .int .i64 28] 118)).cell? ⟨w'.heap.size, 1, none⟩ = some (.int .i64 21) := by rw [World.cell?_alloc_new]; rfl
  have m2 : (w'.alloc (.cells #[.int .i64 49, .int .i64 21, .int .i64 28] 118)).cell? ⟨w'.heap.size, 2, none⟩ = some (.int .i64 28) := by rw [World.cell?_alloc_new]; rfl
  have HN := Lib.hid ((hN.alloc (.cells #[.int .i64 49, .int .i64 21, .int .i64 28] 118)).drew)
  clear hN hn c0 c1 k0 k1 kf
  go_wp2_with fail
  generalize w'.heap.size = b5 at m0 m1 m2 ⊢
  generalize w'.alloc (.cells #[.int .i64 49, .int .i64 21, .int .i64 28] 118) = w2 at g0 g1 g2 g3 gf m0 m1 m2 HN ⊢
  refine wp_region_still_tail 17 (by kernel_rfl) (by kernel_rfl) ?_
  change wpStill _ _ w2.drew (fun a' => wpList _ _ _ _ a' w2.drew) _ _
  change w2.drew.cell? _ = _ at g0 g1 g2 g3 m0 m1 m2
  change ∀ i, w2.drew.frozen? _ = _ at gf
  generalize w2.drew = w3 at g0 g1 g2 g3 gf m0 m1 m2 HN ⊢
  simp only [List.take_succ_cons, List.take_zero, List.drop_succ_cons, List.drop_zero]
  repeat (first | still_step | still_call (rot64_any _ (b64 _) _ _))
  refine wpStill_nil ?_
  go_wp2
  refine bodyPost_ret (by simp [results, Tryz.results57, go_sem, g2, g3]; try rfl) rfl ?_
  exact ⟨rfl, (HN.out.setCell (by simp) _).setCell (by simp) _⟩
set_option maxHeartbeats 2000000 in
theorem step_o (k : Int) (h5 : (k == 5) = false) (h6 : (k == 6) = false) : Mv2 57 k id := by
  intro q w
  obtain ⟨s0, s1⟩ := q
  go_enter Tryz.func57, Tryz.ntmps57
  go_wp2_with fail
  refine (shifts_o k h5 h6 _).mono ?_
  rintro e w' ⟨rfl, hn⟩
  have c0 : w'.cell? ⟨w.heap.size, 0, none⟩ = some (.int .u64 (W64 s0)) := f1 hn 0
  have c1 : w'.cell? ⟨w.heap.size, 1, none⟩ = some (.int .u64 (W64 s1)) := f1 hn 1
  have k0 : w'.cell? ⟨w.heap.size + 1, 0, none⟩ = some (.int .u64 0) := fresh_cell hn 0
  have k1 : w'.cell? ⟨w.heap.size + 1, 1, none⟩ = some (.int .u64 0) := fresh_cell hn 1
  have kf := fresh_free hn
  have hN : New w w' := (((New.refl w).alloc _).alloc _).trans hn
  have g0 := cell_old c0 (.cells #[.int .i64 0, .int .i64 0, .int .i64 0] 118)
  have g1 := cell_old c1 (.cells #[.int .i64 0, .int .i64 0, .int .i64 0] 118)
  have g2 := cell_old k0 (.cells #[.int .i64 0, .int .i64 0, .int .i64 0] 118)
  have g3 := cell_old k1 (.cells #[.int .i64 0, .int .i64 0, .int .i64 0] 118)
  have gf := free_old k0 kf (.cells #[.int .i64 0, .int .i64 0, .int .i64 0] 118)
  have HN := Lib.hid (hN.alloc (.cells #[.int .i64 0, .int .i64 0, .int .i64 0] 118))
  clear hN hn c0 c1 k0 k1 kf
  go_wp2
  refine bodyPost_ret (by simp [results, Tryz.results57, go_sem, g2, g3]; try rfl) rfl ?_
  exact ⟨rfl, (HN.out.setCell (by simp) _).setCell (by simp) _⟩
theorem mulk_5 (x : BitVec 64) : x * 65536#64 = x <<< 16 := by
  rw [show (65536#64 : BitVec 64) = 1#64 <<< 16 from rfl, mul_shl]
theorem mulk_6 (x : BitVec 64) : x * 2097152#64 = x <<< 21 := by
  rw [show (2097152#64 : BitVec 64) = 1#64 <<< 21 from rfl, mul_shl]
end Go.Proofs.YtoplabhoedloeaaGreat
namespace Go.Proofs.YtoplabhoedloeaaGreat
open Go.RowKit Go.Bv
set_option linter.unusedVariables false
set_option maxRecDepth 100000
theorem ret64_0 : Ending.returned (.int .u64 0) = Ending.returned (.int .u64 (W64 0#64)) := by rw [show W64 0#64 = 0 from W64_lit 0 (by omega)]
set_option maxHeartbeats 1000000 in
theorem out_5 : Ot2 61 5 (fun q => ss9 q.a) := by
  intro q w
  obtain ⟨s0, s1⟩ := q
  go_enter Tryz.func61, Tryz.ntmps61
  go_wp2_with (go_at_call 94; refine (rot64_any _ (b64 _) _ _).mono ?_; rintro e w' ⟨rfl, rfl⟩)
  go_ret
  exact ⟨rfl, (New.refl w).alloc _⟩
set_option maxHeartbeats 1000000 in
theorem out_6 : Ot2 61 6 (fun q => (q.a + q.b).rotateLeft 17 + q.a) := by
  intro q w
  obtain ⟨s0, s1⟩ := q
  go_enter Tryz.func61, Tryz.ntmps61
  go_wp2_with fail
  go_quiet (first | (go_at_call 94; refine Calls.quiet_of_same (rot64_any _ (b64 _) _ _)))
  go_wp2
  go_ret
  exact ⟨rfl, ((New.refl w).alloc _).drewN nq⟩
set_option maxHeartbeats 1000000 in
theorem out_o (k : Int) (h5 : (k == 5) = false) (h6 : (k == 6) = false) : Ot2 61 k (fun _ => 0#64) := by
  intro q w
  obtain ⟨s0, s1⟩ := q
  go_enter Tryz.func61, Tryz.ntmps61
  go_wp2
  go_ret
  exact ⟨ret64_0, (New.refl w).alloc _⟩
end Go.Proofs.YtoplabhoedloeaaGreat
namespace Go.Proofs.YtoplabhoedloeaaGreat
open Go.RowKit Go.Bv
set_option linter.unusedVariables false
def zr2 (q : Q2) : Bool := q.a == 0#64 && q.b == 0#64
def z2 : Q2 := ⟨0#64, 0#64⟩
theorem zr2_iff (q : Q2) : zr2 q = true ↔ q = z2 := by
  obtain ⟨a, b⟩ := q
  simp [zr2, z2]
def cs2 (q : Q2) : Array Value := #[.int .u64 (W64 q.a), .int .u64 (W64 q.b)]
def zs2 : Array Value := #[.int .u64 0, .int .u64 0]
def C2 (w : World) (b : Nat) (q : Q2) : Prop := w.cell? ⟨b, 0, none⟩ = some (.int .u64 (W64 q.a)) ∧ w.cell? ⟨b, 1, none⟩ = some (.int .u64 (W64 q.b))
theorem C2.stay {w w' : World} {b : Nat} {q : Q2} (h : C2 w b q) (hn : New w w') : C2 w' b q := by
  have hb := World.block_lt_of_cell? w _ h.1
  unfold C2
  rw [hn.cell (a := ⟨b, 0, none⟩) hb, hn.cell (a := ⟨b, 1, none⟩) hb]
  exact h
theorem c2_new (w : World) (t : TypeId) (q : Q2) : C2 (w.alloc (.cells (cs2 q) t)) w.heap.size q := by
  unfold C2
  refine ⟨?_, ?_⟩ <;> (rw [World.cell?_alloc_new]; rfl)
theorem row2 {w : World} {g : Nat} {t : TypeId} {q : Q2} (h : w.heap[g]? = some (.cells (cs2 q) t (0, 0))) : C2 w g q := by
  unfold C2
  rw [cell_of_row _ _ _ _ _ _ h, cell_of_row _ _ _ _ _ _ h]
  exact ⟨rfl, rfl⟩
theorem row2z {w : World} {g : Nat} {t : TypeId} (h : w.heap[g]? = some (.cells zs2 t (0, 0))) (i : Nat) (hi : i < 2) : w.cell? ⟨g, i, none⟩ = some (.int .u64 0) := by
  rw [cell_of_row _ _ _ _ _ _ h]
  have hc : i = 0 ∨ i = 1 := by omega
  rcases hc with rfl | rfl <;> rfl
theorem set2 {w : World} {g : Nat} {t : TypeId} {q : Q2} (p : Q2) (h : w.heap[g]? = some (.cells (cs2 q) t (0, 0))) :
    ((w.setCell ⟨g, 0, none⟩ (.int .u64 (W64 p.a))).setCell ⟨g, 1, none⟩ (.int .u64 (W64 p.b))).heap[g]? = some (.cells (cs2 p) t (0, 0)) := by
  have h1 := heap_setCell_same w g 0 _ t (.int .u64 (W64 p.a)) h
  have h2 := heap_setCell_same _ g 1 _ t (.int .u64 (W64 p.b)) h1
  rw [h2]; rfl
theorem set2_other {w : World} {g k : Nat} (p : Q2) (hk : k ≠ g) :
    ((w.setCell ⟨g, 0, none⟩ (.int .u64 (W64 p.a))).setCell ⟨g, 1, none⟩ (.int .u64 (W64 p.b))).heap[k]? = w.heap[k]? := by
  rw [heap_setCell_other _ _ _ _ hk, heap_setCell_other _ _ _ _ hk]
theorem set2_new {W w : World} {g : Nat} (p : Q2) (hn : New W w) (hg : W.heap.size ≤ g) :
    New W ((w.setCell ⟨g, 0, none⟩ (.int .u64 (W64 p.a))).setCell ⟨g, 1, none⟩ (.int .u64 (W64 p.b))) := (hn.setCell hg _).setCell hg _
end Go.Proofs.YtoplabhoedloeaaGreat
