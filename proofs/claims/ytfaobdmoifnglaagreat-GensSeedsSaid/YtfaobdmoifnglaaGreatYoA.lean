/- Contracts of package xoroshiro and of the document's own Step and Out, for each kind. -/
import Derived.Test.YtfaobdmoifnglaaGreatXoB
import Derived.Test.YtfaobdmoifnglaaGreatXoU
import Derived.Deep.RegionHeld3
import Derived.StillTailTactics
import Derived.BigQuiet
namespace Go.Proofs.YtfaobdmoifnglaaGreat
open Go.RowKit Go.Bv
set_option linter.unusedVariables false
structure Q2 where
  a : BitVec 64
  b : BitVec 64
def stp (A B C : Nat) (q : Q2) : Q2 := ⟨q.a.rotateLeft A ^^^ (q.a ^^^ q.b) ^^^ (q.a ^^^ q.b) <<< B, (q.a ^^^ q.b).rotateLeft C⟩
def bck (A B C : Nat) (q : Q2) : Q2 := ⟨(q.a ^^^ q.b.rotateLeft C ^^^ q.b.rotateLeft C <<< B).rotateLeft A, q.b.rotateLeft C ^^^ (q.a ^^^ q.b.rotateLeft C ^^^ q.b.rotateLeft C <<< B).rotateLeft A⟩
/-- a move of a state of the kind k -/
def Mv2 (F : FuncId) (k : Int) (f : Q2 → Q2) : Prop := ∀ (q : Q2) (w : World), Calls Tryz.prog F #[.int .i64 k, .agg #[.int .u64 (W64 q.a), .int .u64 (W64 q.b)]] w fun e w' =>
  e = .returned (.agg #[.int .u64 (W64 (f q).a), .int .u64 (W64 (f q).b)]) ∧ New w w'
def Ot2 (F : FuncId) (k : Int) (f : Q2 → BitVec 64) : Prop := ∀ (q : Q2) (w : World), Calls Tryz.prog F #[.int .i64 k, .agg #[.int .u64 (W64 q.a), .int .u64 (W64 q.b)]] w fun e w' =>
  e = .returned (.int .u64 (W64 (f q))) ∧ New w w'
set_option maxHeartbeats 400000 in
theorem shifts_5 (w : World) :
    Calls Tryz.prog 110 #[.int .i64 5] w fun e w' => e = .returned (.tuple #[.agg #[.int .i64 24, .int .i64 16, .int .i64 37], .bool true]) ∧ New w w' := by
  go_enter Tryz.func110, Tryz.ntmps110
  go_wp2
  refine bodyPost_ret (by simp [results, Tryz.results110, go_sem]; try rfl) rfl ?_
  exact ⟨rfl, ((New.refl w).alloc _).alloc _⟩
set_option maxHeartbeats 400000 in
theorem shifts_6 (w : World) :
    Calls Tryz.prog 110 #[.int .i64 6] w fun e w' => e = .returned (.tuple #[.agg #[.int .i64 49, .int .i64 21, .int .i64 28], .bool true]) ∧ New w w' := by
  go_enter Tryz.func110, Tryz.ntmps110
  go_wp2
  refine bodyPost_ret (by simp [results, Tryz.results110, go_sem]; try rfl) rfl ?_
  exact ⟨rfl, ((New.refl w).alloc _).alloc _⟩
set_option maxHeartbeats 400000 in
theorem shifts_o (k : Int) (h5 : (k == 5) = false) (h6 : (k == 6) = false) (w : World) :
    Calls Tryz.prog 110 #[.int .i64 k] w fun e w' => e = .returned (.tuple #[.agg #[.int .i64 0, .int .i64 0, .int .i64 0], .bool false]) ∧ New w w' := by
  go_enter Tryz.func110, Tryz.ntmps110
  go_wp2
  refine bodyPost_ret (by simp [results, Tryz.results110, go_sem]; try rfl) rfl ?_
  exact ⟨rfl, ((New.refl w).alloc _).alloc _⟩
theorem cell_old {w : World} {a : Addr} {v : Value} (h : w.cell? a = some v) (o : Obj) : (w.alloc o).cell? a = some v := by
  rw [World.cell?_alloc_lt _ _ _ (World.block_lt_of_cell? w a h)]; exact h
theorem free_old {w : World} {b : Nat} {j : Nat} {v : Value} (h : w.cell? ⟨b, j, none⟩ = some v) (hf : ∀ i, w.frozen? ⟨b, i, none⟩ = false) (o : Obj) (i : Nat) : (w.alloc o).frozen? ⟨b, i, none⟩ = false := by
  rw [((New.refl w).alloc o).frozen (a := ⟨b, i, none⟩) (World.block_lt_of_cell? w ⟨b, j, none⟩ h)]; exact hf i
theorem f1 {w w' : World} {o : Obj} {cs : Array Value} {t : TypeId} (hn : New ((w.alloc (.cells cs t)).alloc o) w') (i : Nat) : w'.cell? ⟨w.heap.size, i, none⟩ = cs[i]? := by
  rw [hn.cell (a := ⟨w.heap.size, i, none⟩) (by simp; omega)]
  exact cell_of_row _ _ _ cs t (0, 0) (heap_alloc2_old w (.cells cs t) o)
set_option maxRecDepth 100000 in
set_option maxHeartbeats 2000000 in
theorem step_5 : Mv2 77 5 (stp 24 16 37) := by
  intro q w
  obtain ⟨s0, s1⟩ := q
  go_enter Tryz.func77, Tryz.ntmps77
  go_wp2_with fail
  refine (shifts_5 _).mono ?_
  rintro e w' ⟨rfl, hn⟩
  have c0 : w'.cell? ⟨w.heap.size, 0, none⟩ = some (.int .u64 (W64 s0)) := f1 hn 0
  have c1 : w'.cell? ⟨w.heap.size, 1, none⟩ = some (.int .u64 (W64 s1)) := f1 hn 1
  have k0 : w'.cell? ⟨w.heap.size + 1, 0, none⟩ = some (.int .u64 0) := fresh_cell hn 0
  have k1 : w'.cell? ⟨w.heap.size + 1, 1, none⟩ = some (.int .u64 0) := fresh_cell hn 1
  have kf := fresh_free hn
  have hN : New w w' := (((New.refl w).alloc _).alloc _).trans hn
  have g0 := cell_old c0 (.cells #[.int .i64 24, .int .i64 16, .int .i64 37] 120)
  have g1 := cell_old c1 (.cells #[.int .i64 24, .int .i64 16, .int .i64 37] 120)
  have g2 := cell_old k0 (.cells #[.int .i64 24, .int .i64 16, .int .i64 37] 120)
  have g3 := cell_old k1 (.cells #[.int .i64 24, .int .i64 16, .int .i64 37] 120)
  have gf := free_old k0 kf (.cells #[.int .i64 24, .int .i64 16, .int .i64 37] 120)
  have m0 : (w'.alloc (.cells #[.int .i64 24, .int .i64 16, .int .i64 37] 120)).cell? ⟨w'.heap.size, 0, none⟩ = some (.int .i64 24) := by rw [World.cell?_alloc_new]; rfl
  have m1 : (w'.alloc (.cells #[.int .i64 24, .int .i64 16, .int .i64 37] 120)).cell? ⟨w'.heap.size, 1, none⟩ = some (.int .i64 16) := by rw [World.cell?_alloc_new]; rfl
  have m2 : (w'.alloc (.cells #[.int .i64 24, .int .i64 16, .int .i64 37] 120)).cell? ⟨w'.heap.size, 2, none⟩ = some (.int .i64 37) := by rw [World.cell?_alloc_new]; rfl
  have HN := Lib.hid ((hN.alloc (.cells #[.int .i64 24, .int .i64 16, .int .i64 37] 120)).drew)
  clear hN hn c0 c1 k0 k1 kf
  go_wp2_with fail
  generalize w'.heap.size = b5 at m0 m1 m2 ⊢
  generalize w'.alloc (.cells #[.int .i64 24, .int .i64 16, .int .i64 37] 120) = w2 at g0 g1 g2 g3 gf m0 m1 m2 HN ⊢
  refine wp_region_still_tail 17 (by kernel_rfl) (by kernel_rfl) ?_
  change wpStill _ _ w2.drew (fun a' => wpList _ _ _ _ a' w2.drew) _ _
  change w2.drew.cell? _ = _ at g0 g1 g2 g3 m0 m1 m2
  change ∀ i, w2.drew.frozen? _ = _ at gf
  generalize w2.drew = w3 at g0 g1 g2 g3 gf m0 m1 m2 HN ⊢
  simp only [List.take_succ_cons, List.take_zero, List.drop_succ_cons, List.drop_zero]
  repeat (first | still_step | still_call (rot64_any _ (b64 _) _ _))
  refine wpStill_nil ?_
  go_wp2
  refine bodyPost_ret (by simp [results, Tryz.results77, go_sem, g2, g3]; try rfl) rfl ?_
  exact ⟨rfl, (HN.out.setCell (by simp) _).setCell (by simp) _⟩
end Go.Proofs.YtfaobdmoifnglaaGreat
