import Derived.Test.YtfaobdmoifnglaaGreatZXoA
import Derived.Test.YtfaobdmoifnglaaGreatZLqB
import Derived.Deep.RegionHeld3
import Derived.Deep.RegionWith
import Derived.StillTailTactics
import Derived.BigQuiet
/- Contracts of xoshiro.Step and xoshiro.Xor on states of four words. · Contracts of xoroshiro.Step, Xor and of the document's own Step on states of two words, for each kind; the document's own Step on four words. -/
namespace Go.Proofs.YtfaobdmoifnglaaGreat
open Go Go.RowKit Go.Bv Go.G2
set_option linter.unusedVariables false
theorem fresh_cellL {w w' : World} {o : Obj} {cs : Array Value} {t : TypeId} (hn : New ((w.alloc o).alloc (.cells cs t)) w') (i : Nat) : w'.cell? ⟨w.heap.size + 1, i, none⟩ = cs[i]? := by
  rw [hn.cell (a := ⟨w.heap.size + 1, i, none⟩) (by simp)]
  exact cell_of_row _ _ _ cs t (0, 0) (heap_alloc2_new w o (.cells cs t))
theorem fresh_freeL {w w' : World} {o : Obj} {cs : Array Value} {t : TypeId} (hn : New ((w.alloc o).alloc (.cells cs t)) w') (i : Nat) : w'.frozen? ⟨w.heap.size + 1, i, none⟩ = false := by
  rw [hn.frozen (a := ⟨w.heap.size + 1, i, none⟩) (by simp)]
  exact frozen_of_row _ _ _ cs t (heap_alloc2_new w o (.cells cs t))
set_option maxHeartbeats 400000 in
theorem step_any9L (s0 s1 s2 s3 : BitVec 64) (w : World) :
    Calls Tryz.prog 108 #[.agg #[.int .u64 (W64 s0), .int .u64 (W64 s1), .int .u64 (W64 s2), .int .u64 (W64 s3)]] w fun e w' =>
      e = .returned (.agg #[.int .u64 (W64 (s0 ^^^ (s3 ^^^ s1))), .int .u64 (W64 (s1 ^^^ (s2 ^^^ s0))), .int .u64 (W64 ((s2 ^^^ s0) ^^^ s1 <<< 17)), .int .u64 (W64 ((s3 ^^^ s1).rotateLeft 45))]) ∧ New w w' := by
  go_enter Tryz.func108, Tryz.ntmps108
  go_wp2_with fail
  refine (step_m _ _ _ _ _).mono ?_
  rintro e w' ⟨rfl, hn⟩
  have k0 : w'.cell? ⟨w.heap.size + 1, 0, none⟩ = some (.int .u64 0) := fresh_cellL hn 0
  have k1 : w'.cell? ⟨w.heap.size + 1, 1, none⟩ = some (.int .u64 0) := fresh_cellL hn 1
  have k2 : w'.cell? ⟨w.heap.size + 1, 2, none⟩ = some (.int .u64 0) := fresh_cellL hn 2
  have k3 : w'.cell? ⟨w.heap.size + 1, 3, none⟩ = some (.int .u64 0) := fresh_cellL hn 3
  have kf := fresh_freeL hn
  have hN : New w w' := (((New.refl w).alloc _).alloc _).trans hn
  have HN := Lib.hid hN
  clear hN hn
  go_wp2
  refine bodyPost_ret (by simp [results, Tryz.results108, go_sem, k0, k1, k2, k3]; try rfl) rfl ?_
  exact ⟨rfl, (((HN.out.setCell (by simp) _).setCell (by simp) _).setCell (by simp) _).setCell (by simp) _⟩
set_option maxRecDepth 100000 in
theorem step4_q (q : V4) (w : World) : Calls Tryz.prog 108 #[.agg #[.int .u64 (W64 q.a), .int .u64 (W64 q.b), .int .u64 (W64 q.c), .int .u64 (W64 q.d)]] w fun e w' => e = .returned (.agg #[.int .u64 (W64 (stV4 q).a), .int .u64 (W64 (stV4 q).b), .int .u64 (W64 (stV4 q).c), .int .u64 (W64 (stV4 q).d)]) ∧ New w w' := by
  have h := step_any9L q.a q.b q.c q.d w
  obtain ⟨a, b, c, d⟩ := q
  exact h
set_option maxRecDepth 100000 in
set_option maxHeartbeats 1000000 in
theorem xor_mv (p q : V4) (w : World) :
    Calls Tryz.prog 160 #[.agg #[.int .u64 (W64 p.a), .int .u64 (W64 p.b), .int .u64 (W64 p.c), .int .u64 (W64 p.d)], .agg #[.int .u64 (W64 q.a), .int .u64 (W64 q.b), .int .u64 (W64 q.c), .int .u64 (W64 q.d)]] w fun e w' => e = .returned (.agg #[.int .u64 (W64 (xV4 p q).a), .int .u64 (W64 (xV4 p q).b), .int .u64 (W64 (xV4 p q).c), .int .u64 (W64 (xV4 p q).d)]) ∧ New w w' := by
  obtain ⟨s0, s1, s2, s3⟩ := p
  obtain ⟨t0, t1, t2, t3⟩ := q
  have i0 : ∀ w, (Instr.index 23 (.agg #[.int .u64 (W64 t0), .int .u64 (W64 t1), .int .u64 (W64 t2), .int .u64 (W64 t3)]) (.int .i64 0)).run Tryz.prog w = .ok (.int .u64 (W64 t0)) w := fun w => rfl
  have i1 : ∀ w, (Instr.index 23 (.agg #[.int .u64 (W64 t0), .int .u64 (W64 t1), .int .u64 (W64 t2), .int .u64 (W64 t3)]) (.int .i64 1)).run Tryz.prog w = .ok (.int .u64 (W64 t1)) w := fun w => rfl
  have i2 : ∀ w, (Instr.index 23 (.agg #[.int .u64 (W64 t0), .int .u64 (W64 t1), .int .u64 (W64 t2), .int .u64 (W64 t3)]) (.int .i64 2)).run Tryz.prog w = .ok (.int .u64 (W64 t2)) w := fun w => rfl
  have i3 : ∀ w, (Instr.index 23 (.agg #[.int .u64 (W64 t0), .int .u64 (W64 t1), .int .u64 (W64 t2), .int .u64 (W64 t3)]) (.int .i64 3)).run Tryz.prog w = .ok (.int .u64 (W64 t3)) w := fun w => rfl
  go_enter Tryz.func160, Tryz.ntmps160
  go_wp2
  go_rounds 5
  go_returns
  exact ⟨rfl, (((New.refl w).alloc _).alloc _).alloc _⟩
end Go.Proofs.YtfaobdmoifnglaaGreat
namespace Go.Proofs.YtfaobdmoifnglaaGreat
open Go Go.RowKit Go.Bv Go.G2
set_option linter.unusedVariables false
/-- a move of a state of the kind k -/
def MvV2 (F : FuncId) (k : Int) (f : V2 → V2) : Prop := ∀ (q : V2) (w : World), Calls Tryz.prog F #[.int .i64 k, .agg #[.int .u64 (W64 q.a), .int .u64 (W64 q.b)]] w fun e w' =>
  e = .returned (.agg #[.int .u64 (W64 (f q).a), .int .u64 (W64 (f q).b)]) ∧ New w w'
set_option maxHeartbeats 400000 in
theorem shifts_5L (w : World) :
    Calls Tryz.prog 110 #[.int .i64 5] w fun e w' => e = .returned (.tuple #[.agg #[.int .i64 24, .int .i64 16, .int .i64 37], .bool true]) ∧ New w w' := by
  go_enter Tryz.func110, Tryz.ntmps110
  go_wp2
  refine bodyPost_ret (by simp [results, Tryz.results110, go_sem]; try rfl) rfl ?_
  exact ⟨rfl, ((New.refl w).alloc _).alloc _⟩
set_option maxHeartbeats 400000 in
theorem shifts_6L (w : World) :
    Calls Tryz.prog 110 #[.int .i64 6] w fun e w' => e = .returned (.tuple #[.agg #[.int .i64 49, .int .i64 21, .int .i64 28], .bool true]) ∧ New w w' := by
  go_enter Tryz.func110, Tryz.ntmps110
  go_wp2
  refine bodyPost_ret (by simp [results, Tryz.results110, go_sem]; try rfl) rfl ?_
  exact ⟨rfl, ((New.refl w).alloc _).alloc _⟩
set_option maxHeartbeats 400000 in
theorem shifts_oL (k : Int) (h5 : (k == 5) = false) (h6 : (k == 6) = false) (w : World) :
    Calls Tryz.prog 110 #[.int .i64 k] w fun e w' => e = .returned (.tuple #[.agg #[.int .i64 0, .int .i64 0, .int .i64 0], .bool false]) ∧ New w w' := by
  go_enter Tryz.func110, Tryz.ntmps110
  go_wp2
  refine bodyPost_ret (by simp [results, Tryz.results110, go_sem]; try rfl) rfl ?_
  exact ⟨rfl, ((New.refl w).alloc _).alloc _⟩
theorem cell_oldL {w : World} {a : Addr} {v : Value} (h : w.cell? a = some v) (o : Obj) : (w.alloc o).cell? a = some v := by
  rw [World.cell?_alloc_lt _ _ _ (World.block_lt_of_cell? w a h)]; exact h
theorem free_oldL {w : World} {b : Nat} {j : Nat} {v : Value} (h : w.cell? ⟨b, j, none⟩ = some v) (hf : ∀ i, w.frozen? ⟨b, i, none⟩ = false) (o : Obj) (i : Nat) : (w.alloc o).frozen? ⟨b, i, none⟩ = false := by
  rw [((New.refl w).alloc o).frozen (a := ⟨b, i, none⟩) (World.block_lt_of_cell? w ⟨b, j, none⟩ h)]; exact hf i
theorem f1L {w w' : World} {o : Obj} {cs : Array Value} {t : TypeId} (hn : New ((w.alloc (.cells cs t)).alloc o) w') (i : Nat) : w'.cell? ⟨w.heap.size, i, none⟩ = cs[i]? := by
  rw [hn.cell (a := ⟨w.heap.size, i, none⟩) (by simp; omega)]
  exact cell_of_row _ _ _ cs t (0, 0) (heap_alloc2_old w (.cells cs t) o)
set_option maxRecDepth 100000 in
set_option maxHeartbeats 2000000 in
theorem step_5L : MvV2 77 5 (stV2 24 16 37) := by
  intro q w
  obtain ⟨s0, s1⟩ := q
  go_enter Tryz.func77, Tryz.ntmps77
  go_wp2_with fail
  refine (shifts_5L _).mono ?_
  rintro e w' ⟨rfl, hn⟩
  have c0 : w'.cell? ⟨w.heap.size, 0, none⟩ = some (.int .u64 (W64 s0)) := f1L hn 0
  have c1 : w'.cell? ⟨w.heap.size, 1, none⟩ = some (.int .u64 (W64 s1)) := f1L hn 1
  have k0 : w'.cell? ⟨w.heap.size + 1, 0, none⟩ = some (.int .u64 0) := fresh_cellL hn 0
  have k1 : w'.cell? ⟨w.heap.size + 1, 1, none⟩ = some (.int .u64 0) := fresh_cellL hn 1
  have kf := fresh_freeL hn
  have hN : New w w' := (((New.refl w).alloc _).alloc _).trans hn
  have g0 := cell_oldL c0 (.cells #[.int .i64 24, .int .i64 16, .int .i64 37] 120)
  have g1 := cell_oldL c1 (.cells #[.int .i64 24, .int .i64 16, .int .i64 37] 120)
  have g2 := cell_oldL k0 (.cells #[.int .i64 24, .int .i64 16, .int .i64 37] 120)
  have g3 := cell_oldL k1 (.cells #[.int .i64 24, .int .i64 16, .int .i64 37] 120)
  have gf := free_oldL k0 kf (.cells #[.int .i64 24, .int .i64 16, .int .i64 37] 120)
  have m0 : (w'.alloc (.cells #[.int .i64 24, .int .i64 16, .int .i64 37] 120)).cell? ⟨w'.heap.size, 0, none⟩ = some (.int .i64 24) := by rw [World.cell?_alloc_new]; rfl
  have m1 : (w'.alloc (.cells #[.int .i64 24, .int .i64 16, .int .i64 37] 120)).cell? ⟨w'.heap.size, 1, none⟩ = some (.int .i64 16) := by rw [World.cell?_alloc_new]; rfl
  have m2 : (w'.alloc (.cells #[.int .i64 24, .int .i64 16, .int .i64 37] 120)).cell? ⟨w'.heap.size, 2, none⟩ = some (.int .i64 37) := by rw [World.cell?_alloc_new]; rfl
  have HN := Lib.hid ((hN.alloc (.cells #[.int .i64 24, .int .i64 16, .int .i64 37] 120)).drew)
  clear hN hn c0 c1 k0 k1 kf
  go_wp2_with fail
  generalize w'.heap.size = b5 at m0 m1 m2 ⊢
  generalize w'.alloc (.cells #[.int .i64 24, .int .i64 16, .int .i64 37] 120) = w2 at g0 g1 g2 g3 gf m0 m1 m2 HN ⊢
  refine wp_region_still_tail 17 (by kernel_rfl) (by kernel_rfl) ?_
  change wpStill _ _ w2.drew (fun a' => wpList _ _ _ _ a' w2.drew) _ _
  change w2.drew.cell? _ = _ at g0 g1 g2 g3 m0 m1 m2
  change ∀ i, w2.drew.frozen? _ = _ at gf
  generalize w2.drew = w3 at g0 g1 g2 g3 gf m0 m1 m2 HN ⊢
  simp only [List.take_succ_cons, List.take_zero, List.drop_succ_cons, List.drop_zero]
  repeat (first | still_step | still_call (rot64_any _ (b64 _) _ _))
  refine wpStill_nil ?_
  go_wp2
  refine bodyPost_ret (by simp [results, Tryz.results77, go_sem, g2, g3]; try rfl) rfl ?_
  exact ⟨rfl, (HN.out.setCell (by simp) _).setCell (by simp) _⟩
set_option maxRecDepth 100000 in
set_option maxHeartbeats 2000000 in
theorem step_6L : MvV2 77 6 (stV2 49 21 28) := by
  intro q w
  obtain ⟨s0, s1⟩ := q
  go_enter Tryz.func77, Tryz.ntmps77
  go_wp2_with fail
  refine (shifts_6L _).mono ?_
  rintro e w' ⟨rfl, hn⟩
  have c0 : w'.cell? ⟨w.heap.size, 0, none⟩ = some (.int .u64 (W64 s0)) := f1L hn 0
  have c1 : w'.cell? ⟨w.heap.size, 1, none⟩ = some (.int .u64 (W64 s1)) := f1L hn 1
  have k0 : w'.cell? ⟨w.heap.size + 1, 0, none⟩ = some (.int .u64 0) := fresh_cellL hn 0
  have k1 : w'.cell? ⟨w.heap.size + 1, 1, none⟩ = some (.int .u64 0) := fresh_cellL hn 1
  have kf := fresh_freeL hn
  have hN : New w w' := (((New.refl w).alloc _).alloc _).trans hn
  have g0 := cell_oldL c0 (.cells #[.int .i64 49, .int .i64 21, .int .i64 28] 120)
  have g1 := cell_oldL c1 (.cells #[.int .i64 49, .int .i64 21, .int .i64 28] 120)
  have g2 := cell_oldL k0 (.cells #[.int .i64 49, .int .i64 21, .int .i64 28] 120)
  have g3 := cell_oldL k1 (.cells #[.int .i64 49, .int .i64 21, .int .i64 28] 120)
  have gf := free_oldL k0 kf (.cells #[.int .i64 49, .int .i64 21, .int .i64 28] 120)
  have m0 : (w'.alloc (.cells #[.int .i64 49, .int .i64 21, .int .i64 28] 120)).cell? ⟨w'.heap.size, 0, none⟩ = some (.int .i64 49) := by rw [World.cell?_alloc_new]; rfl
  have m1 : (w'.alloc (.cells #[.int .i64 49, .int .i64 21, .int .i64 28] 120)).cell? ⟨w'.heap.size, 1, none⟩ = some (.int .i64 21) := by rw [World.cell?_alloc_new]; rfl
  have m2 : (w'.alloc (.cells #[.int .i64 49, .int .i64 21, .int .i64 28] 120)).cell? ⟨w'.heap.size, 2, none⟩ = some (.int .i64 28) := by rw [World.cell?_alloc_new]; rfl
  have HN := Lib.hid ((hN.alloc (.cells #[.int .i64 49, .int .i64 21, .int .i64 28] 120)).drew)
  clear hN hn c0 c1 k0 k1 kf
  go_wp2_with fail
  generalize w'.heap.size = b5 at m0 m1 m2 ⊢
  generalize w'.alloc (.cells #[.int .i64 49, .int .i64 21, .int .i64 28] 120) = w2 at g0 g1 g2 g3 gf m0 m1 m2 HN ⊢
  refine wp_region_still_tail 17 (by kernel_rfl) (by kernel_rfl) ?_
  change wpStill _ _ w2.drew (fun a' => wpList _ _ _ _ a' w2.drew) _ _
  change w2.drew.cell? _ = _ at g0 g1 g2 g3 m0 m1 m2
  change ∀ i, w2.drew.frozen? _ = _ at gf
  generalize w2.drew = w3 at g0 g1 g2 g3 gf m0 m1 m2 HN ⊢
  simp only [List.take_succ_cons, List.take_zero, List.drop_succ_cons, List.drop_zero]
  repeat (first | still_step | still_call (rot64_any _ (b64 _) _ _))
  refine wpStill_nil ?_
  go_wp2
  refine bodyPost_ret (by simp [results, Tryz.results77, go_sem, g2, g3]; try rfl) rfl ?_
  exact ⟨rfl, (HN.out.setCell (by simp) _).setCell (by simp) _⟩
set_option maxRecDepth 100000 in
set_option maxHeartbeats 2000000 in
theorem step_oL (k : Int) (h5 : (k == 5) = false) (h6 : (k == 6) = false) : MvV2 77 k id := by
  intro q w
  obtain ⟨s0, s1⟩ := q
  go_enter Tryz.func77, Tryz.ntmps77
  go_wp2_with fail
  refine (shifts_oL k h5 h6 _).mono ?_
  rintro e w' ⟨rfl, hn⟩
  have c0 : w'.cell? ⟨w.heap.size, 0, none⟩ = some (.int .u64 (W64 s0)) := f1L hn 0
  have c1 : w'.cell? ⟨w.heap.size, 1, none⟩ = some (.int .u64 (W64 s1)) := f1L hn 1
  have k0 : w'.cell? ⟨w.heap.size + 1, 0, none⟩ = some (.int .u64 0) := fresh_cellL hn 0
  have k1 : w'.cell? ⟨w.heap.size + 1, 1, none⟩ = some (.int .u64 0) := fresh_cellL hn 1
  have kf := fresh_freeL hn
  have hN : New w w' := (((New.refl w).alloc _).alloc _).trans hn
  have g0 := cell_oldL c0 (.cells #[.int .i64 0, .int .i64 0, .int .i64 0] 120)
  have g1 := cell_oldL c1 (.cells #[.int .i64 0, .int .i64 0, .int .i64 0] 120)
  have g2 := cell_oldL k0 (.cells #[.int .i64 0, .int .i64 0, .int .i64 0] 120)
  have g3 := cell_oldL k1 (.cells #[.int .i64 0, .int .i64 0, .int .i64 0] 120)
  have gf := free_oldL k0 kf (.cells #[.int .i64 0, .int .i64 0, .int .i64 0] 120)
  have HN := Lib.hid (hN.alloc (.cells #[.int .i64 0, .int .i64 0, .int .i64 0] 120))
  clear hN hn c0 c1 k0 k1 kf
  go_wp2
  refine bodyPost_ret (by simp [results, Tryz.results77, go_sem, g2, g3]; try rfl) rfl ?_
  exact ⟨rfl, (HN.out.setCell (by simp) _).setCell (by simp) _⟩
theorem mulk_5L (x : BitVec 64) : x * 65536#64 = x <<< 16 := by
  rw [show (65536#64 : BitVec 64) = 1#64 <<< 16 from rfl, mul_shl]
set_option maxRecDepth 100000 in
set_option maxHeartbeats 2000000 in
theorem stepr_5L : MvV2 42 5 (stV2 24 16 37) := by
  intro q w
  obtain ⟨s0, s1⟩ := q
  go_enter Tryz.func42, Tryz.ntmps42
  go_wp2_with (go_at_call 52; refine (rot64_ref _ (b64 _) _ (by omega) _).mono ?_; rintro e w' ⟨rfl, rfl⟩)
  go_returns
  exact ⟨by rw [mulk_5L]; rfl, ((New.refl w).alloc _).alloc _⟩
theorem mulk_6L (x : BitVec 64) : x * 2097152#64 = x <<< 21 := by
  rw [show (2097152#64 : BitVec 64) = 1#64 <<< 21 from rfl, mul_shl]
set_option maxRecDepth 100000 in
set_option maxHeartbeats 2000000 in
theorem stepr_6L : MvV2 42 6 (stV2 49 21 28) := by
  intro q w
  obtain ⟨s0, s1⟩ := q
  go_enter Tryz.func42, Tryz.ntmps42
  go_wp2_with (go_at_call 52; refine (rot64_ref _ (b64 _) _ (by omega) _).mono ?_; rintro e w' ⟨rfl, rfl⟩)
  go_returns
  exact ⟨by rw [mulk_6L]; rfl, ((New.refl w).alloc _).alloc _⟩
set_option maxRecDepth 100000 in
set_option maxHeartbeats 2000000 in
theorem stepr_oL (k : Int) (h5 : (k == 5) = false) (h6 : (k == 6) = false) : MvV2 42 k id := by
  intro q w
  obtain ⟨s0, s1⟩ := q
  go_enter Tryz.func42, Tryz.ntmps42
  go_wp2
  go_returns
  exact ⟨rfl, ((New.refl w).alloc _).alloc _⟩
theorem mul_17L (x : BitVec 64) : x * 131072#64 = x <<< 17 := by
  rw [show (131072#64 : BitVec 64) = 1#64 <<< 17 from rfl, mul_shl]
set_option maxHeartbeats 1000000 in
theorem step_ref9L (s0 s1 s2 s3 : BitVec 64) (w : World) :
    Calls Tryz.prog 41 #[.agg #[.int .u64 (W64 s0), .int .u64 (W64 s1), .int .u64 (W64 s2), .int .u64 (W64 s3)]] w fun e w' =>
      e = .returned (.agg #[.int .u64 (W64 (s0 ^^^ (s3 ^^^ s1))), .int .u64 (W64 (s1 ^^^ (s2 ^^^ s0))), .int .u64 (W64 ((s2 ^^^ s0) ^^^ s1 <<< 17)), .int .u64 (W64 ((s3 ^^^ s1).rotateLeft 45))]) ∧ New w w' := by
  go_enter Tryz.func41, Tryz.ntmps41
  go_wp2_with fail
  go_region_held3 (fun w' => w'.cell? ⟨w.heap.size, 0, none⟩ = some (.int .u64 (W64 s0)) ∧ w'.cell? ⟨w.heap.size, 1, none⟩ = some (.int .u64 (W64 s1)) ∧ w'.cell? ⟨w.heap.size, 2, none⟩ = some (.int .u64 (W64 s2)) ∧ w'.cell? ⟨w.heap.size, 3, none⟩ = some (.int .u64 (W64 s3)) ) (go_keep)
    (first | (go_at_call 52; refine (rot64_ref _ (b64 _) _ (by omega) _).mono ?_; rintro e w' ⟨rfl, rfl⟩))
  go_wp2
  go_returns
  exact ⟨by rw [mul_17L], (((New.refl w).alloc _).alloc _).drew⟩
theorem stepr4_q (q : V4) (w : World) : Calls Tryz.prog 41 #[.agg #[.int .u64 (W64 q.a), .int .u64 (W64 q.b), .int .u64 (W64 q.c), .int .u64 (W64 q.d)]] w fun e w' => e = .returned (.agg #[.int .u64 (W64 (stV4 q).a), .int .u64 (W64 (stV4 q).b), .int .u64 (W64 (stV4 q).c), .int .u64 (W64 (stV4 q).d)]) ∧ New w w' := by
  have h := step_ref9L q.a q.b q.c q.d w
  obtain ⟨a, b, c, d⟩ := q
  exact h
set_option maxHeartbeats 1000000 in
theorem xor2_v (p q : V2) (w : World) :
    Calls Tryz.prog 148 #[.agg #[.int .u64 (W64 p.a), .int .u64 (W64 p.b)], .agg #[.int .u64 (W64 q.a), .int .u64 (W64 q.b)]] w fun e w' => e = .returned (.agg #[.int .u64 (W64 (xV2 p q).a), .int .u64 (W64 (xV2 p q).b)]) ∧ New w w' := by
  obtain ⟨s0, s1⟩ := p
  obtain ⟨t0, t1⟩ := q
  go_enter Tryz.func148, Tryz.ntmps148
  go_wp2
  go_returns
  exact ⟨rfl, (((New.refl w).alloc _).alloc _).alloc _⟩
end Go.Proofs.YtfaobdmoifnglaaGreat
