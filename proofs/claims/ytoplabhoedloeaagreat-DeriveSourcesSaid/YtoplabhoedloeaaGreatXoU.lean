/- The example of xoshiro (awake) and the walk of the statement XoshiroTells: for every state. · Contracts of the way back and of Run of xoshiro. · Contracts of Run of xoshiro and of the document's own Steps; the example of xoshiro (awake). -/
import Derived.Test.YtoplabhoedloeaaGreatXoT
import Derived.Test.YtoplabhoedloeaaGreatClass
import Derived.Deep.RegionWith
import Derived.ChangeKeysEq
import Derived.Laws.StructEq
import Derived.OneCell
namespace Go.Proofs.YtoplabhoedloeaaGreat
open Go.RowKit Go.Bv
set_option linter.unusedVariables false
/-- four words in a block's first cells -/
def C4 (w : World) (b : Nat) (s0 s1 s2 s3 : BitVec 64) : Prop :=
  w.cell? ⟨b, 0, none⟩ = some (.int .u64 (W64 s0)) ∧ w.cell? ⟨b, 1, none⟩ = some (.int .u64 (W64 s1)) ∧ w.cell? ⟨b, 2, none⟩ = some (.int .u64 (W64 s2)) ∧ w.cell? ⟨b, 3, none⟩ = some (.int .u64 (W64 s3))
theorem C4.stay {w w' : World} {b : Nat} {s0 s1 s2 s3 : BitVec 64} (h : C4 w b s0 s1 s2 s3) (hn : New w w') : C4 w' b s0 s1 s2 s3 := by
  have hb := World.block_lt_of_cell? w _ h.1
  unfold C4
  rw [hn.cell (a := ⟨b, 0, none⟩) hb, hn.cell (a := ⟨b, 1, none⟩) hb, hn.cell (a := ⟨b, 2, none⟩) hb, hn.cell (a := ⟨b, 3, none⟩) hb]
  exact h
theorem c4_keep {W w w' : World} {b : Nat} {s0 s1 s2 s3 : BitVec 64}
    (h : (w.cell? ⟨b, 0, none⟩ = some (.int .u64 (W64 s0)) ∧ w.cell? ⟨b, 1, none⟩ = some (.int .u64 (W64 s1)) ∧ w.cell? ⟨b, 2, none⟩ = some (.int .u64 (W64 s2)) ∧ w.cell? ⟨b, 3, none⟩ = some (.int .u64 (W64 s3))) ∧ New W w) (hn : New w w') :
    (w'.cell? ⟨b, 0, none⟩ = some (.int .u64 (W64 s0)) ∧ w'.cell? ⟨b, 1, none⟩ = some (.int .u64 (W64 s1)) ∧ w'.cell? ⟨b, 2, none⟩ = some (.int .u64 (W64 s2)) ∧ w'.cell? ⟨b, 3, none⟩ = some (.int .u64 (W64 s3))) ∧ New W w' :=
  ⟨C4.stay h.1 hn, h.2.trans hn⟩
theorem c4_new (w : World) (t : TypeId) (s0 s1 s2 s3 : BitVec 64) : C4 (w.alloc (.cells #[.int .u64 (W64 s0), .int .u64 (W64 s1), .int .u64 (W64 s2), .int .u64 (W64 s3)] t)) w.heap.size s0 s1 s2 s3 := by
  unfold C4
  refine ⟨?_, ?_, ?_, ?_⟩ <;> (rw [World.cell?_alloc_new]; rfl)
theorem info9 : (Tryz.prog.info? 22).isSome = true := by kernel_rfl
theorem plain9 : Tryz.prog.plainKey 22 = true := by kernel_rfl
theorem cells9 : Tryz.prog.cellsOf 22 = 1 := by kernel_rfl
theorem eq4 (w : World) (x0 x1 x2 x3 y0 y1 y2 y3 : BitVec 64) :
    (Op.equalIn 10000 26 (.agg #[.int .u64 (W64 x0), .int .u64 (W64 x1), .int .u64 (W64 x2), .int .u64 (W64 x3)]) (.agg #[.int .u64 (W64 y0), .int .u64 (W64 y1), .int .u64 (W64 y2), .int .u64 (W64 y3)])).run Tryz.prog w =
      .ok (x0 == y0 && (x1 == y1 && (x2 == y2 && x3 == y3))) w := by
  obtain ⟨i, hi⟩ := Option.isSome_iff_exists.1 info9
  rw [run_equalIn_array w 9999 _ _ Tryz.underlying26 hi, cells9, show List.range 4 = [0, 1, 2, 3] from rfl]
  have hu := Tryz.underlying22
  have e0 := run_part_plain (w := w) (v := .int .u64 (W64 x0)) plain9 (xs := #[.int .u64 (W64 x0), .int .u64 (W64 x1), .int .u64 (W64 x2), .int .u64 (W64 x3)]) (off := 0) rfl
  have e1 := run_part_plain (w := w) (v := .int .u64 (W64 x1)) plain9 (xs := #[.int .u64 (W64 x0), .int .u64 (W64 x1), .int .u64 (W64 x2), .int .u64 (W64 x3)]) (off := 1) rfl
  have e2 := run_part_plain (w := w) (v := .int .u64 (W64 x2)) plain9 (xs := #[.int .u64 (W64 x0), .int .u64 (W64 x1), .int .u64 (W64 x2), .int .u64 (W64 x3)]) (off := 2) rfl
  have e3 := run_part_plain (w := w) (v := .int .u64 (W64 x3)) plain9 (xs := #[.int .u64 (W64 x0), .int .u64 (W64 x1), .int .u64 (W64 x2), .int .u64 (W64 x3)]) (off := 3) rfl
  have f0 := run_part_plain (w := w) (v := .int .u64 (W64 y0)) plain9 (xs := #[.int .u64 (W64 y0), .int .u64 (W64 y1), .int .u64 (W64 y2), .int .u64 (W64 y3)]) (off := 0) rfl
  have f1 := run_part_plain (w := w) (v := .int .u64 (W64 y1)) plain9 (xs := #[.int .u64 (W64 y0), .int .u64 (W64 y1), .int .u64 (W64 y2), .int .u64 (W64 y3)]) (off := 1) rfl
  have f2 := run_part_plain (w := w) (v := .int .u64 (W64 y2)) plain9 (xs := #[.int .u64 (W64 y0), .int .u64 (W64 y1), .int .u64 (W64 y2), .int .u64 (W64 y3)]) (off := 2) rfl
  have f3 := run_part_plain (w := w) (v := .int .u64 (W64 y3)) plain9 (xs := #[.int .u64 (W64 y0), .int .u64 (W64 y1), .int .u64 (W64 y2), .int .u64 (W64 y3)]) (off := 3) rfl
  have g0 := run_equalIn_int (w := w) 9998 _ .u64 .u64 (W64 x0) (W64 y0) hu
  have g1 := run_equalIn_int (w := w) 9998 _ .u64 .u64 (W64 x1) (W64 y1) hu
  have g2 := run_equalIn_int (w := w) 9998 _ .u64 .u64 (W64 x2) (W64 y2) hu
  have g3 := run_equalIn_int (w := w) 9998 _ .u64 .u64 (W64 x3) (W64 y3) hu
  rw [eq_u64] at g0 g1 g2 g3
  simp only [Op.eqItems, Sem.run_bind, Nat.mul_one, e0, f0, g0, Result.andThen_ok]
  rcases h0 : x0 == y0 <;> rcases h1 : x1 == y1 <;> rcases h2 : x2 == y2 <;> rcases h3 : x3 == y3 <;> rw [h1] at g1 <;> rw [h2] at g2 <;> rw [h3] at g3 <;> simp [Sem.run_bind, e1, e2, e3, f1, f2, f3, g1, g2, g3]
end Go.Proofs.YtoplabhoedloeaaGreat
namespace Go.Proofs.YtoplabhoedloeaaGreat
open Go.RowKit Go.Bv
set_option linter.unusedVariables false
structure Q4 where
  a : BitVec 64
  b : BitVec 64
  c : BitVec 64
  d : BitVec 64
def st9 (q : Q4) : Q4 := ⟨q.a ^^^ (q.d ^^^ q.b), q.b ^^^ (q.c ^^^ q.a), (q.c ^^^ q.a) ^^^ q.b <<< 17, (q.d ^^^ q.b).rotateLeft 45⟩
/-- the word of which x XOR (x << 17) is z -/
def unsh (z : BitVec 64) : BitVec 64 := (z ^^^ z <<< 17) ^^^ (z ^^^ z <<< 17) <<< 34
def bk9 (q : Q4) : Q4 :=
  ⟨q.a ^^^ q.d.rotateLeft 19, unsh (q.b ^^^ q.c), (q.c ^^^ unsh (q.b ^^^ q.c) <<< 17) ^^^ (q.a ^^^ q.d.rotateLeft 19), q.d.rotateLeft 19 ^^^ unsh (q.b ^^^ q.c)⟩
def it9 (f : Q4 → Q4) : Nat → Q4 → Q4
  | 0, q => q
  | k + 1, q => f (it9 f k q)
/-- a move of the state -/
def Mv (F : FuncId) (f : Q4 → Q4) : Prop := ∀ (q : Q4) (w : World), Calls Tryz.prog F #[.agg #[.int .u64 (W64 q.a), .int .u64 (W64 q.b), .int .u64 (W64 q.c), .int .u64 (W64 q.d)]] w fun e w' =>
  e = .returned (.agg #[.int .u64 (W64 (f q).a), .int .u64 (W64 (f q).b), .int .u64 (W64 (f q).c), .int .u64 (W64 (f q).d)]) ∧ New w w'
theorem step_mv : Mv 130 st9 := fun q w => step_m q.a q.b q.c q.d w
end Go.Proofs.YtoplabhoedloeaaGreat
namespace Go.Proofs.YtoplabhoedloeaaGreat
open Go.RowKit Go.Bv
set_option linter.unusedVariables false
def zr (q : Q4) : Bool := q.a == 0#64 && (q.b == 0#64 && (q.c == 0#64 && q.d == 0#64))
def z9 : Q4 := ⟨0#64, 0#64, 0#64, 0#64⟩
theorem zr_iff (q : Q4) : zr q = true ↔ q = z9 := by
  obtain ⟨a, b, c, d⟩ := q
  simp [zr, z9]
/-- the words of a state -/
def cs4 (q : Q4) : Array Value := #[.int .u64 (W64 q.a), .int .u64 (W64 q.b), .int .u64 (W64 q.c), .int .u64 (W64 q.d)]
theorem row4 {w : World} {g : Nat} {t : TypeId} {q : Q4} (h : w.heap[g]? = some (.cells (cs4 q) t (0, 0))) : C4 w g q.a q.b q.c q.d := by
  unfold C4
  rw [cell_of_row _ _ _ _ _ _ h, cell_of_row _ _ _ _ _ _ h, cell_of_row _ _ _ _ _ _ h, cell_of_row _ _ _ _ _ _ h]
  exact ⟨rfl, rfl, rfl, rfl⟩
/-- a state stored whole -/
theorem set4 {w : World} {g : Nat} {t : TypeId} {q : Q4} (p : Q4) (h : w.heap[g]? = some (.cells (cs4 q) t (0, 0))) :
    ((((w.setCell ⟨g, 0, none⟩ (.int .u64 (W64 p.a))).setCell ⟨g, 1, none⟩ (.int .u64 (W64 p.b))).setCell ⟨g, 2, none⟩ (.int .u64 (W64 p.c))).setCell ⟨g, 3, none⟩ (.int .u64 (W64 p.d))).heap[g]? = some (.cells (cs4 p) t (0, 0)) := by
  have h1 := heap_setCell_same w g 0 _ t (.int .u64 (W64 p.a)) h
  have h2 := heap_setCell_same _ g 1 _ t (.int .u64 (W64 p.b)) h1
  have h3 := heap_setCell_same _ g 2 _ t (.int .u64 (W64 p.c)) h2
  have h4 := heap_setCell_same _ g 3 _ t (.int .u64 (W64 p.d)) h3
  rw [h4]; rfl
theorem set4_other {w : World} {g k : Nat} (p : Q4) (hk : k ≠ g) :
    ((((w.setCell ⟨g, 0, none⟩ (.int .u64 (W64 p.a))).setCell ⟨g, 1, none⟩ (.int .u64 (W64 p.b))).setCell ⟨g, 2, none⟩ (.int .u64 (W64 p.c))).setCell ⟨g, 3, none⟩ (.int .u64 (W64 p.d))).heap[k]? = w.heap[k]? := by
  rw [heap_setCell_other _ _ _ _ hk, heap_setCell_other _ _ _ _ hk, heap_setCell_other _ _ _ _ hk, heap_setCell_other _ _ _ _ hk]
theorem set4_new {W w : World} {g : Nat} (p : Q4) (hn : New W w) (hg : W.heap.size ≤ g) :
    New W ((((w.setCell ⟨g, 0, none⟩ (.int .u64 (W64 p.a))).setCell ⟨g, 1, none⟩ (.int .u64 (W64 p.b))).setCell ⟨g, 2, none⟩ (.int .u64 (W64 p.c))).setCell ⟨g, 3, none⟩ (.int .u64 (W64 p.d))) :=
  (((hn.setCell hg _).setCell hg _).setCell hg _).setCell hg _
def zs4 : Array Value := #[.int .u64 0, .int .u64 0, .int .u64 0, .int .u64 0]
theorem row4z {w : World} {g : Nat} {t : TypeId} (h : w.heap[g]? = some (.cells zs4 t (0, 0))) (i : Nat) (hi : i < 4) : w.cell? ⟨g, i, none⟩ = some (.int .u64 0) := by
  rw [cell_of_row _ _ _ _ _ _ h]
  have hc : i = 0 ∨ i = 1 ∨ i = 2 ∨ i = 3 := by omega
  rcases hc with rfl | rfl | rfl | rfl <;> rfl
theorem alloc3_2 (w : World) (A B C : Obj) : (((w.alloc A).alloc B).alloc C).heap[w.heap.size + 2]? = some C := by
  have h := heap_alloc_new ((w.alloc A).alloc B) C
  rw [show ((w.alloc A).alloc B).heap.size = w.heap.size + 2 by simp] at h
  exact h
theorem alloc3_1 (w : World) (A B C : Obj) : (((w.alloc A).alloc B).alloc C).heap[w.heap.size + 1]? = some B := by
  rw [heap_alloc_old _ _ (h := by simp)]; exact heap_alloc2_new w A B
end Go.Proofs.YtoplabhoedloeaaGreat
