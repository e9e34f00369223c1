/- The example of xoshiro (awake) and the walk of the statement XoshiroTells: for every state. -/
import Derived.Test.YtfaobdmoifnglaaGreatXoT
import Derived.Test.YtfaobdmoifnglaaGreatClass
import Derived.Deep.RegionWith
import Derived.ChangeKeysEq
import Derived.Laws.StructEq
namespace Go.Proofs.YtfaobdmoifnglaaGreat
open Go.RowKit Go.Bv
set_option linter.unusedVariables false
/-- four words in a block's first cells -/
def C4 (w : World) (b : Nat) (s0 s1 s2 s3 : BitVec 64) : Prop :=
  w.cell? ⟨b, 0, none⟩ = some (.int .u64 (W64 s0)) ∧ w.cell? ⟨b, 1, none⟩ = some (.int .u64 (W64 s1)) ∧ w.cell? ⟨b, 2, none⟩ = some (.int .u64 (W64 s2)) ∧ w.cell? ⟨b, 3, none⟩ = some (.int .u64 (W64 s3))
theorem C4.stay {w w' : World} {b : Nat} {s0 s1 s2 s3 : BitVec 64} (h : C4 w b s0 s1 s2 s3) (hn : New w w') : C4 w' b s0 s1 s2 s3 := by
  have hb := World.block_lt_of_cell? w _ h.1
  unfold C4
  rw [hn.cell (a := ⟨b, 0, none⟩) hb, hn.cell (a := ⟨b, 1, none⟩) hb, hn.cell (a := ⟨b, 2, none⟩) hb, hn.cell (a := ⟨b, 3, none⟩) hb]
  exact h
theorem c4_keep {W w w' : World} {b : Nat} {s0 s1 s2 s3 : BitVec 64}
    (h : (w.cell? ⟨b, 0, none⟩ = some (.int .u64 (W64 s0)) ∧ w.cell? ⟨b, 1, none⟩ = some (.int .u64 (W64 s1)) ∧ w.cell? ⟨b, 2, none⟩ = some (.int .u64 (W64 s2)) ∧ w.cell? ⟨b, 3, none⟩ = some (.int .u64 (W64 s3))) ∧ New W w) (hn : New w w') :
    (w'.cell? ⟨b, 0, none⟩ = some (.int .u64 (W64 s0)) ∧ w'.cell? ⟨b, 1, none⟩ = some (.int .u64 (W64 s1)) ∧ w'.cell? ⟨b, 2, none⟩ = some (.int .u64 (W64 s2)) ∧ w'.cell? ⟨b, 3, none⟩ = some (.int .u64 (W64 s3))) ∧ New W w' :=
  ⟨C4.stay h.1 hn, h.2.trans hn⟩
theorem c4_new (w : World) (t : TypeId) (s0 s1 s2 s3 : BitVec 64) : C4 (w.alloc (.cells #[.int .u64 (W64 s0), .int .u64 (W64 s1), .int .u64 (W64 s2), .int .u64 (W64 s3)] t)) w.heap.size s0 s1 s2 s3 := by
  unfold C4
  refine ⟨?_, ?_, ?_, ?_⟩ <;> (rw [World.cell?_alloc_new]; rfl)
theorem info9 : (Tryz.prog.info? 22).isSome = true := by kernel_rfl
theorem plain9 : Tryz.prog.plainKey 22 = true := by kernel_rfl
theorem cells9 : Tryz.prog.cellsOf 22 = 1 := by kernel_rfl
theorem eq4 (w : World) (x0 x1 x2 x3 y0 y1 y2 y3 : BitVec 64) :
    (Op.equalIn 10000 23 (.agg #[.int .u64 (W64 x0), .int .u64 (W64 x1), .int .u64 (W64 x2), .int .u64 (W64 x3)]) (.agg #[.int .u64 (W64 y0), .int .u64 (W64 y1), .int .u64 (W64 y2), .int .u64 (W64 y3)])).run Tryz.prog w =
      .ok (x0 == y0 && (x1 == y1 && (x2 == y2 && x3 == y3))) w := by
  obtain ⟨i, hi⟩ := Option.isSome_iff_exists.1 info9
  rw [run_equalIn_array w 9999 _ _ Tryz.underlying23 hi, cells9, show List.range 4 = [0, 1, 2, 3] from rfl]
  have hu := Tryz.underlying22
  have e0 := run_part_plain (w := w) (v := .int .u64 (W64 x0)) plain9 (xs := #[.int .u64 (W64 x0), .int .u64 (W64 x1), .int .u64 (W64 x2), .int .u64 (W64 x3)]) (off := 0) rfl
  have e1 := run_part_plain (w := w) (v := .int .u64 (W64 x1)) plain9 (xs := #[.int .u64 (W64 x0), .int .u64 (W64 x1), .int .u64 (W64 x2), .int .u64 (W64 x3)]) (off := 1) rfl
  have e2 := run_part_plain (w := w) (v := .int .u64 (W64 x2)) plain9 (xs := #[.int .u64 (W64 x0), .int .u64 (W64 x1), .int .u64 (W64 x2), .int .u64 (W64 x3)]) (off := 2) rfl
  have e3 := run_part_plain (w := w) (v := .int .u64 (W64 x3)) plain9 (xs := #[.int .u64 (W64 x0), .int .u64 (W64 x1), .int .u64 (W64 x2), .int .u64 (W64 x3)]) (off := 3) rfl
  have f0 := run_part_plain (w := w) (v := .int .u64 (W64 y0)) plain9 (xs := #[.int .u64 (W64 y0), .int .u64 (W64 y1), .int .u64 (W64 y2), .int .u64 (W64 y3)]) (off := 0) rfl
  have f1 := run_part_plain (w := w) (v := .int .u64 (W64 y1)) plain9 (xs := #[.int .u64 (W64 y0), .int .u64 (W64 y1), .int .u64 (W64 y2), .int .u64 (W64 y3)]) (off := 1) rfl
  have f2 := run_part_plain (w := w) (v := .int .u64 (W64 y2)) plain9 (xs := #[.int .u64 (W64 y0), .int .u64 (W64 y1), .int .u64 (W64 y2), .int .u64 (W64 y3)]) (off := 2) rfl
  have f3 := run_part_plain (w := w) (v := .int .u64 (W64 y3)) plain9 (xs := #[.int .u64 (W64 y0), .int .u64 (W64 y1), .int .u64 (W64 y2), .int .u64 (W64 y3)]) (off := 3) rfl
  have g0 := run_equalIn_int (w := w) 9998 _ .u64 .u64 (W64 x0) (W64 y0) hu
  have g1 := run_equalIn_int (w := w) 9998 _ .u64 .u64 (W64 x1) (W64 y1) hu
  have g2 := run_equalIn_int (w := w) 9998 _ .u64 .u64 (W64 x2) (W64 y2) hu
  have g3 := run_equalIn_int (w := w) 9998 _ .u64 .u64 (W64 x3) (W64 y3) hu
  rw [eq_u64] at g0 g1 g2 g3
  simp only [Op.eqItems, Sem.run_bind, Nat.mul_one, e0, f0, g0, Result.andThen_ok]
  rcases h0 : x0 == y0 <;> rcases h1 : x1 == y1 <;> rcases h2 : x2 == y2 <;> rcases h3 : x3 == y3 <;> rw [h1] at g1 <;> rw [h2] at g2 <;> rw [h3] at g3 <;> simp [Sem.run_bind, e1, e2, e3, f1, f2, f3, g1, g2, g3]
end Go.Proofs.YtfaobdmoifnglaaGreat
