/- Layer 28: what its laws need: equality of states, the chapter's example. -/
import Derived.Test.YtegibnffingciaaBlkH
import Derived.Test.YtegibnffingciaaPcs
import Derived.Test.YtegibnffingciaaGro3
import Derived.Defers
import Derived.Recover
import Derived.Laws.Pointers
import Derived.Handy
import Derived.Laws.EntriesVeiled
import Derived.Laws.StructEq
namespace Go.Proofs.Ytegibnffingciaa
open Go.RowKit Go.Bv
set_option linter.unusedVariables false
theorem row_new (w : World) (l : List (BitVec 8)) (h : l.length ≤ 140737488355328) : BRow (w.alloc (.cells (l.map fun x => .int .u8 (W8 x)).toArray 5)) (some ⟨w.heap.size, 0, none⟩) l.length l.length l where
  len_eq := rfl
  le := Nat.le_refl _
  most := h
  room := by omega
  none := fun e => by cases e
  cell := fun b off e i hi => by
    cases e
    rw [World.cell?_alloc_new]
    simp [List.getD_eq_getElem?_getD, hi]
  spot := fun x e _ => by cases e; rfl
  old := fun x e _ => by cases e; simp
theorem plain28u : Try.prog.plainKey 22 = true := by kernel_rfl
theorem plain28i : Try.prog.plainKey 3 = true := by kernel_rfl
theorem fields28 : ((Try.prog.fieldsOf 27).toList.map fun f => (f.type, f.offset, decide (f.name = "_"))) = [(22, 0, false), (3, 1, false)] := by kernel_rfl
theorem equ28 (w : World) (x1 y1 : BitVec 64) (x0 y0 : Int) :
    (Op.equalIn 10000 27 (.agg #[.int .u64 (W64 x1), .int .i64 x0]) (.agg #[.int .u64 (W64 y1), .int .i64 y0])).run Try.prog w = .ok (x1 == y1 && x0 == y0) w := by
  have hu := Try.underlying22
  have hi := Try.underlying3
  have g1 := run_equalIn_int (w := w) 9998 _ .u64 .u64 (W64 x1) (W64 y1) hu
  have g0 := run_equalIn_int (w := w) 9998 _ .i64 .i64 x0 y0 hi
  rw [eq_u64] at g1
  have e1 := run_part_plain (w := w) (v := .int .u64 (W64 x1)) plain28u (xs := #[.int .u64 (W64 x1), .int .i64 x0]) (off := 0) rfl
  have e0 := run_part_plain (w := w) (v := .int .i64 x0) plain28i (xs := #[.int .u64 (W64 x1), .int .i64 x0]) (off := 1) rfl
  have f1 := run_part_plain (w := w) (v := .int .u64 (W64 y1)) plain28u (xs := #[.int .u64 (W64 y1), .int .i64 y0]) (off := 0) rfl
  have f0 := run_part_plain (w := w) (v := .int .i64 y0) plain28i (xs := #[.int .u64 (W64 y1), .int .i64 y0]) (off := 1) rfl
  rw [run_equalIn_struct w 9999 _ _ _ (by kernel_rfl) (by kernel_rfl)]
  have hfs := fields28
  generalize (Try.prog.fieldsOf 27).toList = fs at hfs
  obtain ⟨a, l1, rfl, ha, h1⟩ := List.map_eq_cons_iff.1 hfs
  obtain ⟨b, l2, rfl, hb, h2⟩ := List.map_eq_cons_iff.1 h1
  obtain rfl := List.map_eq_nil_iff.1 h2
  simp only [Prod.mk.injEq, decide_eq_false_iff_not] at ha hb
  obtain ⟨t1, o1, n1⟩ := ha
  obtain ⟨t2, o2, n2⟩ := hb
  simp only [Op.eqFields, t1, o1, n1, t2, o2, n2, ne_eq, not_false_eq_true, if_true, Sem.run_bind, e1, f1, g1, Result.andThen_ok]
  rcases h1 : x1 == y1 <;> rcases h0 : x0 == y0 <;> rw [h0] at g0 <;> simp [Sem.run_bind, e0, f0, g0]
set_option maxHeartbeats 1000000 in
theorem equ28s (w : World) (s : BitVec 64 × Int) : (Op.equalIn 10000 27 (.agg #[.int .u64 (W64 (s.1)), .int .i64 (s.2)]) (.agg #[.int .u64 (W64 (s.1)), .int .i64 (s.2)])).run Try.prog w = .ok true w := by
  have h := equ28 w s.1 s.1 s.2 s.2
  simpa using h
set_option maxRecDepth 100000 in
set_option maxHeartbeats 1000000 in
theorem awake28 (w : World) : Calls Try.prog 18 #[] w fun e w' => e = .returned (.bool true) ∧ New w w' := by
  have hfd : ∀ (a b : Value) (w : World), (Instr.field 27 (.agg #[a, b]) 1).run Try.prog w = .ok b w := fun _ _ _ => by kernel_rfl
  have HNW := Lib.hid (new_28 2 (0#64, 0) w)
  rw [show W64 (0#64, (0 : Int)).1 = 0 by decide] at HNW
  go_enter Try.func18, Try.ntmps18
  go_wp2_with fail
  refine (HNW.out).mono ?_
  rintro e w1 ⟨p, rfl, hp, hs, hn⟩
  have HS := Lib.hid hs
  have HN := Lib.hid hn
  clear hs hn
  have hal := (New.refl w1).alloc (.cells #[.int .u8 1, .int .u8 2, .int .u8 3] 5)
  have HZ := Lib.hid (heap_alloc_new w1 (.cells #[.int .u8 1, .int .u8 2, .int .u8 3] 5))
  have hrow : BRow (w1.alloc (.cells #[.int .u8 1, .int .u8 2, .int .u8 3] 5)) (some ⟨w1.heap.size, 0, none⟩) 3 3 [1#8, 2#8, 3#8] := row_new w1 [1#8, 2#8, 3#8] (by decide)
  have HW := Lib.hid (write_28 p 2 (by omega) (0#64, 0) (0#64, 0) [] 0#64 _ _ _ _ _ (HS.out.stay hal) hrow (by simp))
  have HAL := Lib.hid (HN.out.trans hal)
  clear hal hrow
  go_wp2_with fail
  refine (HW.out).mono ?_
  rintro e w2 ⟨rfl, hs, hb⟩
  have e1 : (bState 2 stp28 (0#64, (0 : Int)) ([] ++ [1#8, 2#8, 3#8])).2 = 1 := by decide +kernel
  have e2 : (bTail 2 ([] ++ [1#8, 2#8, 3#8])).length = 1 := by decide +kernel
  have e3 : W64 (0#64 + BitVec.ofNat 64 3) = 3 := by decide +kernel
  have HS2 := Lib.hid (show Strm_28 w2 p 2 (0#64, 0) (bState 2 stp28 (0#64, (0 : Int)) ([] ++ [1#8, 2#8, 3#8])) (bTail 2 ([] ++ [1#8, 2#8, 3#8])) (0#64 + BitVec.ofNat 64 3) from hs)
  have HN2 := Lib.hid (hb.new _ HAL.out hp)
  generalize bState 2 stp28 (0#64, (0 : Int)) ([] ++ [1#8, 2#8, 3#8]) = st at *
  generalize bTail 2 ([] ++ [1#8, 2#8, 3#8]) = tl at *
  generalize 0#64 + BitVec.ofNat 64 3 = lg at *
  clear hs hb HW
  go_wp2_with fail
  refine (state_28 p 2 _ _ _ _ _ (by omega) HS2.out).mono ?_
  rintro e w3 ⟨rfl, hn⟩
  have HS3 := Lib.hid (HS2.out.stay hn)
  have HN3 := Lib.hid (HN2.out.trans hn)
  clear hn
  go_wp2_with fail
  refine (tail_28 p 2 _ _ _ _ _ (by omega) HS3.out).mono ?_
  rintro e w4 ⟨a4, c4, rfl, hr4, hn⟩
  have HS4 := Lib.hid (HS3.out.stay hn)
  have HN4 := Lib.hid (HN3.out.trans hn)
  clear hn hr4
  go_wp2_with fail
  refine (long_28 p 2 _ _ _ _ _ (by omega) HS4.out).mono ?_
  rintro e w5 ⟨rfl, rfl⟩
  go_wp2
  go_ret
  exact ⟨rfl, HN4.out⟩
end Go.Proofs.Ytegibnffingciaa
