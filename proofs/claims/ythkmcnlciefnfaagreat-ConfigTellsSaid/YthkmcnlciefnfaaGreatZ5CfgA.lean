import Derived.Test.YthkmcnlciefnfaaGreatZ5StkB
import Derived.Test.YthkmcnlciefnfaaGreatZ5GsF
import Derived.Test.YthkmcnlciefnfaaGreatZ5RowQ
import Derived.Laws.CopyOwn
import Derived.Deep.RegionLaw
/- Layer 47: what a config needs; the state of a source. -/
namespace Go.Proofs.YthkmcnlciefnfaaGreat
open Go Go.RowKit Go.Bv
set_option linter.unusedVariables false
set_option maxRecDepth 100000
abbrev cfc (t k b : Int) (h l : BitVec 64) (a : Option Addr) (n c : Nat) : Array Value := #[.int .i64 t, .int .i64 k, .int .i64 b, .int .u64 (W64 h), .int .u64 (W64 l), .slice a n c]
abbrev fdc (k b y w : Bool) : Array Value := #[.bool k, .bool b, .bool y, .bool w]
theorem fields_1 (w : World) : Calls Tryz.prog 27 #[.int .i64 1] w fun e w' => e = .returned (.tuple #[.agg (fdc true false true false), .bool true]) ∧ New w w' := by
  go_enter Tryz.func27, Tryz.ntmps27
  go_wp2
  go_returns
  exact ⟨rfl, ((New.refl w).alloc _).alloc _⟩
theorem fields_2 (w : World) : Calls Tryz.prog 27 #[.int .i64 2] w fun e w' => e = .returned (.tuple #[.agg (fdc true true false true), .bool true]) ∧ New w w' := by
  go_enter Tryz.func27, Tryz.ntmps27
  go_wp2
  go_returns
  exact ⟨rfl, ((New.refl w).alloc _).alloc _⟩
theorem fields_3 (w : World) : Calls Tryz.prog 27 #[.int .i64 3] w fun e w' => e = .returned (.tuple #[.agg (fdc true false false true), .bool true]) ∧ New w w' := by
  go_enter Tryz.func27, Tryz.ntmps27
  go_wp2
  go_returns
  exact ⟨rfl, ((New.refl w).alloc _).alloc _⟩
theorem fields_4 (w : World) : Calls Tryz.prog 27 #[.int .i64 4] w fun e w' => e = .returned (.tuple #[.agg (fdc false false false true), .bool true]) ∧ New w w' := by
  go_enter Tryz.func27, Tryz.ntmps27
  go_wp2
  go_returns
  exact ⟨rfl, ((New.refl w).alloc _).alloc _⟩
theorem fields_5 (w : World) : Calls Tryz.prog 27 #[.int .i64 5] w fun e w' => e = .returned (.tuple #[.agg (fdc false false false true), .bool true]) ∧ New w w' := by
  go_enter Tryz.func27, Tryz.ntmps27
  go_wp2
  go_returns
  exact ⟨rfl, ((New.refl w).alloc _).alloc _⟩
theorem fields_no (t : Int) (h : t < 1 ∨ 5 < t) (w : World) : Calls Tryz.prog 27 #[.int .i64 t] w fun e w' => e = .returned (.tuple #[.agg (fdc false false false false), .bool false]) ∧ New w w' := by
  have h1 : ¬ t = 1 := by omega
  have h2 : ¬ t = 2 := by omega
  have h3 : ¬ t = 3 := by omega
  have h4 : ¬ t = 4 := by omega
  have h5 : ¬ t = 5 := by omega
  clear h
  go_enter Tryz.func27, Tryz.ntmps27
  go_wp2
  go_returns
  exact ⟨rfl, ((New.refl w).alloc _).alloc _⟩
/-- up to four words -/
def w4 (l : List (BitVec 64)) : W4 := ⟨l.getD 0 0, l.getD 1 0, l.getD 2 0, l.getD 3 0⟩
/-- what is wrong with a source -/
def soE (k : Int) (l : List (BitVec 64)) : Int := if szK k = 0 then 6 else if (l.length : Int) ≠ szK k then 5 else chkK k (w4 l)
abbrev zst' : Array Value := #[.int .i64 0, .int .u64 0, .int .u64 0, .int .u64 0, .int .u64 0]
def soS (k : Int) (l : List (BitVec 64)) : Array Value := if szK k = 0 ∨ (l.length : Int) ≠ szK k then zst' else stc k (w4 l)
theorem put5_factsC {w : World} {q : Nat} {u0 u1 u2 u3 u4 : Value} {T : TypeId} (v0 v1 v2 v3 v4 : Value) (h : w.heap[q]? = some (.cells #[u0, u1, u2, u3, u4] T (0, 0))) :
    (((((w.setCell ⟨q, 0, none⟩ v0).setCell ⟨q, 1, none⟩ v1).setCell ⟨q, 2, none⟩ v2).setCell ⟨q, 3, none⟩ v3).setCell ⟨q, 4, none⟩ v4).heap[q]? = some (.cells #[v0, v1, v2, v3, v4] T (0, 0)) ∧ (∀ j, j ≠ q → (((((w.setCell ⟨q, 0, none⟩ v0).setCell ⟨q, 1, none⟩ v1).setCell ⟨q, 2, none⟩ v2).setCell ⟨q, 3, none⟩ v3).setCell ⟨q, 4, none⟩ v4).heap[j]? = w.heap[j]?) ∧ (∀ W : World, New W w → W.heap.size ≤ q → New W (((((w.setCell ⟨q, 0, none⟩ v0).setCell ⟨q, 1, none⟩ v1).setCell ⟨q, 2, none⟩ v2).setCell ⟨q, 3, none⟩ v3).setCell ⟨q, 4, none⟩ v4)) :=
  ⟨(heap_setCell_same _ q 4 _ _ v4 (heap_setCell_same _ q 3 _ _ v3 (heap_setCell_same _ q 2 _ _ v2 (heap_setCell_same _ q 1 _ _ v1 (heap_setCell_same _ q 0 _ _ v0 h))))), fun j hj => by rw [heap_setCell_other _ _ _ _ hj, heap_setCell_other _ _ _ _ hj, heap_setCell_other _ _ _ _ hj, heap_setCell_other _ _ _ _ hj, heap_setCell_other _ _ _ _ hj], fun W hn hq => (((((hn.setCell (by exact hq) _).setCell (by exact hq) _).setCell (by exact hq) _).setCell (by exact hq) _).setCell (by exact hq) _)⟩
theorem put6_factsC {w : World} {q : Nat} {u0 u1 u2 u3 u4 u5 : Value} {T : TypeId} (v0 v1 v2 v3 v4 v5 : Value) (h : w.heap[q]? = some (.cells #[u0, u1, u2, u3, u4, u5] T (0, 0))) :
    ((((((w.setCell ⟨q, 0, none⟩ v0).setCell ⟨q, 1, none⟩ v1).setCell ⟨q, 2, none⟩ v2).setCell ⟨q, 3, none⟩ v3).setCell ⟨q, 4, none⟩ v4).setCell ⟨q, 5, none⟩ v5).heap[q]? = some (.cells #[v0, v1, v2, v3, v4, v5] T (0, 0)) ∧ (∀ j, j ≠ q → ((((((w.setCell ⟨q, 0, none⟩ v0).setCell ⟨q, 1, none⟩ v1).setCell ⟨q, 2, none⟩ v2).setCell ⟨q, 3, none⟩ v3).setCell ⟨q, 4, none⟩ v4).setCell ⟨q, 5, none⟩ v5).heap[j]? = w.heap[j]?) ∧ (∀ W : World, New W w → W.heap.size ≤ q → New W ((((((w.setCell ⟨q, 0, none⟩ v0).setCell ⟨q, 1, none⟩ v1).setCell ⟨q, 2, none⟩ v2).setCell ⟨q, 3, none⟩ v3).setCell ⟨q, 4, none⟩ v4).setCell ⟨q, 5, none⟩ v5)) :=
  ⟨(heap_setCell_same _ q 5 _ _ v5 (heap_setCell_same _ q 4 _ _ v4 (heap_setCell_same _ q 3 _ _ v3 (heap_setCell_same _ q 2 _ _ v2 (heap_setCell_same _ q 1 _ _ v1 (heap_setCell_same _ q 0 _ _ v0 h)))))), fun j hj => by rw [heap_setCell_other _ _ _ _ hj, heap_setCell_other _ _ _ _ hj, heap_setCell_other _ _ _ _ hj, heap_setCell_other _ _ _ _ hj, heap_setCell_other _ _ _ _ hj, heap_setCell_other _ _ _ _ hj], fun W hn hq => ((((((hn.setCell (by exact hq) _).setCell (by exact hq) _).setCell (by exact hq) _).setCell (by exact hq) _).setCell (by exact hq) _).setCell (by exact hq) _)⟩
theorem so_none (t k b : Int) (h l : BitVec 64) (a : Option Addr) (n c : Nat) (hs : szK k = 0) (w : World) : Calls Tryz.prog 26 #[.agg (cfc t k b h l a n c)] w fun e w' => e = .returned (.tuple #[.agg zst', .int .i64 6]) ∧ New w w' := by
  obtain ⟨hb1, hb2, hN⟩ := two_blocksK w (.cells (cfc t k b h l a n c) 27) (.cells #[.int .i64 0, .int .u64 0, .int .u64 0, .int .u64 0, .int .u64 0] 38)
  generalize hW : (w.alloc (.cells (cfc t k b h l a n c) 27)).alloc (.cells #[.int .i64 0, .int .u64 0, .int .u64 0, .int .u64 0, .int .u64 0] 38) = w0 at *
  have HB1 := Lib.hid hb1
  have HB2 := Lib.hid hb2
  have HN := Lib.hid hN
  clear hb1 hb2 hN
  have HSZ := Lib.hid (fun w => size_any k w)
  rw [hs] at HSZ
  have c0 := cell_of_row _ _ 0 _ _ _ HB1.out
  have c1 := cell_of_row _ _ 1 _ _ _ HB1.out
  have c2 := cell_of_row _ _ 2 _ _ _ HB1.out
  have c3 := cell_of_row _ _ 3 _ _ _ HB1.out
  have c4 := cell_of_row _ _ 4 _ _ _ HB1.out
  have c5 := cell_of_row _ _ 5 _ _ _ HB1.out
  go_enter Tryz.func26, Tryz.ntmps26
  go_wp2_with fail
  refine (HSZ.out _).mono ?_
  rintro e w1 ⟨rfl, hn⟩
  have hz := (hn.block _ (lt_of_block HB2.out)).trans HB2.out
  have r0 := cell_of_row _ _ 0 _ _ _ hz
  have r1 := cell_of_row _ _ 1 _ _ _ hz
  have r2 := cell_of_row _ _ 2 _ _ _ hz
  have r3 := cell_of_row _ _ 3 _ _ _ hz
  have r4 := cell_of_row _ _ 4 _ _ _ hz
  have rf := fun i => frozen_of_row _ _ i _ _ hz
  have hp := put5_factsC (.int .i64 0) (.int .u64 0) (.int .u64 0) (.int .u64 0) (.int .u64 0) hz
  have HN1 := Lib.hid (HN.out.trans hn)
  clear hn c0 c1 c2 c3 c4 c5 HSZ
  go_wp2_with fail
  refine bodyPost_ret (by simp [results, Tryz.results26, go_sem, r0, r1, r2, r3, r4]; try rfl) rfl ?_
  exact ⟨rfl, hp.2.2 _ HN1.out (Nat.le_succ _)⟩

theorem so_form (t k b : Int) (h l : BitVec 64) (a : Option Addr) (n c : Nat) (hs : ¬ szK k = 0) (hl : ¬ (n : Int) = szK k) (w : World) : Calls Tryz.prog 26 #[.agg (cfc t k b h l a n c)] w fun e w' => e = .returned (.tuple #[.agg zst', .int .i64 5]) ∧ New w w' := by
  obtain ⟨hb1, hb2, hN⟩ := two_blocksK w (.cells (cfc t k b h l a n c) 27) (.cells #[.int .i64 0, .int .u64 0, .int .u64 0, .int .u64 0, .int .u64 0] 38)
  generalize hW : (w.alloc (.cells (cfc t k b h l a n c) 27)).alloc (.cells #[.int .i64 0, .int .u64 0, .int .u64 0, .int .u64 0, .int .u64 0] 38) = w0 at *
  have HB1 := Lib.hid hb1
  have HB2 := Lib.hid hb2
  have HN := Lib.hid hN
  clear hb1 hb2 hN
  have HSZ := Lib.hid (fun w => size_any k w)
  have z0 : (szK k == 0) = false := beq_false_of_ne hs
  have z1 : ((n : Int) != szK k) = true := bne_iff_ne.2 hl
  generalize szK k = Z at *
  clear hs hl
  have c0 := cell_of_row _ _ 0 _ _ _ HB1.out
  have c1 := cell_of_row _ _ 1 _ _ _ HB1.out
  have c2 := cell_of_row _ _ 2 _ _ _ HB1.out
  have c3 := cell_of_row _ _ 3 _ _ _ HB1.out
  have c4 := cell_of_row _ _ 4 _ _ _ HB1.out
  have c5 := cell_of_row _ _ 5 _ _ _ HB1.out
  go_enter Tryz.func26, Tryz.ntmps26
  go_wp2_with fail
  refine (HSZ.out _).mono ?_
  rintro e w1 ⟨rfl, hn⟩
  have hz := (hn.block _ (lt_of_block HB2.out)).trans HB2.out
  have hy := (hn.block _ (lt_of_block HB1.out)).trans HB1.out
  clear c0 c1 c2 c3 c4 c5
  have c0 := cell_of_row _ _ 0 _ _ _ hy
  have c1 := cell_of_row _ _ 1 _ _ _ hy
  have c2 := cell_of_row _ _ 2 _ _ _ hy
  have c3 := cell_of_row _ _ 3 _ _ _ hy
  have c4 := cell_of_row _ _ 4 _ _ _ hy
  have c5 := cell_of_row _ _ 5 _ _ _ hy
  have r0 := cell_of_row _ _ 0 _ _ _ hz
  have r1 := cell_of_row _ _ 1 _ _ _ hz
  have r2 := cell_of_row _ _ 2 _ _ _ hz
  have r3 := cell_of_row _ _ 3 _ _ _ hz
  have r4 := cell_of_row _ _ 4 _ _ _ hz
  have rf := fun i => frozen_of_row _ _ i _ _ hz
  have hp := put5_factsC (.int .i64 0) (.int .u64 0) (.int .u64 0) (.int .u64 0) (.int .u64 0) hz
  have HN1 := Lib.hid (HN.out.trans hn)
  clear hn HSZ hy
  go_wp2_with fail
  refine bodyPost_ret (by simp [results, Tryz.results26, go_sem, r0, r1, r2, r3, r4]; try rfl) rfl ?_
  exact ⟨rfl, hp.2.2 _ HN1.out (Nat.le_succ _)⟩
theorem size_u64c : (Tryz.prog.info? 22).map (fun i => i.size) = some 1 := by kernel_rfl
/-- the words are laid behind the kind -/
theorem splice_w4 (k : Int) {n : Nat} {x : List (BitVec 64)} (hx : x.length = n) (hn : n = 1 ∨ n = 2 ∨ n = 4) : splice [.int .i64 k, .int .u64 0, .int .u64 0, .int .u64 0, .int .u64 0] 1 (x.map fun y => Value.int .u64 (W64 y)) = (stc k (w4 x)).toList := by
  rcases hn with rfl | rfl | rfl
  · match x, hx with
    | [p], _ => rfl
  · match x, hx with
    | [p, q], _ => rfl
  · match x, hx with
    | [p, q, r, s], _ => rfl
theorem sz_124 {k : Int} (h : ¬ szK k = 0) : szK k = 1 ∨ szK k = 2 ∨ szK k = 4 := by
  by_cases hk : 1 ≤ k ∧ k ≤ 8
  · exact sz_cases (by unfold okK; simpa using hk)
  · exfalso; apply h; unfold szK
    rw [if_neg (by omega), if_neg (by omega), if_neg (by omega)]
set_option maxHeartbeats 4000000 in
theorem so_fine (t k b : Int) (h l : BitVec 64) (a : Option Addr) (n c : Nat) (x : List (BitVec 64)) (w : World) (hr : QRow w a n c x) (hs : ¬ szK k = 0) (hl : (n : Int) = szK k) : Calls Tryz.prog 26 #[.agg (cfc t k b h l a n c)] w fun e w' => e = .returned (.tuple #[.agg (stc k (w4 x)), .int .i64 (chkK k (w4 x))]) ∧ New w w' := by
  have hn4 : n = 1 ∨ n = 2 ∨ n = 4 := by have := sz_124 hs; omega
  have hxl := hr.len_eq
  have HSP := Lib.hid (splice_w4 k hxl hn4)
  obtain ⟨p, o, rfl, _⟩ := hr.addr (by omega)
  have hn4' : n ≤ 4 := by omega
  have HXL := Lib.hid hxl
  obtain ⟨hb1, hb2, hN⟩ := two_blocksK w (.cells (cfc t k b h l (some ⟨p, o, none⟩) n c) 27) (.cells #[.int .i64 0, .int .u64 0, .int .u64 0, .int .u64 0, .int .u64 0] 38)
  generalize hW : (w.alloc (.cells (cfc t k b h l (some ⟨p, o, none⟩) n c) 27)).alloc (.cells #[.int .i64 0, .int .u64 0, .int .u64 0, .int .u64 0, .int .u64 0] 38) = w0 at *
  have HB1 := Lib.hid hb1
  have HB2 := Lib.hid hb2
  have HN := Lib.hid hN
  clear hb1 hb2 hN
  have HSZ := Lib.hid (fun w => size_any k w)
  have HCK := Lib.hid (fun w => check_any k (w4 x) w)
  have z0 : (szK k == 0) = false := beq_false_of_ne hs
  have z1 : ((n : Int) != szK k) = false := by rw [hl]; exact bne_self_eq_false _
  have HROW := Lib.hid (hr.stay HN.out)
  generalize chkK k (w4 x) = EC at *
  obtain ⟨QW, hQW⟩ : ∃ z, w4 x = z := ⟨_, rfl⟩
  rw [hQW] at HSP HCK ⊢
  generalize szK k = Z at *
  clear hs hl hr hn4 hxl hQW
  have c0 := cell_of_row _ _ 0 _ _ _ HB1.out
  have c1 := cell_of_row _ _ 1 _ _ _ HB1.out
  have c2 := cell_of_row _ _ 2 _ _ _ HB1.out
  have c3 := cell_of_row _ _ 3 _ _ _ HB1.out
  have c4 := cell_of_row _ _ 4 _ _ _ HB1.out
  have c5 := cell_of_row _ _ 5 _ _ _ HB1.out
  go_enter Tryz.func26, Tryz.ntmps26
  go_wp2_with fail
  refine (HSZ.out _).mono ?_
  rintro e w1 ⟨rfl, hn⟩
  have HN1 := Lib.hid hn
  have HB1' := Lib.hid ((hn.block _ (lt_of_block HB1.out)).trans HB1.out)
  have HB2' := Lib.hid ((hn.block _ (lt_of_block HB2.out)).trans HB2.out)
  clear hn c0 c1 c2 c3 c4 c5
  have c0 := cell_of_row _ _ 0 _ _ _ HB1'.out
  have c1 := cell_of_row _ _ 1 _ _ _ HB1'.out
  have c2 := cell_of_row _ _ 2 _ _ _ HB1'.out
  have c3 := cell_of_row _ _ 3 _ _ _ HB1'.out
  have c4 := cell_of_row _ _ 4 _ _ _ HB1'.out
  have c5 := cell_of_row _ _ 5 _ _ _ HB1'.out
  obtain ⟨ws, hws⟩ : ∃ z, w1.alloc (.cells #[.int .i64 k, .int .u64 0, .int .u64 0, .int .u64 0, .int .u64 0] 38) = z := ⟨_, rfl⟩
  have HS : Hid (ws.heap[w1.heap.size]? = some (.cells #[.int .i64 k, .int .u64 0, .int .u64 0, .int .u64 0, .int .u64 0] 38 (0, 0))) := Lib.hid (by rw [← hws]; exact heap_alloc_new w1 _)
  have HNS : Hid (New w1 ws) := Lib.hid (by rw [← hws]; exact (New.refl w1).alloc _)
  have HWS := Lib.hid hws
  clear hws
  go_wp2_with fail
  rw [HWS.out]
  have hbs := (HNS.out.block _ (lt_of_block HB1'.out)).trans HB1'.out
  have HB2s := Lib.hid ((HNS.out.block _ (lt_of_block HB2'.out)).trans HB2'.out)
  clear c0 c1 c2 c3 c4 c5
  have c0 := cell_of_row _ _ 0 _ _ _ hbs
  have c1 := cell_of_row _ _ 1 _ _ _ hbs
  have c2 := cell_of_row _ _ 2 _ _ _ hbs
  have c3 := cell_of_row _ _ 3 _ _ _ hbs
  have c4 := cell_of_row _ _ 4 _ _ _ hbs
  have c5 := cell_of_row _ _ 5 _ _ _ hbs
  have hsz := HS.out
  have hsrc : ∃ ad, (some ⟨p, o, none⟩ : Option Addr) = some ad ∧ ∀ j v, (x.map fun y => Value.int .u64 (W64 y))[j]? = some v → ws.drew.cell? (ad.add j) = some v := ⟨_, rfl, fun j v hj => (HROW.out.stay ((HN1.out.trans HNS.out).drew)).olds _ rfl j v hj⟩
  have HLE : Hid (w.heap.size + 2 ≤ w1.heap.size) := Lib.hid (by have h1 := HN1.out.le; have h2 : w0.heap.size = w.heap.size + 2 := (by rw [← hW]; simp); omega)
  have hln : (x.map fun y => Value.int .u64 (W64 y)).length = Nat.min n 4 := (by rw [List.length_map, HXL.out]; exact (Nat.min_eq_left hn4').symm)
  have hft : 1 + (x.map fun y => Value.int .u64 (W64 y)).length ≤ [Value.int .i64 k, Value.int .u64 0, Value.int .u64 0, Value.int .u64 0, Value.int .u64 0].length := (by rw [List.length_map, HXL.out]; show 1 + n ≤ 5; omega)
  have hon : ∀ v ∈ (x.map fun y => Value.int .u64 (W64 y)), v.oneCell' = true := (by intro v hv; obtain ⟨y, _, rfl⟩ := List.mem_map.1 hv; rfl)
  clear hbs
  have HLN := Lib.hid hln
  have HFT := Lib.hid hft
  have HSRC := Lib.hid hsrc
  have HON := Lib.hid hon
  have HSZZ := Lib.hid hsz
  clear hln hft hsrc hon hsz
  go_region_law (refine step_copy_splice rfl (.tmp 22) (.tmp 24) 25 25 rfl 22 Tryz.underlying25 size_u64c _ _ _ _ _ _ rfl rfl w1.heap.size 1 [Value.int .i64 k, Value.int .u64 0, Value.int .u64 0, Value.int .u64 0, Value.int .u64 0] 38 HSZZ.out (x.map fun y => Value.int .u64 (W64 y)) HLN.out (fun _ => ⟨rfl, HSRC.out⟩) HFT.out HON.out w1.heap.size ws.drew (Below.refl _ _) (Nat.le_refl _) ?_; intro w4 hg4 hb4)
  have hg : w4.heap[w1.heap.size]? = some (.cells (stc k QW) 38 (0, 0)) := by have h4 := hg4; rw [HSP.out] at h4; exact h4
  have HS4 := Lib.hid hg
  have HR4 : Hid (w4.heap[w.heap.size + 1]? = some (.cells #[.int .i64 0, .int .u64 0, .int .u64 0, .int .u64 0, .int .u64 0] 38 (0, 0))) := Lib.hid (by rw [hb4.block _ (by have := HLE.out; omega)]; exact HB2s.out)
  have HN4 : Hid (New w w4) := Lib.hid (Below.trans ((HN.out.trans (HN1.out.trans HNS.out)).drew) (Below.mono hb4 (by have := HLE.out; omega)))
  clear hg hg4 hb4 c0 c1 c2 c3 c4 c5 HSZZ HSRC HLN HFT HON
  go_wp2_with fail
  refine GrowG.wp_region_growS (fun w' => (∃ u0 u1 u2 u3 u4, w'.heap[(w.heap.size + 1)]? = some (.cells #[u0, u1, u2, u3, u4] 38 (0, 0))) ∧ (w'.heap[w1.heap.size]? = some (.cells (stc k QW) 38 (0, 0))) ∧ New w w') (fun _ => True) (fun k => [2, 3].contains k) (fun k => [].contains k) (by kernel_rfl) (by kernel_rfl) (by kernel_rfl) ⟨⟨_, _, _, _, _, HR4.out⟩, HS4.out, HN4.out.drew⟩ trivial ?_
  intro I _ f hall hback
  have HALL := Lib.hid hall
  have HBACK := Lib.hid hback
  have s0 := fun n => cell_of_row _ _ 0 _ _ _ (hall n).2.1
  have s1 := fun n => cell_of_row _ _ 1 _ _ _ (hall n).2.1
  have s2 := fun n => cell_of_row _ _ 2 _ _ _ (hall n).2.1
  have s3 := fun n => cell_of_row _ _ 3 _ _ _ (hall n).2.1
  have s4 := fun n => cell_of_row _ _ 4 _ _ _ (hall n).2.1
  clear hall hback
  refine GrowG.wpGrow_take 2 (by kernel_rfl) ?_
  simp only [List.take, List.drop, List.length]
  repeat (go_big_quiet_step (fail))
  refine wpQuiet_nil ?_
  refine GrowG.wpGrow_turn (fun v => v = .int .i64 EC) (fun _ _ => True) rfl rfl (⟨_, rfl⟩) (fun w1 hB hG => ?_) (fun v0 A0 hv0 hA => ?_)
  · obtain ⟨n, rfl⟩ := hB
    go_simp
    refine (HCK.out _).mono ?_
    rintro e w2 ⟨rfl, hn⟩
    obtain ⟨⟨u0, u1, u2, u3, u4, h1⟩, o0, hnw⟩ := HALL.out n
    have hB2 := HBACK.out _ ⟨⟨_, _, _, _, _, (hn.block _ (lt_of_block h1)).trans h1⟩, (hn.block _ (lt_of_block o0)).trans o0, hnw.trans hn⟩
    first | exact ⟨_, rfl, hB2, rfl, trivial⟩ | exact ⟨rfl, hB2⟩ | exact hB2
  subst hv0
  simp [Act.put] at hA
  subst hA
  refine GrowG.wpGrow_turn (fun v => v = undef) (fun _ w9 => w9.heap[(w.heap.size + 1)]? = some (.cells #[(.int .i64 k), (.int .u64 (W64 QW.a)), (.int .u64 (W64 QW.b)), (.int .u64 (W64 QW.c)), (.int .u64 (W64 QW.d))] 38 (0, 0))) rfl rfl ⟨_, rfl⟩ (fun w1 hB hG => ?_) (fun v1 A1 hv1 hA => ?_)
  · obtain ⟨n, rfl⟩ := hB
    obtain ⟨⟨u0, u1, u2, u3, u4, h1⟩, o0, hnw⟩ := HALL.out n
    have hc0 := cell_of_row _ _ 0 _ _ _ h1
    have hc1 := cell_of_row _ _ 1 _ _ _ h1
    have hc2 := cell_of_row _ _ 2 _ _ _ h1
    have hc3 := cell_of_row _ _ 3 _ _ _ h1
    have hc4 := cell_of_row _ _ 4 _ _ _ h1
    have hfr := fun i => frozen_of_row _ _ i _ _ h1
    have HQ : Hid ((((((((f n).setCell ⟨(w.heap.size + 1), 0, none⟩ (.int .i64 k)).setCell ⟨(w.heap.size + 1), 1, none⟩ (.int .u64 (W64 QW.a))).setCell ⟨(w.heap.size + 1), 2, none⟩ (.int .u64 (W64 QW.b))).setCell ⟨(w.heap.size + 1), 3, none⟩ (.int .u64 (W64 QW.c))).setCell ⟨(w.heap.size + 1), 4, none⟩ (.int .u64 (W64 QW.d)))).heap[(w.heap.size + 1)]? = some (.cells #[(.int .i64 k), (.int .u64 (W64 QW.a)), (.int .u64 (W64 QW.b)), (.int .u64 (W64 QW.c)), (.int .u64 (W64 QW.d))] 38 (0, 0))) := Lib.hid (heap_setCell_same _ ((w.heap.size + 1)) 4 _ _ (.int .u64 (W64 QW.d)) (heap_setCell_same _ ((w.heap.size + 1)) 3 _ _ (.int .u64 (W64 QW.c)) (heap_setCell_same _ ((w.heap.size + 1)) 2 _ _ (.int .u64 (W64 QW.b)) (heap_setCell_same _ ((w.heap.size + 1)) 1 _ _ (.int .u64 (W64 QW.a)) (heap_setCell_same _ ((w.heap.size + 1)) 0 _ _ (.int .i64 k) h1)))))
    have HOT : Hid (∀ j, j ≠ (w.heap.size + 1) → (((((((f n).setCell ⟨(w.heap.size + 1), 0, none⟩ (.int .i64 k)).setCell ⟨(w.heap.size + 1), 1, none⟩ (.int .u64 (W64 QW.a))).setCell ⟨(w.heap.size + 1), 2, none⟩ (.int .u64 (W64 QW.b))).setCell ⟨(w.heap.size + 1), 3, none⟩ (.int .u64 (W64 QW.c))).setCell ⟨(w.heap.size + 1), 4, none⟩ (.int .u64 (W64 QW.d)))).heap[j]? = (f n).heap[j]?) := Lib.hid (fun j hj => by rw [heap_setCell_other _ _ _ _ hj, heap_setCell_other _ _ _ _ hj, heap_setCell_other _ _ _ _ hj, heap_setCell_other _ _ _ _ hj, heap_setCell_other _ _ _ _ hj])
    have HNW : Hid (New w (((((((f n).setCell ⟨(w.heap.size + 1), 0, none⟩ (.int .i64 k)).setCell ⟨(w.heap.size + 1), 1, none⟩ (.int .u64 (W64 QW.a))).setCell ⟨(w.heap.size + 1), 2, none⟩ (.int .u64 (W64 QW.b))).setCell ⟨(w.heap.size + 1), 3, none⟩ (.int .u64 (W64 QW.c))).setCell ⟨(w.heap.size + 1), 4, none⟩ (.int .u64 (W64 QW.d))))) := Lib.hid (((((hnw.setCell (p := ⟨(w.heap.size + 1), 0, none⟩) (by show w.heap.size ≤ w.heap.size + 1; omega) _).setCell (p := ⟨(w.heap.size + 1), 1, none⟩) (by show w.heap.size ≤ w.heap.size + 1; omega) _).setCell (p := ⟨(w.heap.size + 1), 2, none⟩) (by show w.heap.size ≤ w.heap.size + 1; omega) _).setCell (p := ⟨(w.heap.size + 1), 3, none⟩) (by show w.heap.size ≤ w.heap.size + 1; omega) _).setCell (p := ⟨(w.heap.size + 1), 4, none⟩) (by show w.heap.size ≤ w.heap.size + 1; omega) _)
    have HO0 := Lib.hid ((HOT.out _ (by have := HLE.out; omega)).trans o0)
    have HG := Lib.hid hG
    clear hnw h1 hG o0 s0 s1 s2 s3 s4
    go_simp
    exact ⟨HBACK.out _ ⟨⟨_, _, _, _, _, HQ.out⟩, HO0.out, HNW.out⟩, HQ.out⟩
  simp [Act.put] at hA
  subst hA
  refine GrowG.wpGrow_take 1 (by kernel_rfl) ?_
  simp only [List.take, List.drop, List.length]
  repeat (go_big_quiet_step (fail))
  refine wpQuiet_nil ?_
  refine GrowG.wpGrow_nil ?_
  rintro w9 ⟨n9, rfl⟩ hG
  have HF := Lib.hid (HALL.out n9).2.2
  have k0 := cell_of_row _ _ 0 _ _ _ hG
  have k1 := cell_of_row _ _ 1 _ _ _ hG
  have k2 := cell_of_row _ _ 2 _ _ _ hG
  have k3 := cell_of_row _ _ 3 _ _ _ hG
  have k4 := cell_of_row _ _ 4 _ _ _ hG
  clear HALL HBACK s0 s1 s2 s3 s4 hG
  generalize f n9 = w9 at *
  go_wp2_with fail
  refine bodyPost_ret (by simp [results, Tryz.results26, go_sem, k0, k1, k2, k3, k4]; try rfl) rfl ?_
  exact ⟨rfl, HF.out⟩
end Go.Proofs.YthkmcnlciefnfaaGreat
