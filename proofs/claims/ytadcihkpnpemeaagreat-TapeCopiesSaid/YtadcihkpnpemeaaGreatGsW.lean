/- All generators: the document's Next. · All generators: the document's Next, of any kind. -/
import Derived.Test.YtadcihkpnpemeaaGreatGsU
namespace Go.Proofs.YtadcihkpnpemeaaGreat
open Go.RowKit Go.Bv
set_option linter.unusedVariables false
set_option maxRecDepth 100000
theorem out_rotG (s : BitVec 64) : ((s / 262144#64 ^^^ s) / 134217728#64 % 4294967296#64).setWidth 32 = ((s >>> 18 ^^^ s) >>> 27).setWidth 32 := by
  rw [div_shr s 18 (by omega)]
  rw [div_shr _ 27 (by omega)]
  apply BitVec.eq_of_getLsbD_eq
  intro i hi
  have := mod_low ((s >>> 18 ^^^ s) >>> 27) 32 (by omega) i
  rw [BitVec.getLsbD_setWidth, BitVec.getLsbD_setWidth]
  simp only [decide_eq_true hi, Bool.true_and] at this ⊢
  exact this
set_option maxHeartbeats 400000 in
theorem rout13 (s : Int) (hs : 0 ≤ s ∧ s < 18446744073709551616) (w : World) :
    Calls Tryz.prog 31 #[.int .u64 s] w fun e w' => e = .returned (.int .u32 (W32 (out13 (BitVec.ofInt 64 s)))) ∧ w' = w := by
  obtain ⟨x, rfl⟩ := ex64 s hs
  rw [ofInt_W64]
  go_enter Tryz.func31, Tryz.ntmps31
  have hy : W64 (x / 576460752303423488#64) = W32 ((x >>> 59).setWidth 32) ∧ 0 ≤ W32 ((x >>> 59).setWidth 32) ∧ W32 ((x >>> 59).setWidth 32) < 32 := by
    have h1 : (x >>> 59).toNat < 32 := by rw [BitVec.toNat_ushiftRight, Nat.shiftRight_eq_div_pow]; have := x.isLt; omega
    rw [w32_small _ (by omega), div_shr x 59 (by omega)]
    unfold W64
    omega
  have HY := Lib.hid hy
  clear hy
  go_wp2_with (go_at_call 41; refine (rot32_ref _ (b32 _) _ (by unfold wrap64; omega) _).mono ?_; rintro e w' ⟨rfl, rfl⟩)
  go_ret
  refine ⟨ret32 ?_, rfl⟩
  rw [out_rotG, HY.out.1]
  obtain ⟨_, hy0, hy1⟩ := HY.out
  unfold out13
  congr 2
  unfold wrap64
  omega
set_option maxHeartbeats 4000000 in
theorem rnx1 (s r o : BitVec 64) (hst : (∀ w, Calls Tryz.prog 27 #[.agg #[.int .i64 1, .int .u64 (W64 s), .int .u64 0, .int .u64 0, .int .u64 0]] w fun e w' => e = .returned (.agg #[.int .i64 1, .int .u64 (W64 r), .int .u64 0, .int .u64 0, .int .u64 0]) ∧ New w w')) (ho : ∀ w, Calls Tryz.prog 28 #[.int .u64 (W64 s), .int .u64 1] w fun e w' => e = .returned (.int .u64 (W64 o)) ∧ New w w') (w : World) : Calls Tryz.prog 22 #[.agg #[.int .i64 1, .int .u64 (W64 s), .int .u64 0, .int .u64 0, .int .u64 0]] w fun e w' => e = .returned (.tuple #[.int .u64 (W64 o), .agg #[.int .i64 1, .int .u64 (W64 r), .int .u64 0, .int .u64 0, .int .u64 0]]) ∧ New w w' := by
  have HST := Lib.hid hst
  have HO := Lib.hid ho
  clear hst ho
  have hz := two_blocksG w (.cells #[.int .i64 1, .int .u64 (W64 s), .int .u64 0, .int .u64 0, .int .u64 0] 25) (.cells zst 25)
  have HZ := Lib.hid hz
  clear hz
  go_enter Tryz.func22, Tryz.ntmps22
  go_wp2_with fail
  refine (HST.out _).mono ?_
  rintro e w1 ⟨rfl, n1⟩
  have hb := heap_alloc_new w1 (.cells #[.int .i64 1, .int .u64 (W64 r), .int .u64 0, .int .u64 0, .int .u64 0] 25)
  have n2 := n1.alloc (.cells #[.int .i64 1, .int .u64 (W64 r), .int .u64 0, .int .u64 0, .int .u64 0] 25)
  have hx := (n2.block _ (lt_of_block HZ.out.1)).trans HZ.out.1
  have hy := (n2.block _ (lt_of_block HZ.out.2.1)).trans HZ.out.2.1
  have hN := HZ.out.2.2.trans n2
  have HNG : Hid (w1.heap.size ≠ w.heap.size + 1) := Lib.hid (by have := lt_of_block ((n1.block _ (lt_of_block HZ.out.2.1)).trans HZ.out.2.1); omega)
  have bx0 := cell_of_row _ _ 0 _ _ _ hx
  have bx1 := cell_of_row _ _ 1 _ _ _ hx
  have bx2 := cell_of_row _ _ 2 _ _ _ hx
  have bx3 := cell_of_row _ _ 3 _ _ _ hx
  have bx4 := cell_of_row _ _ 4 _ _ _ hx
  go_wp2_with fail
  generalize hw3 : World.alloc w1 _ = w3 at *
  generalize hg : w1.heap.size = g at *
  have HB := Lib.hid hb
  have HX := Lib.hid hx
  have HY := Lib.hid hy
  have HN3 := Lib.hid hN
  clear bx0 bx1 bx2 bx3 bx4
  clear hb hx hy hN hw3 n1 n2 hg HZ HST
  have SK : Hid (∀ w', Kb w3 (w.heap.size + 1) w' → Kb w3 (w.heap.size + 1) w' ∧ w'.cell? ⟨w.heap.size, 1, none⟩ = some (.int .u64 (W64 s)) ∧ w'.cell? ⟨g, 0, none⟩ = some (.int .i64 1) ∧ w'.cell? ⟨g, 1, none⟩ = some (.int .u64 (W64 r)) ∧ w'.cell? ⟨g, 2, none⟩ = some (.int .u64 0) ∧ w'.cell? ⟨g, 3, none⟩ = some (.int .u64 0) ∧ w'.cell? ⟨g, 4, none⟩ = some (.int .u64 0)) := Lib.hid (fun w' hn => ⟨hn, cell_of_row _ _ 1 _ _ _ (hn.block HX.out (by omega)), cell_of_row _ _ 0 _ _ _ (hn.block HB.out (HNG.out)), cell_of_row _ _ 1 _ _ _ (hn.block HB.out (HNG.out)), cell_of_row _ _ 2 _ _ _ (hn.block HB.out (HNG.out)), cell_of_row _ _ 3 _ _ _ (hn.block HB.out (HNG.out)), cell_of_row _ _ 4 _ _ _ (hn.block HB.out (HNG.out))⟩)
  obtain ⟨_, ce0, ce1, ce2, ce3, ce4, ce5⟩ := SK.out w3 (Kb.refl _ _)
  go_region_held3 (fun w' => Kb w3 (w.heap.size + 1) w' ∧ w'.cell? ⟨w.heap.size, 1, none⟩ = some (.int .u64 (W64 s)) ∧ w'.cell? ⟨g, 0, none⟩ = some (.int .i64 1) ∧ w'.cell? ⟨g, 1, none⟩ = some (.int .u64 (W64 r)) ∧ w'.cell? ⟨g, 2, none⟩ = some (.int .u64 0) ∧ w'.cell? ⟨g, 3, none⟩ = some (.int .u64 0) ∧ w'.cell? ⟨g, 4, none⟩ = some (.int .u64 0))
    ((refine SK.out _ ?_; repeat (first | with_reducible assumption | with_reducible exact Kb.refl _ _ | with_reducible refine Kb.drew ?_ | with_reducible refine Kb.set ?_ _ _)))
    (first
    | (go_at_call 28
       refine (HO.out _).mono ?_
       rintro e q0 ⟨rfl, hc0⟩
       have hg0 : New w3 q0 := by first | with_reducible exact (New.refl w3).drew.trans hc0 | with_reducible exact hc0
       have hw1 : Kb w3 (w.heap.size + 1) q0 := (Kb.refl _ _).new hg0
       have hz0 := (hg0.block _ (lt_of_block HY.out)).trans HY.out
       have d0 := cell_of_row _ _ 0 _ _ _ hz0
       have d1 := cell_of_row _ _ 1 _ _ _ hz0
       have d2 := cell_of_row _ _ 2 _ _ _ hz0
       have d3 := cell_of_row _ _ 3 _ _ _ hz0
       have d4 := cell_of_row _ _ 4 _ _ _ hz0
       have df := fun i => frozen_of_row _ _ i _ _ hz0
       have HG := Lib.hid (HN3.out.trans hg0)
       clear hz0
       clear hc0))
  all_goals
    go_wp2
    refine bodyPost_ret (by simp [results, Tryz.results22, go_sem, d0, d1, d2, d3, d4]; try rfl) rfl ?_
    first | exact ⟨rfl, ((((((((((HG.out).setCell (by show w.heap.size ≤ w.heap.size + 1; omega) _)).setCell (by show w.heap.size ≤ w.heap.size + 1; omega) _)).setCell (by show w.heap.size ≤ w.heap.size + 1; omega) _)).setCell (by show w.heap.size ≤ w.heap.size + 1; omega) _)).setCell (by show w.heap.size ≤ w.heap.size + 1; omega) _)⟩ | exact ⟨rfl, (((((((((((HG.out).setCell (by show w.heap.size ≤ w.heap.size + 1; omega) _)).setCell (by show w.heap.size ≤ w.heap.size + 1; omega) _)).setCell (by show w.heap.size ≤ w.heap.size + 1; omega) _)).setCell (by show w.heap.size ≤ w.heap.size + 1; omega) _)).setCell (by show w.heap.size ≤ w.heap.size + 1; omega) _)).drew⟩
set_option maxHeartbeats 4000000 in
theorem rnx2 (qa qb qc qd ra rb rc rd o : BitVec 64) (hst : (∀ w, Calls Tryz.prog 27 #[.agg #[.int .i64 2, .int .u64 (W64 qa), .int .u64 (W64 qb), .int .u64 (W64 qc), .int .u64 (W64 qd)]] w fun e w' => e = .returned (.agg #[.int .i64 2, .int .u64 (W64 ra), .int .u64 (W64 rb), .int .u64 (W64 rc), .int .u64 (W64 rd)]) ∧ New w w')) (ho : ∀ w, Calls Tryz.prog 29 #[.int .i64 2, .agg #[.int .u64 (W64 qa), .int .u64 (W64 qb), .int .u64 (W64 qc), .int .u64 (W64 qd)]] w fun e w' => e = .returned (.int .u64 (W64 o)) ∧ New w w') (w : World) : Calls Tryz.prog 22 #[.agg #[.int .i64 2, .int .u64 (W64 qa), .int .u64 (W64 qb), .int .u64 (W64 qc), .int .u64 (W64 qd)]] w fun e w' => e = .returned (.tuple #[.int .u64 (W64 o), .agg #[.int .i64 2, .int .u64 (W64 ra), .int .u64 (W64 rb), .int .u64 (W64 rc), .int .u64 (W64 rd)]]) ∧ New w w' := by
  have HST := Lib.hid hst
  have HO := Lib.hid ho
  clear hst ho
  have hz := two_blocksG w (.cells #[.int .i64 2, .int .u64 (W64 qa), .int .u64 (W64 qb), .int .u64 (W64 qc), .int .u64 (W64 qd)] 25) (.cells zst 25)
  have HZ := Lib.hid hz
  clear hz
  go_enter Tryz.func22, Tryz.ntmps22
  go_wp2_with fail
  refine (HST.out _).mono ?_
  rintro e w1 ⟨rfl, n1⟩
  have hb := heap_alloc_new w1 (.cells #[.int .i64 2, .int .u64 (W64 ra), .int .u64 (W64 rb), .int .u64 (W64 rc), .int .u64 (W64 rd)] 25)
  have n2 := n1.alloc (.cells #[.int .i64 2, .int .u64 (W64 ra), .int .u64 (W64 rb), .int .u64 (W64 rc), .int .u64 (W64 rd)] 25)
  have hx := (n2.block _ (lt_of_block HZ.out.1)).trans HZ.out.1
  have hy := (n2.block _ (lt_of_block HZ.out.2.1)).trans HZ.out.2.1
  have hN := HZ.out.2.2.trans n2
  have HNG : Hid (w1.heap.size ≠ w.heap.size + 1) := Lib.hid (by have := lt_of_block ((n1.block _ (lt_of_block HZ.out.2.1)).trans HZ.out.2.1); omega)
  have bx0 := cell_of_row _ _ 0 _ _ _ hx
  have bx1 := cell_of_row _ _ 1 _ _ _ hx
  have bx2 := cell_of_row _ _ 2 _ _ _ hx
  have bx3 := cell_of_row _ _ 3 _ _ _ hx
  have bx4 := cell_of_row _ _ 4 _ _ _ hx
  go_wp2_with fail
  generalize hw3 : World.alloc w1 _ = w3 at *
  generalize hg : w1.heap.size = g at *
  have HB := Lib.hid hb
  have HX := Lib.hid hx
  have HY := Lib.hid hy
  have HN3 := Lib.hid hN
  clear bx0 bx1 bx2 bx3 bx4
  clear hb hx hy hN hw3 n1 n2 hg HZ HST
  have SK : Hid (∀ w', Kb w3 (w.heap.size + 1) w' → Kb w3 (w.heap.size + 1) w' ∧ w'.cell? ⟨w.heap.size, 0, none⟩ = some (.int .i64 2) ∧ w'.cell? ⟨w.heap.size, 1, none⟩ = some (.int .u64 (W64 qa)) ∧ w'.cell? ⟨w.heap.size, 2, none⟩ = some (.int .u64 (W64 qb)) ∧ w'.cell? ⟨w.heap.size, 3, none⟩ = some (.int .u64 (W64 qc)) ∧ w'.cell? ⟨w.heap.size, 4, none⟩ = some (.int .u64 (W64 qd)) ∧ w'.cell? ⟨g, 0, none⟩ = some (.int .i64 2) ∧ w'.cell? ⟨g, 1, none⟩ = some (.int .u64 (W64 ra)) ∧ w'.cell? ⟨g, 2, none⟩ = some (.int .u64 (W64 rb)) ∧ w'.cell? ⟨g, 3, none⟩ = some (.int .u64 (W64 rc)) ∧ w'.cell? ⟨g, 4, none⟩ = some (.int .u64 (W64 rd))) := Lib.hid (fun w' hn => ⟨hn, cell_of_row _ _ 0 _ _ _ (hn.block HX.out (by omega)), cell_of_row _ _ 1 _ _ _ (hn.block HX.out (by omega)), cell_of_row _ _ 2 _ _ _ (hn.block HX.out (by omega)), cell_of_row _ _ 3 _ _ _ (hn.block HX.out (by omega)), cell_of_row _ _ 4 _ _ _ (hn.block HX.out (by omega)), cell_of_row _ _ 0 _ _ _ (hn.block HB.out (HNG.out)), cell_of_row _ _ 1 _ _ _ (hn.block HB.out (HNG.out)), cell_of_row _ _ 2 _ _ _ (hn.block HB.out (HNG.out)), cell_of_row _ _ 3 _ _ _ (hn.block HB.out (HNG.out)), cell_of_row _ _ 4 _ _ _ (hn.block HB.out (HNG.out))⟩)
  obtain ⟨_, ce0, ce1, ce2, ce3, ce4, ce5, ce6, ce7, ce8, ce9⟩ := SK.out w3 (Kb.refl _ _)
  go_region_held3 (fun w' => Kb w3 (w.heap.size + 1) w' ∧ w'.cell? ⟨w.heap.size, 0, none⟩ = some (.int .i64 2) ∧ w'.cell? ⟨w.heap.size, 1, none⟩ = some (.int .u64 (W64 qa)) ∧ w'.cell? ⟨w.heap.size, 2, none⟩ = some (.int .u64 (W64 qb)) ∧ w'.cell? ⟨w.heap.size, 3, none⟩ = some (.int .u64 (W64 qc)) ∧ w'.cell? ⟨w.heap.size, 4, none⟩ = some (.int .u64 (W64 qd)) ∧ w'.cell? ⟨g, 0, none⟩ = some (.int .i64 2) ∧ w'.cell? ⟨g, 1, none⟩ = some (.int .u64 (W64 ra)) ∧ w'.cell? ⟨g, 2, none⟩ = some (.int .u64 (W64 rb)) ∧ w'.cell? ⟨g, 3, none⟩ = some (.int .u64 (W64 rc)) ∧ w'.cell? ⟨g, 4, none⟩ = some (.int .u64 (W64 rd)))
    ((refine SK.out _ ?_; repeat (first | with_reducible assumption | with_reducible exact Kb.refl _ _ | with_reducible refine Kb.drew ?_ | with_reducible refine Kb.set ?_ _ _)))
    (first
    | (go_at_call 29
       refine (HO.out _).mono ?_
       rintro e q0 ⟨rfl, hc0⟩
       have hg0 : New w3 q0 := by first | with_reducible exact (New.refl w3).drew.trans hc0 | with_reducible exact hc0
       have hw1 : Kb w3 (w.heap.size + 1) q0 := (Kb.refl _ _).new hg0
       have hz0 := (hg0.block _ (lt_of_block HY.out)).trans HY.out
       have d0 := cell_of_row _ _ 0 _ _ _ hz0
       have d1 := cell_of_row _ _ 1 _ _ _ hz0
       have d2 := cell_of_row _ _ 2 _ _ _ hz0
       have d3 := cell_of_row _ _ 3 _ _ _ hz0
       have d4 := cell_of_row _ _ 4 _ _ _ hz0
       have df := fun i => frozen_of_row _ _ i _ _ hz0
       have HG := Lib.hid (HN3.out.trans hg0)
       clear hz0
       clear hc0))
  all_goals
    go_wp2
    refine bodyPost_ret (by simp [results, Tryz.results22, go_sem, d0, d1, d2, d3, d4]; try rfl) rfl ?_
    first | exact ⟨rfl, ((((((((((HG.out).setCell (by show w.heap.size ≤ w.heap.size + 1; omega) _)).setCell (by show w.heap.size ≤ w.heap.size + 1; omega) _)).setCell (by show w.heap.size ≤ w.heap.size + 1; omega) _)).setCell (by show w.heap.size ≤ w.heap.size + 1; omega) _)).setCell (by show w.heap.size ≤ w.heap.size + 1; omega) _)⟩ | exact ⟨rfl, (((((((((((HG.out).setCell (by show w.heap.size ≤ w.heap.size + 1; omega) _)).setCell (by show w.heap.size ≤ w.heap.size + 1; omega) _)).setCell (by show w.heap.size ≤ w.heap.size + 1; omega) _)).setCell (by show w.heap.size ≤ w.heap.size + 1; omega) _)).setCell (by show w.heap.size ≤ w.heap.size + 1; omega) _)).drew⟩
set_option maxHeartbeats 4000000 in
theorem rnx3 (qa qb qc qd ra rb rc rd o : BitVec 64) (hst : (∀ w, Calls Tryz.prog 27 #[.agg #[.int .i64 3, .int .u64 (W64 qa), .int .u64 (W64 qb), .int .u64 (W64 qc), .int .u64 (W64 qd)]] w fun e w' => e = .returned (.agg #[.int .i64 3, .int .u64 (W64 ra), .int .u64 (W64 rb), .int .u64 (W64 rc), .int .u64 (W64 rd)]) ∧ New w w')) (ho : ∀ w, Calls Tryz.prog 29 #[.int .i64 3, .agg #[.int .u64 (W64 qa), .int .u64 (W64 qb), .int .u64 (W64 qc), .int .u64 (W64 qd)]] w fun e w' => e = .returned (.int .u64 (W64 o)) ∧ New w w') (w : World) : Calls Tryz.prog 22 #[.agg #[.int .i64 3, .int .u64 (W64 qa), .int .u64 (W64 qb), .int .u64 (W64 qc), .int .u64 (W64 qd)]] w fun e w' => e = .returned (.tuple #[.int .u64 (W64 o), .agg #[.int .i64 3, .int .u64 (W64 ra), .int .u64 (W64 rb), .int .u64 (W64 rc), .int .u64 (W64 rd)]]) ∧ New w w' := by
  have HST := Lib.hid hst
  have HO := Lib.hid ho
  clear hst ho
  have hz := two_blocksG w (.cells #[.int .i64 3, .int .u64 (W64 qa), .int .u64 (W64 qb), .int .u64 (W64 qc), .int .u64 (W64 qd)] 25) (.cells zst 25)
  have HZ := Lib.hid hz
  clear hz
  go_enter Tryz.func22, Tryz.ntmps22
  go_wp2_with fail
  refine (HST.out _).mono ?_
  rintro e w1 ⟨rfl, n1⟩
  have hb := heap_alloc_new w1 (.cells #[.int .i64 3, .int .u64 (W64 ra), .int .u64 (W64 rb), .int .u64 (W64 rc), .int .u64 (W64 rd)] 25)
  have n2 := n1.alloc (.cells #[.int .i64 3, .int .u64 (W64 ra), .int .u64 (W64 rb), .int .u64 (W64 rc), .int .u64 (W64 rd)] 25)
  have hx := (n2.block _ (lt_of_block HZ.out.1)).trans HZ.out.1
  have hy := (n2.block _ (lt_of_block HZ.out.2.1)).trans HZ.out.2.1
  have hN := HZ.out.2.2.trans n2
  have HNG : Hid (w1.heap.size ≠ w.heap.size + 1) := Lib.hid (by have := lt_of_block ((n1.block _ (lt_of_block HZ.out.2.1)).trans HZ.out.2.1); omega)
  have bx0 := cell_of_row _ _ 0 _ _ _ hx
  have bx1 := cell_of_row _ _ 1 _ _ _ hx
  have bx2 := cell_of_row _ _ 2 _ _ _ hx
  have bx3 := cell_of_row _ _ 3 _ _ _ hx
  have bx4 := cell_of_row _ _ 4 _ _ _ hx
  go_wp2_with fail
  generalize hw3 : World.alloc w1 _ = w3 at *
  generalize hg : w1.heap.size = g at *
  have HB := Lib.hid hb
  have HX := Lib.hid hx
  have HY := Lib.hid hy
  have HN3 := Lib.hid hN
  clear bx0 bx1 bx2 bx3 bx4
  clear hb hx hy hN hw3 n1 n2 hg HZ HST
  have SK : Hid (∀ w', Kb w3 (w.heap.size + 1) w' → Kb w3 (w.heap.size + 1) w' ∧ w'.cell? ⟨w.heap.size, 0, none⟩ = some (.int .i64 3) ∧ w'.cell? ⟨w.heap.size, 1, none⟩ = some (.int .u64 (W64 qa)) ∧ w'.cell? ⟨w.heap.size, 2, none⟩ = some (.int .u64 (W64 qb)) ∧ w'.cell? ⟨w.heap.size, 3, none⟩ = some (.int .u64 (W64 qc)) ∧ w'.cell? ⟨w.heap.size, 4, none⟩ = some (.int .u64 (W64 qd)) ∧ w'.cell? ⟨g, 0, none⟩ = some (.int .i64 3) ∧ w'.cell? ⟨g, 1, none⟩ = some (.int .u64 (W64 ra)) ∧ w'.cell? ⟨g, 2, none⟩ = some (.int .u64 (W64 rb)) ∧ w'.cell? ⟨g, 3, none⟩ = some (.int .u64 (W64 rc)) ∧ w'.cell? ⟨g, 4, none⟩ = some (.int .u64 (W64 rd))) := Lib.hid (fun w' hn => ⟨hn, cell_of_row _ _ 0 _ _ _ (hn.block HX.out (by omega)), cell_of_row _ _ 1 _ _ _ (hn.block HX.out (by omega)), cell_of_row _ _ 2 _ _ _ (hn.block HX.out (by omega)), cell_of_row _ _ 3 _ _ _ (hn.block HX.out (by omega)), cell_of_row _ _ 4 _ _ _ (hn.block HX.out (by omega)), cell_of_row _ _ 0 _ _ _ (hn.block HB.out (HNG.out)), cell_of_row _ _ 1 _ _ _ (hn.block HB.out (HNG.out)), cell_of_row _ _ 2 _ _ _ (hn.block HB.out (HNG.out)), cell_of_row _ _ 3 _ _ _ (hn.block HB.out (HNG.out)), cell_of_row _ _ 4 _ _ _ (hn.block HB.out (HNG.out))⟩)
  obtain ⟨_, ce0, ce1, ce2, ce3, ce4, ce5, ce6, ce7, ce8, ce9⟩ := SK.out w3 (Kb.refl _ _)
  go_region_held3 (fun w' => Kb w3 (w.heap.size + 1) w' ∧ w'.cell? ⟨w.heap.size, 0, none⟩ = some (.int .i64 3) ∧ w'.cell? ⟨w.heap.size, 1, none⟩ = some (.int .u64 (W64 qa)) ∧ w'.cell? ⟨w.heap.size, 2, none⟩ = some (.int .u64 (W64 qb)) ∧ w'.cell? ⟨w.heap.size, 3, none⟩ = some (.int .u64 (W64 qc)) ∧ w'.cell? ⟨w.heap.size, 4, none⟩ = some (.int .u64 (W64 qd)) ∧ w'.cell? ⟨g, 0, none⟩ = some (.int .i64 3) ∧ w'.cell? ⟨g, 1, none⟩ = some (.int .u64 (W64 ra)) ∧ w'.cell? ⟨g, 2, none⟩ = some (.int .u64 (W64 rb)) ∧ w'.cell? ⟨g, 3, none⟩ = some (.int .u64 (W64 rc)) ∧ w'.cell? ⟨g, 4, none⟩ = some (.int .u64 (W64 rd)))
    ((refine SK.out _ ?_; repeat (first | with_reducible assumption | with_reducible exact Kb.refl _ _ | with_reducible refine Kb.drew ?_ | with_reducible refine Kb.set ?_ _ _)))
    (first
    | (go_at_call 29
       refine (HO.out _).mono ?_
       rintro e q0 ⟨rfl, hc0⟩
       have hg0 : New w3 q0 := by first | with_reducible exact (New.refl w3).drew.trans hc0 | with_reducible exact hc0
       have hw1 : Kb w3 (w.heap.size + 1) q0 := (Kb.refl _ _).new hg0
       have hz0 := (hg0.block _ (lt_of_block HY.out)).trans HY.out
       have d0 := cell_of_row _ _ 0 _ _ _ hz0
       have d1 := cell_of_row _ _ 1 _ _ _ hz0
       have d2 := cell_of_row _ _ 2 _ _ _ hz0
       have d3 := cell_of_row _ _ 3 _ _ _ hz0
       have d4 := cell_of_row _ _ 4 _ _ _ hz0
       have df := fun i => frozen_of_row _ _ i _ _ hz0
       have HG := Lib.hid (HN3.out.trans hg0)
       clear hz0
       clear hc0))
  all_goals
    go_wp2
    refine bodyPost_ret (by simp [results, Tryz.results22, go_sem, d0, d1, d2, d3, d4]; try rfl) rfl ?_
    first | exact ⟨rfl, ((((((((((HG.out).setCell (by show w.heap.size ≤ w.heap.size + 1; omega) _)).setCell (by show w.heap.size ≤ w.heap.size + 1; omega) _)).setCell (by show w.heap.size ≤ w.heap.size + 1; omega) _)).setCell (by show w.heap.size ≤ w.heap.size + 1; omega) _)).setCell (by show w.heap.size ≤ w.heap.size + 1; omega) _)⟩ | exact ⟨rfl, (((((((((((HG.out).setCell (by show w.heap.size ≤ w.heap.size + 1; omega) _)).setCell (by show w.heap.size ≤ w.heap.size + 1; omega) _)).setCell (by show w.heap.size ≤ w.heap.size + 1; omega) _)).setCell (by show w.heap.size ≤ w.heap.size + 1; omega) _)).setCell (by show w.heap.size ≤ w.heap.size + 1; omega) _)).drew⟩
set_option maxHeartbeats 4000000 in
theorem rnx4 (qa qb qc qd ra rb rc rd o : BitVec 64) (hst : (∀ w, Calls Tryz.prog 27 #[.agg #[.int .i64 4, .int .u64 (W64 qa), .int .u64 (W64 qb), .int .u64 (W64 qc), .int .u64 (W64 qd)]] w fun e w' => e = .returned (.agg #[.int .i64 4, .int .u64 (W64 ra), .int .u64 (W64 rb), .int .u64 (W64 rc), .int .u64 (W64 rd)]) ∧ New w w')) (ho : ∀ w, Calls Tryz.prog 29 #[.int .i64 4, .agg #[.int .u64 (W64 qa), .int .u64 (W64 qb), .int .u64 (W64 qc), .int .u64 (W64 qd)]] w fun e w' => e = .returned (.int .u64 (W64 o)) ∧ New w w') (w : World) : Calls Tryz.prog 22 #[.agg #[.int .i64 4, .int .u64 (W64 qa), .int .u64 (W64 qb), .int .u64 (W64 qc), .int .u64 (W64 qd)]] w fun e w' => e = .returned (.tuple #[.int .u64 (W64 o), .agg #[.int .i64 4, .int .u64 (W64 ra), .int .u64 (W64 rb), .int .u64 (W64 rc), .int .u64 (W64 rd)]]) ∧ New w w' := by
  have HST := Lib.hid hst
  have HO := Lib.hid ho
  clear hst ho
  have hz := two_blocksG w (.cells #[.int .i64 4, .int .u64 (W64 qa), .int .u64 (W64 qb), .int .u64 (W64 qc), .int .u64 (W64 qd)] 25) (.cells zst 25)
  have HZ := Lib.hid hz
  clear hz
  go_enter Tryz.func22, Tryz.ntmps22
  go_wp2_with fail
  refine (HST.out _).mono ?_
  rintro e w1 ⟨rfl, n1⟩
  have hb := heap_alloc_new w1 (.cells #[.int .i64 4, .int .u64 (W64 ra), .int .u64 (W64 rb), .int .u64 (W64 rc), .int .u64 (W64 rd)] 25)
  have n2 := n1.alloc (.cells #[.int .i64 4, .int .u64 (W64 ra), .int .u64 (W64 rb), .int .u64 (W64 rc), .int .u64 (W64 rd)] 25)
  have hx := (n2.block _ (lt_of_block HZ.out.1)).trans HZ.out.1
  have hy := (n2.block _ (lt_of_block HZ.out.2.1)).trans HZ.out.2.1
  have hN := HZ.out.2.2.trans n2
  have HNG : Hid (w1.heap.size ≠ w.heap.size + 1) := Lib.hid (by have := lt_of_block ((n1.block _ (lt_of_block HZ.out.2.1)).trans HZ.out.2.1); omega)
  have bx0 := cell_of_row _ _ 0 _ _ _ hx
  have bx1 := cell_of_row _ _ 1 _ _ _ hx
  have bx2 := cell_of_row _ _ 2 _ _ _ hx
  have bx3 := cell_of_row _ _ 3 _ _ _ hx
  have bx4 := cell_of_row _ _ 4 _ _ _ hx
  go_wp2_with fail
  generalize hw3 : World.alloc w1 _ = w3 at *
  generalize hg : w1.heap.size = g at *
  have HB := Lib.hid hb
  have HX := Lib.hid hx
  have HY := Lib.hid hy
  have HN3 := Lib.hid hN
  clear bx0 bx1 bx2 bx3 bx4
  clear hb hx hy hN hw3 n1 n2 hg HZ HST
  have SK : Hid (∀ w', Kb w3 (w.heap.size + 1) w' → Kb w3 (w.heap.size + 1) w' ∧ w'.cell? ⟨w.heap.size, 0, none⟩ = some (.int .i64 4) ∧ w'.cell? ⟨w.heap.size, 1, none⟩ = some (.int .u64 (W64 qa)) ∧ w'.cell? ⟨w.heap.size, 2, none⟩ = some (.int .u64 (W64 qb)) ∧ w'.cell? ⟨w.heap.size, 3, none⟩ = some (.int .u64 (W64 qc)) ∧ w'.cell? ⟨w.heap.size, 4, none⟩ = some (.int .u64 (W64 qd)) ∧ w'.cell? ⟨g, 0, none⟩ = some (.int .i64 4) ∧ w'.cell? ⟨g, 1, none⟩ = some (.int .u64 (W64 ra)) ∧ w'.cell? ⟨g, 2, none⟩ = some (.int .u64 (W64 rb)) ∧ w'.cell? ⟨g, 3, none⟩ = some (.int .u64 (W64 rc)) ∧ w'.cell? ⟨g, 4, none⟩ = some (.int .u64 (W64 rd))) := Lib.hid (fun w' hn => ⟨hn, cell_of_row _ _ 0 _ _ _ (hn.block HX.out (by omega)), cell_of_row _ _ 1 _ _ _ (hn.block HX.out (by omega)), cell_of_row _ _ 2 _ _ _ (hn.block HX.out (by omega)), cell_of_row _ _ 3 _ _ _ (hn.block HX.out (by omega)), cell_of_row _ _ 4 _ _ _ (hn.block HX.out (by omega)), cell_of_row _ _ 0 _ _ _ (hn.block HB.out (HNG.out)), cell_of_row _ _ 1 _ _ _ (hn.block HB.out (HNG.out)), cell_of_row _ _ 2 _ _ _ (hn.block HB.out (HNG.out)), cell_of_row _ _ 3 _ _ _ (hn.block HB.out (HNG.out)), cell_of_row _ _ 4 _ _ _ (hn.block HB.out (HNG.out))⟩)
  obtain ⟨_, ce0, ce1, ce2, ce3, ce4, ce5, ce6, ce7, ce8, ce9⟩ := SK.out w3 (Kb.refl _ _)
  go_region_held3 (fun w' => Kb w3 (w.heap.size + 1) w' ∧ w'.cell? ⟨w.heap.size, 0, none⟩ = some (.int .i64 4) ∧ w'.cell? ⟨w.heap.size, 1, none⟩ = some (.int .u64 (W64 qa)) ∧ w'.cell? ⟨w.heap.size, 2, none⟩ = some (.int .u64 (W64 qb)) ∧ w'.cell? ⟨w.heap.size, 3, none⟩ = some (.int .u64 (W64 qc)) ∧ w'.cell? ⟨w.heap.size, 4, none⟩ = some (.int .u64 (W64 qd)) ∧ w'.cell? ⟨g, 0, none⟩ = some (.int .i64 4) ∧ w'.cell? ⟨g, 1, none⟩ = some (.int .u64 (W64 ra)) ∧ w'.cell? ⟨g, 2, none⟩ = some (.int .u64 (W64 rb)) ∧ w'.cell? ⟨g, 3, none⟩ = some (.int .u64 (W64 rc)) ∧ w'.cell? ⟨g, 4, none⟩ = some (.int .u64 (W64 rd)))
    ((refine SK.out _ ?_; repeat (first | with_reducible assumption | with_reducible exact Kb.refl _ _ | with_reducible refine Kb.drew ?_ | with_reducible refine Kb.set ?_ _ _)))
    (first
    | (go_at_call 29
       refine (HO.out _).mono ?_
       rintro e q0 ⟨rfl, hc0⟩
       have hg0 : New w3 q0 := by first | with_reducible exact (New.refl w3).drew.trans hc0 | with_reducible exact hc0
       have hw1 : Kb w3 (w.heap.size + 1) q0 := (Kb.refl _ _).new hg0
       have hz0 := (hg0.block _ (lt_of_block HY.out)).trans HY.out
       have d0 := cell_of_row _ _ 0 _ _ _ hz0
       have d1 := cell_of_row _ _ 1 _ _ _ hz0
       have d2 := cell_of_row _ _ 2 _ _ _ hz0
       have d3 := cell_of_row _ _ 3 _ _ _ hz0
       have d4 := cell_of_row _ _ 4 _ _ _ hz0
       have df := fun i => frozen_of_row _ _ i _ _ hz0
       have HG := Lib.hid (HN3.out.trans hg0)
       clear hz0
       clear hc0))
  all_goals
    go_wp2
    refine bodyPost_ret (by simp [results, Tryz.results22, go_sem, d0, d1, d2, d3, d4]; try rfl) rfl ?_
    first | exact ⟨rfl, ((((((((((HG.out).setCell (by show w.heap.size ≤ w.heap.size + 1; omega) _)).setCell (by show w.heap.size ≤ w.heap.size + 1; omega) _)).setCell (by show w.heap.size ≤ w.heap.size + 1; omega) _)).setCell (by show w.heap.size ≤ w.heap.size + 1; omega) _)).setCell (by show w.heap.size ≤ w.heap.size + 1; omega) _)⟩ | exact ⟨rfl, (((((((((((HG.out).setCell (by show w.heap.size ≤ w.heap.size + 1; omega) _)).setCell (by show w.heap.size ≤ w.heap.size + 1; omega) _)).setCell (by show w.heap.size ≤ w.heap.size + 1; omega) _)).setCell (by show w.heap.size ≤ w.heap.size + 1; omega) _)).setCell (by show w.heap.size ≤ w.heap.size + 1; omega) _)).drew⟩
set_option maxHeartbeats 4000000 in
theorem rnx5 (qa qb ra rb o : BitVec 64) (hst : (∀ w, Calls Tryz.prog 27 #[.agg #[.int .i64 5, .int .u64 (W64 qa), .int .u64 (W64 qb), .int .u64 0, .int .u64 0]] w fun e w' => e = .returned (.agg #[.int .i64 5, .int .u64 (W64 ra), .int .u64 (W64 rb), .int .u64 0, .int .u64 0]) ∧ New w w')) (ho : ∀ w, Calls Tryz.prog 30 #[.int .i64 5, .agg #[.int .u64 (W64 qa), .int .u64 (W64 qb)]] w fun e w' => e = .returned (.int .u64 (W64 o)) ∧ New w w') (w : World) : Calls Tryz.prog 22 #[.agg #[.int .i64 5, .int .u64 (W64 qa), .int .u64 (W64 qb), .int .u64 0, .int .u64 0]] w fun e w' => e = .returned (.tuple #[.int .u64 (W64 o), .agg #[.int .i64 5, .int .u64 (W64 ra), .int .u64 (W64 rb), .int .u64 0, .int .u64 0]]) ∧ New w w' := by
  have HST := Lib.hid hst
  have HO := Lib.hid ho
  clear hst ho
  have hz := two_blocksG w (.cells #[.int .i64 5, .int .u64 (W64 qa), .int .u64 (W64 qb), .int .u64 0, .int .u64 0] 25) (.cells zst 25)
  have HZ := Lib.hid hz
  clear hz
  go_enter Tryz.func22, Tryz.ntmps22
  go_wp2_with fail
  refine (HST.out _).mono ?_
  rintro e w1 ⟨rfl, n1⟩
  have hb := heap_alloc_new w1 (.cells #[.int .i64 5, .int .u64 (W64 ra), .int .u64 (W64 rb), .int .u64 0, .int .u64 0] 25)
  have n2 := n1.alloc (.cells #[.int .i64 5, .int .u64 (W64 ra), .int .u64 (W64 rb), .int .u64 0, .int .u64 0] 25)
  have hx := (n2.block _ (lt_of_block HZ.out.1)).trans HZ.out.1
  have hy := (n2.block _ (lt_of_block HZ.out.2.1)).trans HZ.out.2.1
  have hN := HZ.out.2.2.trans n2
  have HNG : Hid (w1.heap.size ≠ w.heap.size + 1) := Lib.hid (by have := lt_of_block ((n1.block _ (lt_of_block HZ.out.2.1)).trans HZ.out.2.1); omega)
  have bx0 := cell_of_row _ _ 0 _ _ _ hx
  have bx1 := cell_of_row _ _ 1 _ _ _ hx
  have bx2 := cell_of_row _ _ 2 _ _ _ hx
  have bx3 := cell_of_row _ _ 3 _ _ _ hx
  have bx4 := cell_of_row _ _ 4 _ _ _ hx
  go_wp2_with fail
  generalize hw3 : World.alloc w1 _ = w3 at *
  generalize hg : w1.heap.size = g at *
  have HB := Lib.hid hb
  have HX := Lib.hid hx
  have HY := Lib.hid hy
  have HN3 := Lib.hid hN
  clear bx0 bx1 bx2 bx3 bx4
  clear hb hx hy hN hw3 n1 n2 hg HZ HST
  have SK : Hid (∀ w', Kb w3 (w.heap.size + 1) w' → Kb w3 (w.heap.size + 1) w' ∧ w'.cell? ⟨w.heap.size, 0, none⟩ = some (.int .i64 5) ∧ w'.cell? ⟨w.heap.size, 1, none⟩ = some (.int .u64 (W64 qa)) ∧ w'.cell? ⟨w.heap.size, 2, none⟩ = some (.int .u64 (W64 qb)) ∧ w'.cell? ⟨g, 0, none⟩ = some (.int .i64 5) ∧ w'.cell? ⟨g, 1, none⟩ = some (.int .u64 (W64 ra)) ∧ w'.cell? ⟨g, 2, none⟩ = some (.int .u64 (W64 rb)) ∧ w'.cell? ⟨g, 3, none⟩ = some (.int .u64 0) ∧ w'.cell? ⟨g, 4, none⟩ = some (.int .u64 0)) := Lib.hid (fun w' hn => ⟨hn, cell_of_row _ _ 0 _ _ _ (hn.block HX.out (by omega)), cell_of_row _ _ 1 _ _ _ (hn.block HX.out (by omega)), cell_of_row _ _ 2 _ _ _ (hn.block HX.out (by omega)), cell_of_row _ _ 0 _ _ _ (hn.block HB.out (HNG.out)), cell_of_row _ _ 1 _ _ _ (hn.block HB.out (HNG.out)), cell_of_row _ _ 2 _ _ _ (hn.block HB.out (HNG.out)), cell_of_row _ _ 3 _ _ _ (hn.block HB.out (HNG.out)), cell_of_row _ _ 4 _ _ _ (hn.block HB.out (HNG.out))⟩)
  obtain ⟨_, ce0, ce1, ce2, ce3, ce4, ce5, ce6, ce7⟩ := SK.out w3 (Kb.refl _ _)
  go_region_held3 (fun w' => Kb w3 (w.heap.size + 1) w' ∧ w'.cell? ⟨w.heap.size, 0, none⟩ = some (.int .i64 5) ∧ w'.cell? ⟨w.heap.size, 1, none⟩ = some (.int .u64 (W64 qa)) ∧ w'.cell? ⟨w.heap.size, 2, none⟩ = some (.int .u64 (W64 qb)) ∧ w'.cell? ⟨g, 0, none⟩ = some (.int .i64 5) ∧ w'.cell? ⟨g, 1, none⟩ = some (.int .u64 (W64 ra)) ∧ w'.cell? ⟨g, 2, none⟩ = some (.int .u64 (W64 rb)) ∧ w'.cell? ⟨g, 3, none⟩ = some (.int .u64 0) ∧ w'.cell? ⟨g, 4, none⟩ = some (.int .u64 0))
    ((refine SK.out _ ?_; repeat (first | with_reducible assumption | with_reducible exact Kb.refl _ _ | with_reducible refine Kb.drew ?_ | with_reducible refine Kb.set ?_ _ _)))
    (first
    | (go_at_call 30
       refine (HO.out _).mono ?_
       rintro e q0 ⟨rfl, hc0⟩
       have hg0 : New w3 q0 := by first | with_reducible exact (New.refl w3).drew.trans hc0 | with_reducible exact hc0
       have hw1 : Kb w3 (w.heap.size + 1) q0 := (Kb.refl _ _).new hg0
       have hz0 := (hg0.block _ (lt_of_block HY.out)).trans HY.out
       have d0 := cell_of_row _ _ 0 _ _ _ hz0
       have d1 := cell_of_row _ _ 1 _ _ _ hz0
       have d2 := cell_of_row _ _ 2 _ _ _ hz0
       have d3 := cell_of_row _ _ 3 _ _ _ hz0
       have d4 := cell_of_row _ _ 4 _ _ _ hz0
       have df := fun i => frozen_of_row _ _ i _ _ hz0
       have HG := Lib.hid (HN3.out.trans hg0)
       clear hz0
       clear hc0))
  all_goals
    go_wp2
    refine bodyPost_ret (by simp [results, Tryz.results22, go_sem, d0, d1, d2, d3, d4]; try rfl) rfl ?_
    first | exact ⟨rfl, ((((((((((HG.out).setCell (by show w.heap.size ≤ w.heap.size + 1; omega) _)).setCell (by show w.heap.size ≤ w.heap.size + 1; omega) _)).setCell (by show w.heap.size ≤ w.heap.size + 1; omega) _)).setCell (by show w.heap.size ≤ w.heap.size + 1; omega) _)).setCell (by show w.heap.size ≤ w.heap.size + 1; omega) _)⟩ | exact ⟨rfl, (((((((((((HG.out).setCell (by show w.heap.size ≤ w.heap.size + 1; omega) _)).setCell (by show w.heap.size ≤ w.heap.size + 1; omega) _)).setCell (by show w.heap.size ≤ w.heap.size + 1; omega) _)).setCell (by show w.heap.size ≤ w.heap.size + 1; omega) _)).setCell (by show w.heap.size ≤ w.heap.size + 1; omega) _)).drew⟩
set_option maxHeartbeats 4000000 in
theorem rnx6 (qa qb ra rb o : BitVec 64) (hst : (∀ w, Calls Tryz.prog 27 #[.agg #[.int .i64 6, .int .u64 (W64 qa), .int .u64 (W64 qb), .int .u64 0, .int .u64 0]] w fun e w' => e = .returned (.agg #[.int .i64 6, .int .u64 (W64 ra), .int .u64 (W64 rb), .int .u64 0, .int .u64 0]) ∧ New w w')) (ho : ∀ w, Calls Tryz.prog 30 #[.int .i64 6, .agg #[.int .u64 (W64 qa), .int .u64 (W64 qb)]] w fun e w' => e = .returned (.int .u64 (W64 o)) ∧ New w w') (w : World) : Calls Tryz.prog 22 #[.agg #[.int .i64 6, .int .u64 (W64 qa), .int .u64 (W64 qb), .int .u64 0, .int .u64 0]] w fun e w' => e = .returned (.tuple #[.int .u64 (W64 o), .agg #[.int .i64 6, .int .u64 (W64 ra), .int .u64 (W64 rb), .int .u64 0, .int .u64 0]]) ∧ New w w' := by
  have HST := Lib.hid hst
  have HO := Lib.hid ho
  clear hst ho
  have hz := two_blocksG w (.cells #[.int .i64 6, .int .u64 (W64 qa), .int .u64 (W64 qb), .int .u64 0, .int .u64 0] 25) (.cells zst 25)
  have HZ := Lib.hid hz
  clear hz
  go_enter Tryz.func22, Tryz.ntmps22
  go_wp2_with fail
  refine (HST.out _).mono ?_
  rintro e w1 ⟨rfl, n1⟩
  have hb := heap_alloc_new w1 (.cells #[.int .i64 6, .int .u64 (W64 ra), .int .u64 (W64 rb), .int .u64 0, .int .u64 0] 25)
  have n2 := n1.alloc (.cells #[.int .i64 6, .int .u64 (W64 ra), .int .u64 (W64 rb), .int .u64 0, .int .u64 0] 25)
  have hx := (n2.block _ (lt_of_block HZ.out.1)).trans HZ.out.1
  have hy := (n2.block _ (lt_of_block HZ.out.2.1)).trans HZ.out.2.1
  have hN := HZ.out.2.2.trans n2
  have HNG : Hid (w1.heap.size ≠ w.heap.size + 1) := Lib.hid (by have := lt_of_block ((n1.block _ (lt_of_block HZ.out.2.1)).trans HZ.out.2.1); omega)
  have bx0 := cell_of_row _ _ 0 _ _ _ hx
  have bx1 := cell_of_row _ _ 1 _ _ _ hx
  have bx2 := cell_of_row _ _ 2 _ _ _ hx
  have bx3 := cell_of_row _ _ 3 _ _ _ hx
  have bx4 := cell_of_row _ _ 4 _ _ _ hx
  go_wp2_with fail
  generalize hw3 : World.alloc w1 _ = w3 at *
  generalize hg : w1.heap.size = g at *
  have HB := Lib.hid hb
  have HX := Lib.hid hx
  have HY := Lib.hid hy
  have HN3 := Lib.hid hN
  clear bx0 bx1 bx2 bx3 bx4
  clear hb hx hy hN hw3 n1 n2 hg HZ HST
  have SK : Hid (∀ w', Kb w3 (w.heap.size + 1) w' → Kb w3 (w.heap.size + 1) w' ∧ w'.cell? ⟨w.heap.size, 0, none⟩ = some (.int .i64 6) ∧ w'.cell? ⟨w.heap.size, 1, none⟩ = some (.int .u64 (W64 qa)) ∧ w'.cell? ⟨w.heap.size, 2, none⟩ = some (.int .u64 (W64 qb)) ∧ w'.cell? ⟨g, 0, none⟩ = some (.int .i64 6) ∧ w'.cell? ⟨g, 1, none⟩ = some (.int .u64 (W64 ra)) ∧ w'.cell? ⟨g, 2, none⟩ = some (.int .u64 (W64 rb)) ∧ w'.cell? ⟨g, 3, none⟩ = some (.int .u64 0) ∧ w'.cell? ⟨g, 4, none⟩ = some (.int .u64 0)) := Lib.hid (fun w' hn => ⟨hn, cell_of_row _ _ 0 _ _ _ (hn.block HX.out (by omega)), cell_of_row _ _ 1 _ _ _ (hn.block HX.out (by omega)), cell_of_row _ _ 2 _ _ _ (hn.block HX.out (by omega)), cell_of_row _ _ 0 _ _ _ (hn.block HB.out (HNG.out)), cell_of_row _ _ 1 _ _ _ (hn.block HB.out (HNG.out)), cell_of_row _ _ 2 _ _ _ (hn.block HB.out (HNG.out)), cell_of_row _ _ 3 _ _ _ (hn.block HB.out (HNG.out)), cell_of_row _ _ 4 _ _ _ (hn.block HB.out (HNG.out))⟩)
  obtain ⟨_, ce0, ce1, ce2, ce3, ce4, ce5, ce6, ce7⟩ := SK.out w3 (Kb.refl _ _)
  go_region_held3 (fun w' => Kb w3 (w.heap.size + 1) w' ∧ w'.cell? ⟨w.heap.size, 0, none⟩ = some (.int .i64 6) ∧ w'.cell? ⟨w.heap.size, 1, none⟩ = some (.int .u64 (W64 qa)) ∧ w'.cell? ⟨w.heap.size, 2, none⟩ = some (.int .u64 (W64 qb)) ∧ w'.cell? ⟨g, 0, none⟩ = some (.int .i64 6) ∧ w'.cell? ⟨g, 1, none⟩ = some (.int .u64 (W64 ra)) ∧ w'.cell? ⟨g, 2, none⟩ = some (.int .u64 (W64 rb)) ∧ w'.cell? ⟨g, 3, none⟩ = some (.int .u64 0) ∧ w'.cell? ⟨g, 4, none⟩ = some (.int .u64 0))
    ((refine SK.out _ ?_; repeat (first | with_reducible assumption | with_reducible exact Kb.refl _ _ | with_reducible refine Kb.drew ?_ | with_reducible refine Kb.set ?_ _ _)))
    (first
    | (go_at_call 30
       refine (HO.out _).mono ?_
       rintro e q0 ⟨rfl, hc0⟩
       have hg0 : New w3 q0 := by first | with_reducible exact (New.refl w3).drew.trans hc0 | with_reducible exact hc0
       have hw1 : Kb w3 (w.heap.size + 1) q0 := (Kb.refl _ _).new hg0
       have hz0 := (hg0.block _ (lt_of_block HY.out)).trans HY.out
       have d0 := cell_of_row _ _ 0 _ _ _ hz0
       have d1 := cell_of_row _ _ 1 _ _ _ hz0
       have d2 := cell_of_row _ _ 2 _ _ _ hz0
       have d3 := cell_of_row _ _ 3 _ _ _ hz0
       have d4 := cell_of_row _ _ 4 _ _ _ hz0
       have df := fun i => frozen_of_row _ _ i _ _ hz0
       have HG := Lib.hid (HN3.out.trans hg0)
       clear hz0
       clear hc0))
  all_goals
    go_wp2
    refine bodyPost_ret (by simp [results, Tryz.results22, go_sem, d0, d1, d2, d3, d4]; try rfl) rfl ?_
    first | exact ⟨rfl, ((((((((((HG.out).setCell (by show w.heap.size ≤ w.heap.size + 1; omega) _)).setCell (by show w.heap.size ≤ w.heap.size + 1; omega) _)).setCell (by show w.heap.size ≤ w.heap.size + 1; omega) _)).setCell (by show w.heap.size ≤ w.heap.size + 1; omega) _)).setCell (by show w.heap.size ≤ w.heap.size + 1; omega) _)⟩ | exact ⟨rfl, (((((((((((HG.out).setCell (by show w.heap.size ≤ w.heap.size + 1; omega) _)).setCell (by show w.heap.size ≤ w.heap.size + 1; omega) _)).setCell (by show w.heap.size ≤ w.heap.size + 1; omega) _)).setCell (by show w.heap.size ≤ w.heap.size + 1; omega) _)).setCell (by show w.heap.size ≤ w.heap.size + 1; omega) _)).drew⟩
set_option maxHeartbeats 4000000 in
theorem rnx7 (qa qb ra pa o : BitVec 64) (u v : BitVec 32) (hst : (∀ w, Calls Tryz.prog 27 #[.agg #[.int .i64 7, .int .u64 (W64 qa), .int .u64 (W64 qb), .int .u64 0, .int .u64 0]] w fun e w' => e = .returned (.agg #[.int .i64 7, .int .u64 (W64 ra), .int .u64 (W64 qb), .int .u64 0, .int .u64 0]) ∧ New w w')) (hst2 : (∀ w, Calls Tryz.prog 27 #[.agg #[.int .i64 7, .int .u64 (W64 ra), .int .u64 (W64 qb), .int .u64 0, .int .u64 0]] w fun e w' => e = .returned (.agg #[.int .i64 7, .int .u64 (W64 pa), .int .u64 (W64 qb), .int .u64 0, .int .u64 0]) ∧ New w w')) (hu : ∀ w, Calls Tryz.prog 31 #[.int .u64 (W64 ra)] w fun e w' => e = .returned (.int .u32 (W32 u)) ∧ New w w') (hv : ∀ w, Calls Tryz.prog 31 #[.int .u64 (W64 qa)] w fun e w' => e = .returned (.int .u32 (W32 v)) ∧ New w w') (ho : u.setWidth 64 * 4294967296#64 + v.setWidth 64 = o) (w : World) : Calls Tryz.prog 22 #[.agg #[.int .i64 7, .int .u64 (W64 qa), .int .u64 (W64 qb), .int .u64 0, .int .u64 0]] w fun e w' => e = .returned (.tuple #[.int .u64 (W64 o), .agg #[.int .i64 7, .int .u64 (W64 pa), .int .u64 (W64 qb), .int .u64 0, .int .u64 0]]) ∧ New w w' := by
  have HST := Lib.hid hst
  have HST2 := Lib.hid hst2
  have HU := Lib.hid hu
  have HV := Lib.hid hv
  have HOO := Lib.hid ho
  clear hst hst2 hu hv ho
  have hz := two_blocksG w (.cells #[.int .i64 7, .int .u64 (W64 qa), .int .u64 (W64 qb), .int .u64 0, .int .u64 0] 25) (.cells zst 25)
  have HZ := Lib.hid hz
  clear hz
  go_enter Tryz.func22, Tryz.ntmps22
  go_wp2_with fail
  refine (HST.out _).mono ?_
  rintro e w1 ⟨rfl, n1⟩
  have hb := heap_alloc_new w1 (.cells #[.int .i64 7, .int .u64 (W64 ra), .int .u64 (W64 qb), .int .u64 0, .int .u64 0] 25)
  have n2 := n1.alloc (.cells #[.int .i64 7, .int .u64 (W64 ra), .int .u64 (W64 qb), .int .u64 0, .int .u64 0] 25)
  have hx := (n2.block _ (lt_of_block HZ.out.1)).trans HZ.out.1
  have hy := (n2.block _ (lt_of_block HZ.out.2.1)).trans HZ.out.2.1
  have hN := HZ.out.2.2.trans n2
  have HNG : Hid (w1.heap.size ≠ w.heap.size + 1) := Lib.hid (by have := lt_of_block ((n1.block _ (lt_of_block HZ.out.2.1)).trans HZ.out.2.1); omega)
  have bx0 := cell_of_row _ _ 0 _ _ _ hx
  have bx1 := cell_of_row _ _ 1 _ _ _ hx
  have bx2 := cell_of_row _ _ 2 _ _ _ hx
  have bx3 := cell_of_row _ _ 3 _ _ _ hx
  have bx4 := cell_of_row _ _ 4 _ _ _ hx
  go_wp2_with fail
  generalize hw3 : World.alloc w1 _ = w3 at *
  generalize hg : w1.heap.size = g at *
  have HB := Lib.hid hb
  have HX := Lib.hid hx
  have HY := Lib.hid hy
  have HN3 := Lib.hid hN
  clear bx0 bx1 bx2 bx3 bx4
  clear hb hx hy hN hw3 n1 n2 hg HZ HST
  have SK : Hid (∀ w', Kb w3 (w.heap.size + 1) w' → Kb w3 (w.heap.size + 1) w' ∧ w'.cell? ⟨w.heap.size, 1, none⟩ = some (.int .u64 (W64 qa)) ∧ w'.cell? ⟨g, 0, none⟩ = some (.int .i64 7) ∧ w'.cell? ⟨g, 1, none⟩ = some (.int .u64 (W64 ra)) ∧ w'.cell? ⟨g, 2, none⟩ = some (.int .u64 (W64 qb)) ∧ w'.cell? ⟨g, 3, none⟩ = some (.int .u64 0) ∧ w'.cell? ⟨g, 4, none⟩ = some (.int .u64 0)) := Lib.hid (fun w' hn => ⟨hn, cell_of_row _ _ 1 _ _ _ (hn.block HX.out (by omega)), cell_of_row _ _ 0 _ _ _ (hn.block HB.out (HNG.out)), cell_of_row _ _ 1 _ _ _ (hn.block HB.out (HNG.out)), cell_of_row _ _ 2 _ _ _ (hn.block HB.out (HNG.out)), cell_of_row _ _ 3 _ _ _ (hn.block HB.out (HNG.out)), cell_of_row _ _ 4 _ _ _ (hn.block HB.out (HNG.out))⟩)
  obtain ⟨_, ce0, ce1, ce2, ce3, ce4, ce5⟩ := SK.out w3 (Kb.refl _ _)
  go_region_held3 (fun w' => Kb w3 (w.heap.size + 1) w' ∧ w'.cell? ⟨w.heap.size, 1, none⟩ = some (.int .u64 (W64 qa)) ∧ w'.cell? ⟨g, 0, none⟩ = some (.int .i64 7) ∧ w'.cell? ⟨g, 1, none⟩ = some (.int .u64 (W64 ra)) ∧ w'.cell? ⟨g, 2, none⟩ = some (.int .u64 (W64 qb)) ∧ w'.cell? ⟨g, 3, none⟩ = some (.int .u64 0) ∧ w'.cell? ⟨g, 4, none⟩ = some (.int .u64 0))
    ((refine SK.out _ ?_; repeat (first | with_reducible assumption | with_reducible exact Kb.refl _ _ | with_reducible refine Kb.drew ?_ | with_reducible refine Kb.set ?_ _ _)))
    (first
    | (go_at_call_of 31 (Value.int IntKind.u64 (W64 ra))
       refine (HU.out _).mono ?_
       rintro e q0 ⟨rfl, hc0⟩
       have hg0 : New w3 q0 := by first | with_reducible exact hg1.trans hc0 | with_reducible exact hg1.drew.trans hc0 | with_reducible exact hg2.trans hc0 | with_reducible exact hg2.drew.trans hc0 | with_reducible exact (New.refl w3).drew.trans hc0 | with_reducible exact hc0
       have hw1 : Kb w3 (w.heap.size + 1) q0 := (Kb.refl _ _).new hg0
       have hz0 := (hg0.block _ (lt_of_block HY.out)).trans HY.out
       have d0 := cell_of_row _ _ 0 _ _ _ hz0
       have d1 := cell_of_row _ _ 1 _ _ _ hz0
       have d2 := cell_of_row _ _ 2 _ _ _ hz0
       have d3 := cell_of_row _ _ 3 _ _ _ hz0
       have d4 := cell_of_row _ _ 4 _ _ _ hz0
       have df := fun i => frozen_of_row _ _ i _ _ hz0
       have HG := Lib.hid (HN3.out.trans hg0)
       clear hz0
       clear hc0)
    | (go_at_call_of 31 (Value.int IntKind.u64 (W64 qa))
       refine (HV.out _).mono ?_
       rintro e q1 ⟨rfl, hc1⟩
       have hg1 : New w3 q1 := by first | with_reducible exact hg0.trans hc1 | with_reducible exact hg0.drew.trans hc1 | with_reducible exact hg2.trans hc1 | with_reducible exact hg2.drew.trans hc1 | with_reducible exact (New.refl w3).drew.trans hc1 | with_reducible exact hc1
       have hw2 : Kb w3 (w.heap.size + 1) q1 := (Kb.refl _ _).new hg1
       have hz1 := (hg1.block _ (lt_of_block HY.out)).trans HY.out
       have d0 := cell_of_row _ _ 0 _ _ _ hz1
       have d1 := cell_of_row _ _ 1 _ _ _ hz1
       have d2 := cell_of_row _ _ 2 _ _ _ hz1
       have d3 := cell_of_row _ _ 3 _ _ _ hz1
       have d4 := cell_of_row _ _ 4 _ _ _ hz1
       have df := fun i => frozen_of_row _ _ i _ _ hz1
       have HG := Lib.hid (HN3.out.trans hg1)
       clear hz1
       clear hc1)
    | (go_at_call 27
       refine (HST2.out _).mono ?_
       rintro e q2 ⟨rfl, hc2⟩
       have hg2 : New w3 q2 := by first | with_reducible exact hg0.trans hc2 | with_reducible exact hg0.drew.trans hc2 | with_reducible exact hg1.trans hc2 | with_reducible exact hg1.drew.trans hc2 | with_reducible exact (New.refl w3).drew.trans hc2 | with_reducible exact hc2
       have hw3 : Kb w3 (w.heap.size + 1) q2 := (Kb.refl _ _).new hg2
       have hz2 := (hg2.block _ (lt_of_block HY.out)).trans HY.out
       have d0 := cell_of_row _ _ 0 _ _ _ hz2
       have d1 := cell_of_row _ _ 1 _ _ _ hz2
       have d2 := cell_of_row _ _ 2 _ _ _ hz2
       have d3 := cell_of_row _ _ 3 _ _ _ hz2
       have d4 := cell_of_row _ _ 4 _ _ _ hz2
       have df := fun i => frozen_of_row _ _ i _ _ hz2
       have HG := Lib.hid (HN3.out.trans hg2)
       clear hz2
       clear hc2))
  all_goals
    go_wp2
    refine bodyPost_ret (by simp [results, Tryz.results22, go_sem, d0, d1, d2, d3, d4]; try rfl) rfl ?_
    first | exact ⟨by first | (rw [← HOO.out]; done) | (rw [← HOO.out]; rfl), ((((((((((HG.out).setCell (by show w.heap.size ≤ w.heap.size + 1; omega) _)).setCell (by show w.heap.size ≤ w.heap.size + 1; omega) _)).setCell (by show w.heap.size ≤ w.heap.size + 1; omega) _)).setCell (by show w.heap.size ≤ w.heap.size + 1; omega) _)).setCell (by show w.heap.size ≤ w.heap.size + 1; omega) _)⟩ | exact ⟨by first | (rw [← HOO.out]; done) | (rw [← HOO.out]; rfl), (((((((((((HG.out).setCell (by show w.heap.size ≤ w.heap.size + 1; omega) _)).setCell (by show w.heap.size ≤ w.heap.size + 1; omega) _)).setCell (by show w.heap.size ≤ w.heap.size + 1; omega) _)).setCell (by show w.heap.size ≤ w.heap.size + 1; omega) _)).setCell (by show w.heap.size ≤ w.heap.size + 1; omega) _)).drew⟩
set_option maxHeartbeats 4000000 in
theorem rnx8 (qa qb qc qd ra rb o : BitVec 64) (hst : (∀ w, Calls Tryz.prog 27 #[.agg #[.int .i64 8, .int .u64 (W64 qa), .int .u64 (W64 qb), .int .u64 (W64 qc), .int .u64 (W64 qd)]] w fun e w' => e = .returned (.agg #[.int .i64 8, .int .u64 (W64 ra), .int .u64 (W64 rb), .int .u64 (W64 qc), .int .u64 (W64 qd)]) ∧ New w w')) (hl : ∀ w, Calls Tryz.prog 32 #[.agg #[.int .i64 8, .int .u64 (W64 ra), .int .u64 (W64 rb), .int .u64 (W64 qc), .int .u64 (W64 qd)]] w fun e w' => e = .returned (.tuple #[.agg #[.int .u64 (W64 rb), .int .u64 (W64 ra)], .agg #[.int .u64 (W64 qd), .int .u64 (W64 qc)]]) ∧ New w w') (ho : ∀ w, Calls Tryz.prog 33 #[.agg #[.int .u64 (W64 rb), .int .u64 (W64 ra)]] w fun e w' => e = .returned (.int .u64 (W64 o)) ∧ New w w') (w : World) : Calls Tryz.prog 22 #[.agg #[.int .i64 8, .int .u64 (W64 qa), .int .u64 (W64 qb), .int .u64 (W64 qc), .int .u64 (W64 qd)]] w fun e w' => e = .returned (.tuple #[.int .u64 (W64 o), .agg #[.int .i64 8, .int .u64 (W64 ra), .int .u64 (W64 rb), .int .u64 (W64 qc), .int .u64 (W64 qd)]]) ∧ New w w' := by
  have HST := Lib.hid hst
  have HL := Lib.hid hl
  have HO := Lib.hid ho
  clear hst hl ho
  have hz := two_blocksG w (.cells #[.int .i64 8, .int .u64 (W64 qa), .int .u64 (W64 qb), .int .u64 (W64 qc), .int .u64 (W64 qd)] 25) (.cells zst 25)
  have HZ := Lib.hid hz
  clear hz
  go_enter Tryz.func22, Tryz.ntmps22
  go_wp2_with fail
  refine (HST.out _).mono ?_
  rintro e w1 ⟨rfl, n1⟩
  have hb := heap_alloc_new w1 (.cells #[.int .i64 8, .int .u64 (W64 ra), .int .u64 (W64 rb), .int .u64 (W64 qc), .int .u64 (W64 qd)] 25)
  have n2 := n1.alloc (.cells #[.int .i64 8, .int .u64 (W64 ra), .int .u64 (W64 rb), .int .u64 (W64 qc), .int .u64 (W64 qd)] 25)
  have hx := (n2.block _ (lt_of_block HZ.out.1)).trans HZ.out.1
  have hy := (n2.block _ (lt_of_block HZ.out.2.1)).trans HZ.out.2.1
  have hN := HZ.out.2.2.trans n2
  have HNG : Hid (w1.heap.size ≠ w.heap.size + 1) := Lib.hid (by have := lt_of_block ((n1.block _ (lt_of_block HZ.out.2.1)).trans HZ.out.2.1); omega)
  have bx0 := cell_of_row _ _ 0 _ _ _ hx
  have bx1 := cell_of_row _ _ 1 _ _ _ hx
  have bx2 := cell_of_row _ _ 2 _ _ _ hx
  have bx3 := cell_of_row _ _ 3 _ _ _ hx
  have bx4 := cell_of_row _ _ 4 _ _ _ hx
  have bb0 := cell_of_row _ _ 0 _ _ _ hb
  have bb1 := cell_of_row _ _ 1 _ _ _ hb
  have bb2 := cell_of_row _ _ 2 _ _ _ hb
  have bb3 := cell_of_row _ _ 3 _ _ _ hb
  have bb4 := cell_of_row _ _ 4 _ _ _ hb
  go_wp2_with fail
  refine (HL.out _).mono ?_
  rintro e w2 ⟨rfl, n3⟩
  have h2 := two_blocksG w2 (.cells #[.int .u64 (W64 rb), .int .u64 (W64 ra)] 77) (.cells #[.int .u64 (W64 qd), .int .u64 (W64 qc)] 77)
  have n4 := n3.trans h2.2.2
  have hb2 := (n4.block _ (lt_of_block hb)).trans hb
  have hx2 := (n4.block _ (lt_of_block hx)).trans hx
  have hy2 := (n4.block _ (lt_of_block hy)).trans hy
  have hN2 := hN.trans n4
  have HNG2 : Hid (w2.heap.size ≠ w.heap.size + 1) := Lib.hid (by have := lt_of_block ((n3.block _ (lt_of_block hy)).trans hy); omega)
  have hq := h2.1
  clear bx0 bx1 bx2 bx3 bx4 bb0 bb1 bb2 bb3 bb4
  have bx0 := cell_of_row _ _ 0 _ _ _ hx2
  go_wp2_with fail
  generalize hw3 : World.alloc (World.alloc w2 _) _ = w3 at *
  generalize hg : w1.heap.size = g at *
  generalize hg2 : w2.heap.size = g2 at *
  have HB := Lib.hid hb2
  have HX := Lib.hid hx2
  have HY := Lib.hid hy2
  have HQ := Lib.hid hq
  have HN3 := Lib.hid hN2
  clear bx0 hb hx hy hN hw3 n1 n2 n3 n4 h2 hb2 hx2 hy2 hN2 hq hg hg2 HZ HST HL
  have SK : Hid (∀ w', Kb w3 (w.heap.size + 1) w' → Kb w3 (w.heap.size + 1) w' ∧ w'.cell? ⟨g2, 0, none⟩ = some (.int .u64 (W64 rb)) ∧ w'.cell? ⟨g2, 1, none⟩ = some (.int .u64 (W64 ra)) ∧ w'.cell? ⟨g, 0, none⟩ = some (.int .i64 8) ∧ w'.cell? ⟨g, 1, none⟩ = some (.int .u64 (W64 ra)) ∧ w'.cell? ⟨g, 2, none⟩ = some (.int .u64 (W64 rb)) ∧ w'.cell? ⟨g, 3, none⟩ = some (.int .u64 (W64 qc)) ∧ w'.cell? ⟨g, 4, none⟩ = some (.int .u64 (W64 qd))) := Lib.hid (fun w' hn => ⟨hn, cell_of_row _ _ 0 _ _ _ (hn.block HQ.out (HNG2.out)), cell_of_row _ _ 1 _ _ _ (hn.block HQ.out (HNG2.out)), cell_of_row _ _ 0 _ _ _ (hn.block HB.out (HNG.out)), cell_of_row _ _ 1 _ _ _ (hn.block HB.out (HNG.out)), cell_of_row _ _ 2 _ _ _ (hn.block HB.out (HNG.out)), cell_of_row _ _ 3 _ _ _ (hn.block HB.out (HNG.out)), cell_of_row _ _ 4 _ _ _ (hn.block HB.out (HNG.out))⟩)
  obtain ⟨_, ce0, ce1, ce2, ce3, ce4, ce5, ce6⟩ := SK.out w3 (Kb.refl _ _)
  go_region_held3 (fun w' => Kb w3 (w.heap.size + 1) w' ∧ w'.cell? ⟨g2, 0, none⟩ = some (.int .u64 (W64 rb)) ∧ w'.cell? ⟨g2, 1, none⟩ = some (.int .u64 (W64 ra)) ∧ w'.cell? ⟨g, 0, none⟩ = some (.int .i64 8) ∧ w'.cell? ⟨g, 1, none⟩ = some (.int .u64 (W64 ra)) ∧ w'.cell? ⟨g, 2, none⟩ = some (.int .u64 (W64 rb)) ∧ w'.cell? ⟨g, 3, none⟩ = some (.int .u64 (W64 qc)) ∧ w'.cell? ⟨g, 4, none⟩ = some (.int .u64 (W64 qd)))
    ((refine SK.out _ ?_; repeat (first | with_reducible assumption | with_reducible exact Kb.refl _ _ | with_reducible refine Kb.drew ?_ | with_reducible refine Kb.set ?_ _ _)))
    (first
    | (go_at_call 33
       refine (HO.out _).mono ?_
       rintro e q0 ⟨rfl, hc0⟩
       have hg0 : New w3 q0 := by first | with_reducible exact (New.refl w3).drew.trans hc0 | with_reducible exact hc0
       have hw1 : Kb w3 (w.heap.size + 1) q0 := (Kb.refl _ _).new hg0
       have hz0 := (hg0.block _ (lt_of_block HY.out)).trans HY.out
       have d0 := cell_of_row _ _ 0 _ _ _ hz0
       have d1 := cell_of_row _ _ 1 _ _ _ hz0
       have d2 := cell_of_row _ _ 2 _ _ _ hz0
       have d3 := cell_of_row _ _ 3 _ _ _ hz0
       have d4 := cell_of_row _ _ 4 _ _ _ hz0
       have df := fun i => frozen_of_row _ _ i _ _ hz0
       have HG := Lib.hid (HN3.out.trans hg0)
       clear hz0
       clear hc0))
  all_goals
    go_wp2
    refine bodyPost_ret (by simp [results, Tryz.results22, go_sem, d0, d1, d2, d3, d4]; try rfl) rfl ?_
    first | exact ⟨rfl, ((((((((((HG.out).setCell (by show w.heap.size ≤ w.heap.size + 1; omega) _)).setCell (by show w.heap.size ≤ w.heap.size + 1; omega) _)).setCell (by show w.heap.size ≤ w.heap.size + 1; omega) _)).setCell (by show w.heap.size ≤ w.heap.size + 1; omega) _)).setCell (by show w.heap.size ≤ w.heap.size + 1; omega) _)⟩ | exact ⟨rfl, (((((((((((HG.out).setCell (by show w.heap.size ≤ w.heap.size + 1; omega) _)).setCell (by show w.heap.size ≤ w.heap.size + 1; omega) _)).setCell (by show w.heap.size ≤ w.heap.size + 1; omega) _)).setCell (by show w.heap.size ≤ w.heap.size + 1; omega) _)).setCell (by show w.heap.size ≤ w.heap.size + 1; omega) _)).drew⟩
theorem o7_is (q : Q2) : (out13 (step13 q.a q.b)).setWidth 64 * 4294967296#64 + (out13 q.a).setWidth 64 = o7 q := by
  unfold o7
  generalize out13 (step13 q.a q.b) = x
  generalize out13 q.a = y
  rw [show (4294967296#64 : BitVec 64) = 1#64 <<< 32 from rfl, mul_shl, BitVec.or_comm]
  apply BitVec.add_eq_or_of_and_eq_zero
  ext i hi
  rw [BitVec.getElem_and, BitVec.getElem_shiftLeft, BitVec.getElem_setWidth]
  by_cases h : i < 32
  · simp [h]
  · have : y.getLsbD i = false := BitVec.getLsbD_of_ge _ _ (by omega)
    simp [this]
theorem quietN {F : FuncId} {args : Array Value} {v : Value} (h : ∀ w, Calls Tryz.prog F args w fun e w' => e = .returned v ∧ w' = w) (w : World) : Calls Tryz.prog F args w fun e w' => e = .returned v ∧ New w w' :=
  (h w).mono (by rintro e w' ⟨rfl, rfl⟩; exact ⟨rfl, New.refl _⟩)
end Go.Proofs.YtadcihkpnpemeaaGreat
namespace Go.Proofs.YtadcihkpnpemeaaGreat
open Go.RowKit Go.Bv
set_option linter.unusedVariables false
set_option maxRecDepth 100000
theorem ruo_ot (k : Int) (hk : k = 5 ∨ k = 6) : Ot2 30 k (uo k) := by
  rcases hk with rfl | rfl
  · exact outr_5
  · exact outr_6
theorem rnx_any {k : Int} {q : W4} (h : chkK k q = 0) (w : World) : Calls Tryz.prog 22 #[.agg (stc k q)] w fun e w' => e = .returned (.tuple #[.int .u64 (W64 (ouK k q)), .agg (stc k (nxK k q))]) ∧ New w w' := by
  obtain ⟨ho, f1, f2, -⟩ := fits h
  have hst := fun w => rst_any h w
  have hst2 := fun w => rst_any (chk_st h) w
  rcases kind8 ho with hk | hk | hk | hk | hk
  · subst hk
    have e : nxK 1 q = q1 (q.a + Gm) := by unfold nxK stK; rw [if_neg (by omega), if_pos rfl]
    have e2 : ouK 1 q = split (q.a + Gm) := by unfold ouK; rw [if_pos rfl]
    have e3 : stK 1 q = q1 (q.a + Gm) := by unfold stK; rw [if_pos rfl]
    rw [e3] at hst
    rw [e, e2]
    obtain ⟨r, hr⟩ : ∃ r, q.a + Gm = r := ⟨_, rfl⟩
    rw [hr] at hst ⊢
    have hs : stc 1 q = #[.int .i64 1, .int .u64 (W64 q.a), .int .u64 0, .int .u64 0, .int .u64 0] := by
      have := stc_q1 q.a
      rwa [← f1 rfl] at this
    rw [hs] at hst ⊢
    rw [stc_q1 r] at hst ⊢
    refine rnx1 q.a r _ hst (quietN fun w => ?_) w
    have h := out8_ref (W64 q.a) 1 w
    rw [ofInt_W64, show BitVec.ofInt 64 1 = 1#64 from rfl, BitVec.one_mul, hr] at h
    exact h
  · have e : nxK k q = m9 q := by unfold nxK stK; rw [if_neg (by omega), if_neg (by omega), if_pos (by omega)]
    have e2 : ouK k q = o9 k q := by unfold ouK; rw [if_neg (by omega), if_pos (by omega)]
    have e3 : stK k q = m9 q := by unfold stK; rw [if_neg (by omega), if_pos (by omega)]
    rw [e3] at hst
    rw [e, e2]
    obtain ⟨r, hr⟩ : ∃ r, m9 q = r := ⟨_, rfl⟩
    rw [hr] at hst ⊢
    rcases hk with rfl | rfl | rfl
    · exact rnx2 _ _ _ _ _ _ _ _ _ hst (fun w => out2_ref _ _ _ _ w) w
    · exact rnx3 _ _ _ _ _ _ _ _ _ hst (fun w => out3_ref _ _ _ _ w) w
    · exact rnx4 _ _ _ _ _ _ _ _ _ hst (fun w => out4_ref _ _ _ _ w) w
  · have e : nxK k q = w10 (mo k ⟨q.a, q.b⟩) := by unfold nxK stK; rw [if_neg (by omega), if_neg (by omega), if_neg (by omega), if_pos (by omega)]
    have e2 : ouK k q = uo k ⟨q.a, q.b⟩ := by unfold ouK; rw [if_neg (by omega), if_neg (by omega), if_pos (by omega)]
    have e3 : stK k q = w10 (mo k ⟨q.a, q.b⟩) := by unfold stK; rw [if_neg (by omega), if_neg (by omega), if_pos (by omega)]
    rw [e3] at hst
    rw [e, e2]
    obtain ⟨r, hr⟩ : ∃ r, mo k ⟨q.a, q.b⟩ = r := ⟨_, rfl⟩
    rw [hr] at hst ⊢
    obtain ⟨x, hx⟩ : ∃ x, uo k ⟨q.a, q.b⟩ = x := ⟨_, rfl⟩
    rw [hx]
    have hq := f2 (by omega)
    have hs : stc k q = #[.int .i64 k, .int .u64 (W64 q.a), .int .u64 (W64 q.b), .int .u64 0, .int .u64 0] := by
      have := stc_w10 k ⟨q.a, q.b⟩
      rwa [← hq] at this
    rw [hs] at hst ⊢
    rw [stc_w10 k r] at hst ⊢
    rcases hk with rfl | rfl
    · exact rnx5 _ _ _ _ _ hst (fun w => by have h := ruo_ot 5 (Or.inl rfl) ⟨q.a, q.b⟩ w; rw [hx] at h; exact h) w
    · exact rnx6 _ _ _ _ _ hst (fun w => by have h := ruo_ot 6 (Or.inr rfl) ⟨q.a, q.b⟩ w; rw [hx] at h; exact h) w
  · subst hk
    have e2 : ouK 7 q = o7 ⟨q.a, q.b⟩ := by unfold ouK; rw [if_neg (by omega), if_neg (by omega), if_neg (by omega), if_pos rfl]
    have e30 : ∀ z, stK 7 z = w10 (p7 ⟨z.a, z.b⟩) := fun z => by unfold stK; rw [if_neg (by omega), if_neg (by omega), if_neg (by omega), if_pos rfl]
    have e3 := e30 q
    have e4 : nxK 7 q = stK 7 (stK 7 q) := by unfold nxK; rw [if_pos rfl]
    have hab : ∀ p : Q2, (⟨(w10 p).a, (w10 p).b⟩ : Q2) = p := fun _ => rfl
    have e5 : stK 7 (stK 7 q) = w10 (p7 (p7 ⟨q.a, q.b⟩)) := by rw [e3, e30, hab]
    rw [e5] at hst2
    rw [e4, e5, e2]
    rw [e3] at hst hst2
    clear e2 e30 e3 e4 e5 hab
    have hq := f2 (by omega)
    have hs : stc 7 q = #[.int .i64 7, .int .u64 (W64 q.a), .int .u64 (W64 q.b), .int .u64 0, .int .u64 0] := by
      have := stc_w10 7 ⟨q.a, q.b⟩
      rwa [← hq] at this
    rw [hs] at hst ⊢
    have ho := o7_is ⟨q.a, q.b⟩
    obtain ⟨r, hr⟩ : ∃ r, p7 ⟨q.a, q.b⟩ = r := ⟨_, rfl⟩
    have hra : step13 q.a q.b = r.a := by rw [← hr, p7_a]
    have hrb : r.b = q.b := by rw [← hr, p7_b]
    rw [hr] at hst hst2 ⊢
    obtain ⟨p, hp⟩ : ∃ p, p7 r = p := ⟨_, rfl⟩
    have hpb : p.b = q.b := by rw [← hp, p7_b, hrb]
    rw [hp] at hst2 ⊢
    obtain ⟨x, hx⟩ : ∃ x, o7 ⟨q.a, q.b⟩ = x := ⟨_, rfl⟩
    rw [hx] at ho ⊢
    have ho2 : (out13 r.a).setWidth 64 * 4294967296#64 + (out13 q.a).setWidth 64 = x := by rw [← hra]; exact ho
    rw [stc_w10 7 r, hrb] at hst hst2
    rw [stc_w10 7 p, hpb] at hst2 ⊢
    refine rnx7 q.a q.b r.a p.a x _ _ hst hst2 (quietN fun w => ?_) (quietN fun w => ?_) ho2 w
    · have h := rout13 (W64 r.a) (b64 _) w
      rw [ofInt_W64] at h
      exact h
    · have h := rout13 (W64 q.a) (b64 _) w
      rw [ofInt_W64] at h
      exact h
  · subst hk
    have e2 : ouK 8 q = o14 q := by unfold ouK; rw [if_neg (by omega), if_neg (by omega), if_neg (by omega), if_neg (by omega)]
    have e3 : stK 8 q = w14 q := by unfold stK; rw [if_neg (by omega), if_neg (by omega), if_neg (by omega), if_neg (by omega)]
    have e4 : nxK 8 q = stK 8 q := by unfold nxK; rw [if_neg (by omega)]
    rw [e3] at hst
    rw [e4, e3, e2]
    obtain ⟨x, hx⟩ : ∃ x, o14 q = x := ⟨_, rfl⟩
    obtain ⟨p, hp⟩ : ∃ p, w14 q = p := ⟨_, rfl⟩
    have hc : p.c = q.c := by rw [← hp, w14_c]
    have hd : p.d = q.d := by rw [← hp, w14_d]
    have hl := fun w => rlo_any 8 p w
    have hou : ∀ w, Calls Tryz.prog 33 #[.agg #[.int .u64 (W64 p.b), .int .u64 (W64 p.a)]] w fun e w' => e = .returned (.int .u64 (W64 x)) ∧ New w w' := fun w => by
      have h := outr14 (m14 q) w
      have h1 : hi128 (m14 q) = p.b := by rw [← hp, w14_b]
      have h2 : lo128 (m14 q) = p.a := by rw [← hp, w14_a]
      have h3 : out14 (m14 q) = x := hx
      rw [h1, h2, h3] at h
      exact h
    rw [hp] at hst ⊢
    rw [hx]
    obtain ⟨pa, pb, pc, pd⟩ := p
    replace hc : pc = q.c := hc
    replace hd : pd = q.d := hd
    subst hc hd
    exact rnx8 _ _ _ _ _ _ _ hst hl hou w
end Go.Proofs.YtadcihkpnpemeaaGreat
