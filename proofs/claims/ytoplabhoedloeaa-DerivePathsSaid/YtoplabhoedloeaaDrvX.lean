/- Layer 45: DerivePaths, DeriveJoins. -/
import Derived.Test.YtoplabhoedloeaaDrvR
import Derived.Test.YtoplabhoedloeaaDrvV
import Derived.Test.YtoplabhoedloeaaDrvW
import Derived.Test.YtoplabhoedloeaaClass
import Derived.BigQuiet
namespace Go.Drv
open Go Go.RowKit Go.Bv
set_option linter.unusedVariables false
/-- the labels that a path hands back -/
def lbs (l : List UInt8) : List (List UInt8) := if ptE (pts l) = 0 then pts l else []
theorem lbs_len (l : List UInt8) : (lbs l).length ≤ l.length + 1 := by
  unfold lbs
  by_cases h : ptE (pts l) = 0
  · rw [if_pos h]; exact pts_len l
  · rw [if_neg h]; simp
theorem PtP.row {TR : TypeId} {w : World} {l : List UInt8} {e : Ending} {w' : World} (h : PtP TR w l e w') :
    ∃ a c, e = .returned (.tuple #[.slice a (lbs l).length c, .int .i64 (ptE (pts l))]) ∧ (lbs l).length ≤ c ∧ SCellB w.heap.size w' a (lbs l) ∧ New w w' := by
  obtain ⟨h, hn⟩ := h
  unfold lbs
  rcases h with ⟨h1, rfl⟩ | ⟨h1, v, rfl, ho⟩
  · rw [if_neg h1]
    exact ⟨none, 0, rfl, Nat.le_refl _, fun hp => absurd hp (by simp), hn⟩
  · rw [if_pos h1, h1]
    obtain ⟨a, c, rfl, hc, hr⟩ := srow_of ho
    exact ⟨a, c, rfl, hc, hr, hn⟩
theorem SCellB.stay {B : Nat} {w w' : World} {a : Option Addr} {ps : List (List UInt8)} (h : SCellB B w a ps) (hn : New w w') : SCellB B w' a ps := by
  intro hp
  obtain ⟨g, e, hg, hc⟩ := h hp
  exact ⟨g, e, hg, fun j hj => (hn.cell (a := ⟨g, j, none⟩) (World.block_lt_of_cell? _ _ (hc j hj))).trans (hc j hj)⟩
end Go.Drv
namespace Go.Proofs.Ytoplabhoedloeaa
open Go Go.RowKit Go.Bv Go.Drv
set_option linter.unusedVariables false
set_option maxRecDepth 100000
theorem three_b (w : World) (a b : Value) (T : TypeId) : (w.alloc (.cells #[a, b] T)).heap[w.heap.size]? = some (.cells #[a, b] T (0, 0)) ∧ New w (w.alloc (.cells #[a, b] T)) := ⟨heap_alloc_new w _, (New.refl w).alloc _⟩
set_option maxHeartbeats 4000000 in
theorem paths_45 (k : BitVec 64 × BitVec 64) (l : List UInt8) (w : World) (hx : MaxL w) :
    Calls Try.prog 4 #[.agg #[.int .u64 (W64 k.1), .int .u64 (W64 k.2)], .string (bs l)] w fun e w' => e = .returned (.bool true) ∧ New w w' := by
  have HAW := Lib.hid (fun (w' : World) (hn : New w w') => awake_q w' (hx.stay hn))
  have hsz := bs_size l
  obtain ⟨hb1, hn1⟩ := three_b w (.int .u64 (W64 k.1)) (.int .u64 (W64 k.2)) 24
  by_cases hlim : l.length ≤ 500
  · have hd : decide ((500 : Int) < ((bs l).size : Int)) = false := decide_eq_false (by omega)
    have HPR := Lib.hid (fun w => (partsr_q l (by omega) w).mono fun _ _ h => h.row)
    have HPT := Lib.hid (fun (w' : World) (hn : New w w') => (parts_q l (by omega) w' (hx.stay hn)).mono fun _ _ h => h.row)
    have HPA := Lib.hid (fun (w' : World) (hn : New w w') => path_any k l (by omega) w' (hx.stay hn))
    have HPB := Lib.hid (fun w' => pathr_any k l (by omega) w')
    have hpl := lbs_len l
    obtain ⟨c, hc⟩ : ∃ z, pathE k l = z := ⟨_, rfl⟩
    rw [hc] at HPA HPB
    obtain ⟨y, hy⟩ : ∃ z, ptE (pts l) = z := ⟨_, rfl⟩
    rw [hy] at HPA HPB HPR HPT
    clear hx hc hsz hy
    generalize lbs l = ps at *
    go_enter Try.func4, Try.ntmps4
    go_wp2_with fail
    obtain ⟨b1, hb1e⟩ : ∃ b, w.heap.size = b := ⟨_, rfl⟩
    rw [hb1e] at hb1
    rw [hb1e]
    generalize w.alloc (.cells #[.int .u64 (W64 k.1), .int .u64 (W64 k.2)] 24) = w1 at *
    refine (HAW.out _ hn1).mono ?_
    rintro e w2 ⟨rfl, hn2⟩
    have hb2 := (hn2.block _ (lt_of_block hb1)).trans hb1
    have hn3 := hn1.trans hn2
    clear hb1 hn1 hn2 hb1e HAW
    have k0 := cell_of_row _ _ 0 _ _ _ hb2
    have k1 := cell_of_row _ _ 1 _ _ _ hb2
    go_wp2_with fail
    refine (HPT.out _ hn3).mono ?_
    rintro e w3 ⟨ra, ca, rfl, hca, hra, hn4⟩
    have hb3 := (hn4.block _ (lt_of_block hb2)).trans hb2
    have hn5 := hn3.trans hn4
    have HRA := Lib.hid hra
    clear hb2 hn3 hn4 k0 k1 hra
    have k0 := cell_of_row _ _ 0 _ _ _ hb3
    have k1 := cell_of_row _ _ 1 _ _ _ hb3
    go_wp2_with fail
    refine (HPA.out _ hn5).mono ?_
    rintro e w4 ⟨rfl, hn6⟩
    obtain ⟨hc1, hm1⟩ := three_b w4 (.int .u64 (W64 c.1)) (.int .u64 (W64 c.2)) 24
    have hn7 := hn6.trans hm1
    have hb4 := (hn7.block _ (lt_of_block hb3)).trans hb3
    have hn8 := hn5.trans hn7
    replace HRA := Lib.hid (HRA.out.stay hn7)
    clear hb3 hn5 hn6 hm1 hn7 k0 k1
    go_wp2_with fail
    obtain ⟨b2, hb2e⟩ : ∃ b, w4.heap.size = b := ⟨_, rfl⟩
    rw [hb2e] at hc1
    rw [hb2e]
    generalize w4.alloc (.cells #[.int .u64 (W64 c.1), .int .u64 (W64 c.2)] 24) = w5 at *
    clear hb2e
    refine (HPR.out _).mono ?_
    rintro e w6 ⟨rb, cb, rfl, hcb, hrb, hn9⟩
    have hb6 := (hn9.block _ (lt_of_block hb4)).trans hb4
    have hc6 := (hn9.block _ (lt_of_block hc1)).trans hc1
    have hn10 := hn8.trans hn9
    have HRB := Lib.hid hrb
    replace HRA := Lib.hid (HRA.out.stay hn9)
    clear hb4 hc1 hn8 hn9 hrb HPR HPT HPA
    have k0 := cell_of_row _ _ 0 _ _ _ hb6
    have k1 := cell_of_row _ _ 1 _ _ _ hb6
    go_wp2_with fail
    refine (HPB.out _).mono ?_
    rintro e w7 ⟨rfl, hn11⟩
    obtain ⟨hd1, hm2⟩ := three_b w7 (.int .u64 (W64 c.1)) (.int .u64 (W64 c.2)) 24
    have hn12 := hn11.trans hm2
    have hc8 := (hn12.block _ (lt_of_block hc6)).trans hc6
    have hn13 := hn10.trans hn12
    replace HRA := Lib.hid (HRA.out.stay hn12)
    replace HRB := Lib.hid (HRB.out.stay hn12)
    clear hb6 hc6 hn10 hn11 hm2 hn12 k0 k1 HPB
    have HSM := Lib.hid (fun (w' : World) (hn : New (w7.alloc (.cells #[.int .u64 (W64 c.1), .int .u64 (W64 c.2)] 24)) w') => same_45 ra rb ca cb ps _ _ w' (by omega) hca hcb (HRA.out.stay hn) (HRB.out.stay hn))
    go_wp2_with fail
    obtain ⟨b3, hb3e⟩ : ∃ b, w7.heap.size = b := ⟨_, rfl⟩
    rw [hb3e] at hd1
    try rw [hb3e]
    generalize w7.alloc (.cells #[.int .u64 (W64 c.1), .int .u64 (W64 c.2)] 24) = w8 at *
    refine (HSM.out w8 (New.refl _)).mono ?_
    rintro e w9 ⟨rfl, hn14⟩
    have hc9 := (hn14.block _ (lt_of_block hc8)).trans hc8
    have hd9 := (hn14.block _ (lt_of_block hd1)).trans hd1
    have c0 := cell_of_row _ _ 0 _ _ _ hc9
    have c1 := cell_of_row _ _ 1 _ _ _ hc9
    have d0 := cell_of_row _ _ 0 _ _ _ hd9
    have d1 := cell_of_row _ _ 1 _ _ _ hd9
    have hfin := hn13.trans hn14
    clear hc8 hd1 hc9 hd9 hn13 hn14 HSM HRA HRB
    go_wp2
    go_ret
    exact ⟨rfl, hfin⟩
  · have hd : decide ((500 : Int) < ((bs l).size : Int)) = true := decide_eq_true (by omega)
    clear hx hsz
    go_enter Try.func4, Try.ntmps4
    go_wp2_with fail
    refine (HAW.out _ hn1).mono ?_
    rintro e w2 ⟨rfl, hn2⟩
    go_wp2
    go_ret
    exact ⟨rfl, hn1.trans hn2⟩
end Go.Proofs.Ytoplabhoedloeaa
