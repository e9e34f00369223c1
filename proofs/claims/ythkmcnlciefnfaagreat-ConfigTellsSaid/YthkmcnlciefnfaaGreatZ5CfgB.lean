import Derived.Test.YthkmcnlciefnfaaGreatZ5CfgA
import Derived.Test.YthkmcnlciefnfaaGreatZ5FamF
import Derived.Test.YthkmcnlciefnfaaGreatZ5AliD
import Derived.Test.YthkmcnlciefnfaaGreatZ5PolB
/- Layer 47: what is wrong with a config. -/
namespace Go.Proofs.YthkmcnlciefnfaaGreat
open Go Go.RowKit Go.Bv Go.Ali
set_option linter.unusedVariables false
set_option maxRecDepth 100000
def soK (k : Int) (x : List (BitVec 64)) : Int := if szK k = 0 ∨ (x.length : Int) ≠ szK k then 0 else k
def soQ (k : Int) (x : List (BitVec 64)) : W4 := if szK k = 0 ∨ (x.length : Int) ≠ szK k then ⟨0#64, 0#64, 0#64, 0#64⟩ else w4 x
theorem so_any (t k b : Int) (h l : BitVec 64) (a : Option Addr) (n c : Nat) (x : List (BitVec 64)) (w : World) (hr : QRow w a n c x) : Calls Tryz.prog 26 #[.agg (cfc t k b h l a n c)] w fun e w' => e = .returned (.tuple #[.agg (stc (soK k x) (soQ k x)), .int .i64 (soE k x)]) ∧ New w w' := by
  have hl := hr.len_eq
  unfold soK soQ soE
  by_cases h1 : szK k = 0
  · rw [if_pos (.inl h1), if_pos (.inl h1), if_pos h1]; exact so_none t k b h l a n c h1 w
  · by_cases h2 : (x.length : Int) = szK k
    · rw [if_neg (by omega), if_neg (by omega), if_neg h1, if_neg (by omega)]; exact so_fine t k b h l a n c x w hr h1 (by omega)
    · rw [if_pos (.inr h2), if_pos (.inr h2), if_neg h1, if_pos h2]; exact so_form t k b h l a n c h1 (by omega) w
/-- what is wrong with a thing -/
def thE (t k b : Int) (h l : BitVec 64) (x : List (BitVec 64)) : Int := if t = 1 then stE k h l else if t = 2 then chF k b x else if t = 3 then soE k x else if t = 4 then (if 4096 < x.length then 9 else 0) else wE x
theorem thing_1 (k b : Int) (h l : BitVec 64) (a : Option Addr) (n c : Nat) (x : List (BitVec 64)) (w : World) (hr : QRow w a n c x) : Calls Tryz.prog 28 #[.agg (cfc 1 k b h l a n c)] w fun e w' => e = .returned (.int .i64 (stE k h l)) ∧ New w w' := by
  generalize hW : w.alloc (.cells (cfc 1 k b h l a n c) 27) = w0
  have HB : Hid (w0.heap[w.heap.size]? = some (.cells (cfc 1 k b h l a n c) 27 (0, 0))) := Lib.hid (by rw [← hW]; exact heap_alloc_new w _)
  have HN : Hid (New w w0) := Lib.hid (by rw [← hW]; exact (New.refl w).alloc _)
  have HC := Lib.hid (fun w => scheck_35 k h l w)
  clear hr
  have c0 := cell_of_row _ _ 0 _ _ _ HB.out
  have c1 := cell_of_row _ _ 1 _ _ _ HB.out
  have c2 := cell_of_row _ _ 2 _ _ _ HB.out
  have c3 := cell_of_row _ _ 3 _ _ _ HB.out
  have c4 := cell_of_row _ _ 4 _ _ _ HB.out
  have c5 := cell_of_row _ _ 5 _ _ _ HB.out
  go_enter Tryz.func28, Tryz.ntmps28
  go_wp2_with fail
  refine (HC.out _).mono ?_
  rintro e w1 ⟨rfl, hn⟩
  have HN1 := Lib.hid (HN.out.trans hn)
  clear hn HC c0 c1 c2 c3 c4 c5
  go_wp2
  go_ret
  exact ⟨rfl, HN1.out⟩
theorem thing_2 (k b : Int) (h l : BitVec 64) (a : Option Addr) (n c : Nat) (x : List (BitVec 64)) (w : World) (hr : QRow w a n c x) : Calls Tryz.prog 28 #[.agg (cfc 2 k b h l a n c)] w fun e w' => e = .returned (.int .i64 (chF k b x)) ∧ New w w' := by
  generalize hW : w.alloc (.cells (cfc 2 k b h l a n c) 27) = w0
  have HB : Hid (w0.heap[w.heap.size]? = some (.cells (cfc 2 k b h l a n c) 27 (0, 0))) := Lib.hid (by rw [← hW]; exact heap_alloc_new w _)
  have HN : Hid (New w w0) := Lib.hid (by rw [← hW]; exact (New.refl w).alloc _)
  have HC := Lib.hid (check_27 k b a n c x w0 (hr.stay HN.out))
  clear hr
  have c0 := cell_of_row _ _ 0 _ _ _ HB.out
  have c1 := cell_of_row _ _ 1 _ _ _ HB.out
  have c2 := cell_of_row _ _ 2 _ _ _ HB.out
  have c3 := cell_of_row _ _ 3 _ _ _ HB.out
  have c4 := cell_of_row _ _ 4 _ _ _ HB.out
  have c5 := cell_of_row _ _ 5 _ _ _ HB.out
  go_enter Tryz.func28, Tryz.ntmps28
  go_wp2_with fail
  refine HC.out.mono ?_
  rintro e w1 ⟨rfl, hn⟩
  have HN1 := Lib.hid (HN.out.trans hn)
  clear hn HC c0 c1 c2 c3 c4 c5
  go_wp2
  go_ret
  exact ⟨rfl, HN1.out⟩
theorem thing_3 (k b : Int) (h l : BitVec 64) (a : Option Addr) (n c : Nat) (x : List (BitVec 64)) (w : World) (hr : QRow w a n c x) : Calls Tryz.prog 28 #[.agg (cfc 3 k b h l a n c)] w fun e w' => e = .returned (.int .i64 (soE k x)) ∧ New w w' := by
  generalize hW : w.alloc (.cells (cfc 3 k b h l a n c) 27) = w0
  have HB : Hid (w0.heap[w.heap.size]? = some (.cells (cfc 3 k b h l a n c) 27 (0, 0))) := Lib.hid (by rw [← hW]; exact heap_alloc_new w _)
  have HN : Hid (New w w0) := Lib.hid (by rw [← hW]; exact (New.refl w).alloc _)
  have HC := Lib.hid (so_any 3 k b h l a n c x w0 (hr.stay HN.out))
  clear hr
  generalize soE k x = E at *
  generalize soK k x = K at *
  generalize soQ k x = Q at *
  have c0 := cell_of_row _ _ 0 _ _ _ HB.out
  have c1 := cell_of_row _ _ 1 _ _ _ HB.out
  have c2 := cell_of_row _ _ 2 _ _ _ HB.out
  have c3 := cell_of_row _ _ 3 _ _ _ HB.out
  have c4 := cell_of_row _ _ 4 _ _ _ HB.out
  have c5 := cell_of_row _ _ 5 _ _ _ HB.out
  go_enter Tryz.func28, Tryz.ntmps28
  go_wp2_with fail
  refine HC.out.mono ?_
  rintro e w1 ⟨rfl, hn⟩
  have HN1 := Lib.hid (HN.out.trans hn)
  clear hn HC c0 c1 c2 c3 c4 c5
  go_wp2
  go_ret
  exact ⟨rfl, HN1.out.alloc _⟩
theorem thing_4 (k b : Int) (h l : BitVec 64) (a : Option Addr) (n c : Nat) (x : List (BitVec 64)) (w : World) (hr : QRow w a n c x) : Calls Tryz.prog 28 #[.agg (cfc 4 k b h l a n c)] w fun e w' => e = .returned (.int .i64 (if 4096 < x.length then 9 else 0)) ∧ New w w' := by
  generalize hW : w.alloc (.cells (cfc 4 k b h l a n c) 27) = w0
  have HB : Hid (w0.heap[w.heap.size]? = some (.cells (cfc 4 k b h l a n c) 27 (0, 0))) := Lib.hid (by rw [← hW]; exact heap_alloc_new w _)
  have HN : Hid (New w w0) := Lib.hid (by rw [← hW]; exact (New.refl w).alloc _)
  rw [hr.len_eq]
  clear hr
  have c0 := cell_of_row _ _ 0 _ _ _ HB.out
  have c1 := cell_of_row _ _ 1 _ _ _ HB.out
  have c2 := cell_of_row _ _ 2 _ _ _ HB.out
  have c3 := cell_of_row _ _ 3 _ _ _ HB.out
  have c4 := cell_of_row _ _ 4 _ _ _ HB.out
  have c5 := cell_of_row _ _ 5 _ _ _ HB.out
  by_cases hm : 4096 < n
  · rw [if_pos hm]
    have q : decide ((4096 : Int) < (n : Int)) = true := decide_eq_true (by omega)
    clear hm
    go_enter Tryz.func28, Tryz.ntmps28
    go_wp2
    go_ret
    exact ⟨rfl, HN.out⟩
  · rw [if_neg hm]
    have q : decide ((4096 : Int) < (n : Int)) = false := decide_eq_false (by omega)
    clear hm
    go_enter Tryz.func28, Tryz.ntmps28
    go_wp2
    go_ret
    exact ⟨rfl, HN.out⟩
theorem thing_5 (k b : Int) (h l : BitVec 64) (a : Option Addr) (n c : Nat) (x : List (BitVec 64)) (w : World) (hr : QRow w a n c x) : Calls Tryz.prog 28 #[.agg (cfc 5 k b h l a n c)] w fun e w' => e = .returned (.int .i64 (wE x)) ∧ New w w' := by
  generalize hW : w.alloc (.cells (cfc 5 k b h l a n c) 27) = w0
  have HB : Hid (w0.heap[w.heap.size]? = some (.cells (cfc 5 k b h l a n c) 27 (0, 0))) := Lib.hid (by rw [← hW]; exact heap_alloc_new w _)
  have HN : Hid (New w w0) := Lib.hid (by rw [← hW]; exact (New.refl w).alloc _)
  have HC : Hid (Calls Tryz.prog 46 #[.slice a n c] w0 fun e w' => (∃ (T : BitVec 64) (g1 g2 : Option Addr) (m1 m2 : Nat), e = .returned (.tuple #[.agg #[.int .u64 (W64 T), .slice g1 m1 m1, .slice g2 m2 m2], .int .i64 (wE x)])) ∧ New w0 w') := Lib.hid ((build_any a n c x w0 (hr.stay HN.out)).mono fun e w' hh => by
    obtain ⟨v, he, h1, h2, hn⟩ := hh
    by_cases h0 : wE x = 0
    · obtain ⟨g1, g2, hv, _⟩ := h1 h0
      exact ⟨⟨_, _, _, _, _, by rw [he, hv]⟩, hn⟩
    · exact ⟨⟨0#64, none, none, 0, 0, by rw [he, h2 h0]; rfl⟩, hn⟩)
  clear hr
  generalize wE x = E at *
  have c0 := cell_of_row _ _ 0 _ _ _ HB.out
  have c1 := cell_of_row _ _ 1 _ _ _ HB.out
  have c2 := cell_of_row _ _ 2 _ _ _ HB.out
  have c3 := cell_of_row _ _ 3 _ _ _ HB.out
  have c4 := cell_of_row _ _ 4 _ _ _ HB.out
  have c5 := cell_of_row _ _ 5 _ _ _ HB.out
  go_enter Tryz.func28, Tryz.ntmps28
  go_wp2_with fail
  refine HC.out.mono ?_
  rintro e w1 ⟨⟨T, g1, g2, m1, m2, rfl⟩, hn⟩
  have HN1 := Lib.hid (HN.out.trans hn)
  clear hn HC c0 c1 c2 c3 c4 c5
  go_wp2
  go_ret
  exact ⟨rfl, HN1.out.alloc _⟩
theorem thing_any (t : Int) (ht : 1 ≤ t ∧ t ≤ 5) (k b : Int) (h l : BitVec 64) (a : Option Addr) (n c : Nat) (x : List (BitVec 64)) (w : World) (hr : QRow w a n c x) : Calls Tryz.prog 28 #[.agg (cfc t k b h l a n c)] w fun e w' => e = .returned (.int .i64 (thE t k b h l x)) ∧ New w w' := by
  have h5 : t = 1 ∨ t = 2 ∨ t = 3 ∨ t = 4 ∨ t = 5 := by omega
  rcases h5 with rfl | rfl | rfl | rfl | rfl
  · exact thing_1 k b h l a n c x w hr
  · exact thing_2 k b h l a n c x w hr
  · exact thing_3 k b h l a n c x w hr
  · exact thing_4 k b h l a n c x w hr
  · exact thing_5 k b h l a n c x w hr
/-- a field that has no place -/
def cfF (t k b : Int) (h l : BitVec 64) (n : Nat) : Bool := (decide (4 ≤ t) && (k != 0)) || ((decide (t ≠ 2) && (b != 0)) || ((decide (t ≠ 1) && !(h == 0#64 && l == 0#64)) || (decide (t = 1) && ((n : Int) != 0))))
/-- what is wrong with a config -/
def cfE (t k b : Int) (h l : BitVec 64) (x : List (BitVec 64)) : Int := if t < 1 ∨ 5 < t then 6 else if cfF t k b h l x.length = true then 5 else thE t k b h l x
theorem equ0 (h l : BitVec 64) (w : World) : (Op.equalIn 10000 24 (.agg #[.int .u64 (W64 h), .int .u64 (W64 l)]) (.agg #[.int .u64 0, .int .u64 0])).run Tryz.prog w = .ok (h == 0#64 && l == 0#64) w := equ128 w h l 0#64 0#64
theorem cchk_no (t k b : Int) (h l : BitVec 64) (a : Option Addr) (n c : Nat) (x : List (BitVec 64)) (w : World) (hr : QRow w a n c x) (ht : t < 1 ∨ 5 < t) : Calls Tryz.prog 10 #[.agg (cfc t k b h l a n c)] w fun e w' => e = .returned (.int .i64 (6)) ∧ New w w' := by
  generalize hW : w.alloc (.cells (cfc t k b h l a n c) 27) = w0
  have HB : Hid (w0.heap[w.heap.size]? = some (.cells (cfc t k b h l a n c) 27 (0, 0))) := Lib.hid (by rw [← hW]; exact heap_alloc_new w _)
  have HN : Hid (New w w0) := Lib.hid (by rw [← hW]; exact (New.refl w).alloc _)
  have HFL := Lib.hid (fun w => fields_no t ht w)
  clear hr ht
  have c0 := cell_of_row _ _ 0 _ _ _ HB.out
  have c1 := cell_of_row _ _ 1 _ _ _ HB.out
  have c2 := cell_of_row _ _ 2 _ _ _ HB.out
  have c3 := cell_of_row _ _ 3 _ _ _ HB.out
  have c4 := cell_of_row _ _ 4 _ _ _ HB.out
  have c5 := cell_of_row _ _ 5 _ _ _ HB.out
  go_enter Tryz.func10, Tryz.ntmps10
  go_wp2_with fail
  refine (HFL.out _).mono ?_
  rintro e w1 ⟨rfl, hn⟩
  have HN1 := Lib.hid (HN.out.trans hn)
  clear hn HFL c0 c1 c2 c3 c4 c5
  go_wp2
  go_ret
  exact ⟨rfl, HN1.out.alloc _⟩
theorem cchk_1_0 (k b : Int) (h l : BitVec 64) (a : Option Addr) (n c : Nat) (x : List (BitVec 64)) (w : World) (hr : QRow w a n c x)  (gb : (b != 0) = true) : Calls Tryz.prog 10 #[.agg (cfc 1 k b h l a n c)] w fun e w' => e = .returned (.int .i64 (5)) ∧ New w w' := by
  generalize hW : w.alloc (.cells (cfc 1 k b h l a n c) 27) = w0
  have HB : Hid (w0.heap[w.heap.size]? = some (.cells (cfc 1 k b h l a n c) 27 (0, 0))) := Lib.hid (by rw [← hW]; exact heap_alloc_new w _)
  have HN : Hid (New w w0) := Lib.hid (by rw [← hW]; exact (New.refl w).alloc _)
  have HFL := Lib.hid (fun w => fields_1 w)
  clear hr
  have c0 := cell_of_row _ _ 0 _ _ _ HB.out
  have c1 := cell_of_row _ _ 1 _ _ _ HB.out
  have c2 := cell_of_row _ _ 2 _ _ _ HB.out
  have c3 := cell_of_row _ _ 3 _ _ _ HB.out
  have c4 := cell_of_row _ _ 4 _ _ _ HB.out
  have c5 := cell_of_row _ _ 5 _ _ _ HB.out
  go_enter Tryz.func10, Tryz.ntmps10
  go_wp2_with fail
  refine (HFL.out _).mono ?_
  rintro e w1 ⟨rfl, hn⟩
  have HN1 := Lib.hid (HN.out.trans hn)
  have hnx := hn.alloc (.cells (fdc true false true false) 62)
  have HNX := Lib.hid hnx
  have hb := (hnx.block _ (lt_of_block HB.out)).trans HB.out
  clear HFL c0 c1 c2 c3 c4 c5
  have c0 := cell_of_row _ _ 0 _ _ _ hb
  have c1 := cell_of_row _ _ 1 _ _ _ hb
  have c2 := cell_of_row _ _ 2 _ _ _ hb
  have c3 := cell_of_row _ _ 3 _ _ _ hb
  have c4 := cell_of_row _ _ 4 _ _ _ hb
  have c5 := cell_of_row _ _ 5 _ _ _ hb
  clear hb hn hnx
  go_wp2
  go_ret
  exact ⟨rfl, HN1.out.alloc _⟩
theorem cchk_1_1 (k b : Int) (h l : BitVec 64) (a : Option Addr) (n c : Nat) (x : List (BitVec 64)) (w : World) (hr : QRow w a n c x) (gb : (b != 0) = false) (gn : ((n : Int) != 0) = true) : Calls Tryz.prog 10 #[.agg (cfc 1 k b h l a n c)] w fun e w' => e = .returned (.int .i64 (5)) ∧ New w w' := by
  generalize hW : w.alloc (.cells (cfc 1 k b h l a n c) 27) = w0
  have HB : Hid (w0.heap[w.heap.size]? = some (.cells (cfc 1 k b h l a n c) 27 (0, 0))) := Lib.hid (by rw [← hW]; exact heap_alloc_new w _)
  have HN : Hid (New w w0) := Lib.hid (by rw [← hW]; exact (New.refl w).alloc _)
  have HFL := Lib.hid (fun w => fields_1 w)
  clear hr
  have c0 := cell_of_row _ _ 0 _ _ _ HB.out
  have c1 := cell_of_row _ _ 1 _ _ _ HB.out
  have c2 := cell_of_row _ _ 2 _ _ _ HB.out
  have c3 := cell_of_row _ _ 3 _ _ _ HB.out
  have c4 := cell_of_row _ _ 4 _ _ _ HB.out
  have c5 := cell_of_row _ _ 5 _ _ _ HB.out
  go_enter Tryz.func10, Tryz.ntmps10
  go_wp2_with fail
  refine (HFL.out _).mono ?_
  rintro e w1 ⟨rfl, hn⟩
  have HN1 := Lib.hid (HN.out.trans hn)
  have hnx := hn.alloc (.cells (fdc true false true false) 62)
  have HNX := Lib.hid hnx
  have hb := (hnx.block _ (lt_of_block HB.out)).trans HB.out
  clear HFL c0 c1 c2 c3 c4 c5
  have c0 := cell_of_row _ _ 0 _ _ _ hb
  have c1 := cell_of_row _ _ 1 _ _ _ hb
  have c2 := cell_of_row _ _ 2 _ _ _ hb
  have c3 := cell_of_row _ _ 3 _ _ _ hb
  have c4 := cell_of_row _ _ 4 _ _ _ hb
  have c5 := cell_of_row _ _ 5 _ _ _ hb
  clear hb hn hnx
  go_wp2
  go_ret
  exact ⟨rfl, HN1.out.alloc _⟩
theorem cchk_1_2 (k b : Int) (h l : BitVec 64) (a : Option Addr) (n c : Nat) (x : List (BitVec 64)) (w : World) (hr : QRow w a n c x) (gb : (b != 0) = false) (gn : ((n : Int) != 0) = false) : Calls Tryz.prog 10 #[.agg (cfc 1 k b h l a n c)] w fun e w' => e = .returned (.int .i64 (thE 1 k b h l x)) ∧ New w w' := by
  generalize hW : w.alloc (.cells (cfc 1 k b h l a n c) 27) = w0
  have HB : Hid (w0.heap[w.heap.size]? = some (.cells (cfc 1 k b h l a n c) 27 (0, 0))) := Lib.hid (by rw [← hW]; exact heap_alloc_new w _)
  have HN : Hid (New w w0) := Lib.hid (by rw [← hW]; exact (New.refl w).alloc _)
  have HFL := Lib.hid (fun w => fields_1 w)
  have HT := Lib.hid (fun (w' : World) (hn : New w0 w') => thing_any 1 (by omega) k b h l a n c x w' (hr.stay (HN.out.trans hn)))
  generalize thE 1 k b h l x = E at *
  clear hr
  have c0 := cell_of_row _ _ 0 _ _ _ HB.out
  have c1 := cell_of_row _ _ 1 _ _ _ HB.out
  have c2 := cell_of_row _ _ 2 _ _ _ HB.out
  have c3 := cell_of_row _ _ 3 _ _ _ HB.out
  have c4 := cell_of_row _ _ 4 _ _ _ HB.out
  have c5 := cell_of_row _ _ 5 _ _ _ HB.out
  go_enter Tryz.func10, Tryz.ntmps10
  go_wp2_with fail
  refine (HFL.out _).mono ?_
  rintro e w1 ⟨rfl, hn⟩
  have HN1 := Lib.hid (HN.out.trans hn)
  have hnx := hn.alloc (.cells (fdc true false true false) 62)
  have HNX := Lib.hid hnx
  have hb := (hnx.block _ (lt_of_block HB.out)).trans HB.out
  clear HFL c0 c1 c2 c3 c4 c5
  have c0 := cell_of_row _ _ 0 _ _ _ hb
  have c1 := cell_of_row _ _ 1 _ _ _ hb
  have c2 := cell_of_row _ _ 2 _ _ _ hb
  have c3 := cell_of_row _ _ 3 _ _ _ hb
  have c4 := cell_of_row _ _ 4 _ _ _ hb
  have c5 := cell_of_row _ _ 5 _ _ _ hb
  clear hb hn hnx
  go_wp2_with fail
  refine (HT.out _ HNX.out).mono ?_
  rintro e w2 ⟨rfl, hn⟩
  have HN2 := Lib.hid ((HN1.out.alloc _).trans hn)
  clear hn HT c0 c1 c2 c3 c4 c5
  go_wp2
  go_ret
  exact ⟨rfl, HN2.out⟩
theorem cchk_2_0 (k b : Int) (h l : BitVec 64) (a : Option Addr) (n c : Nat) (x : List (BitVec 64)) (w : World) (hr : QRow w a n c x)  (gy : (h == 0#64 && l == 0#64) = false) : Calls Tryz.prog 10 #[.agg (cfc 2 k b h l a n c)] w fun e w' => e = .returned (.int .i64 (5)) ∧ New w w' := by
  generalize hW : w.alloc (.cells (cfc 2 k b h l a n c) 27) = w0
  have HB : Hid (w0.heap[w.heap.size]? = some (.cells (cfc 2 k b h l a n c) 27 (0, 0))) := Lib.hid (by rw [← hW]; exact heap_alloc_new w _)
  have HN : Hid (New w w0) := Lib.hid (by rw [← hW]; exact (New.refl w).alloc _)
  have HFL := Lib.hid (fun w => fields_2 w)
  have heq := fun w => equ0 h l w
  rw [gy] at heq
  clear hr
  have c0 := cell_of_row _ _ 0 _ _ _ HB.out
  have c1 := cell_of_row _ _ 1 _ _ _ HB.out
  have c2 := cell_of_row _ _ 2 _ _ _ HB.out
  have c3 := cell_of_row _ _ 3 _ _ _ HB.out
  have c4 := cell_of_row _ _ 4 _ _ _ HB.out
  have c5 := cell_of_row _ _ 5 _ _ _ HB.out
  go_enter Tryz.func10, Tryz.ntmps10
  go_wp2_with fail
  refine (HFL.out _).mono ?_
  rintro e w1 ⟨rfl, hn⟩
  have HN1 := Lib.hid (HN.out.trans hn)
  have hnx := hn.alloc (.cells (fdc true true false true) 62)
  have HNX := Lib.hid hnx
  have hb := (hnx.block _ (lt_of_block HB.out)).trans HB.out
  clear HFL c0 c1 c2 c3 c4 c5
  have c0 := cell_of_row _ _ 0 _ _ _ hb
  have c1 := cell_of_row _ _ 1 _ _ _ hb
  have c2 := cell_of_row _ _ 2 _ _ _ hb
  have c3 := cell_of_row _ _ 3 _ _ _ hb
  have c4 := cell_of_row _ _ 4 _ _ _ hb
  have c5 := cell_of_row _ _ 5 _ _ _ hb
  clear hb hn hnx
  go_wp2
  go_ret
  exact ⟨rfl, HN1.out.alloc _⟩
theorem cchk_2_1 (k b : Int) (h l : BitVec 64) (a : Option Addr) (n c : Nat) (x : List (BitVec 64)) (w : World) (hr : QRow w a n c x) (gy : (h == 0#64 && l == 0#64) = true) : Calls Tryz.prog 10 #[.agg (cfc 2 k b h l a n c)] w fun e w' => e = .returned (.int .i64 (thE 2 k b h l x)) ∧ New w w' := by
  generalize hW : w.alloc (.cells (cfc 2 k b h l a n c) 27) = w0
  have HB : Hid (w0.heap[w.heap.size]? = some (.cells (cfc 2 k b h l a n c) 27 (0, 0))) := Lib.hid (by rw [← hW]; exact heap_alloc_new w _)
  have HN : Hid (New w w0) := Lib.hid (by rw [← hW]; exact (New.refl w).alloc _)
  have HFL := Lib.hid (fun w => fields_2 w)
  have heq := fun w => equ0 h l w
  rw [gy] at heq
  have HT := Lib.hid (fun (w' : World) (hn : New w0 w') => thing_any 2 (by omega) k b h l a n c x w' (hr.stay (HN.out.trans hn)))
  generalize thE 2 k b h l x = E at *
  clear hr
  have c0 := cell_of_row _ _ 0 _ _ _ HB.out
  have c1 := cell_of_row _ _ 1 _ _ _ HB.out
  have c2 := cell_of_row _ _ 2 _ _ _ HB.out
  have c3 := cell_of_row _ _ 3 _ _ _ HB.out
  have c4 := cell_of_row _ _ 4 _ _ _ HB.out
  have c5 := cell_of_row _ _ 5 _ _ _ HB.out
  go_enter Tryz.func10, Tryz.ntmps10
  go_wp2_with fail
  refine (HFL.out _).mono ?_
  rintro e w1 ⟨rfl, hn⟩
  have HN1 := Lib.hid (HN.out.trans hn)
  have hnx := hn.alloc (.cells (fdc true true false true) 62)
  have HNX := Lib.hid hnx
  have hb := (hnx.block _ (lt_of_block HB.out)).trans HB.out
  clear HFL c0 c1 c2 c3 c4 c5
  have c0 := cell_of_row _ _ 0 _ _ _ hb
  have c1 := cell_of_row _ _ 1 _ _ _ hb
  have c2 := cell_of_row _ _ 2 _ _ _ hb
  have c3 := cell_of_row _ _ 3 _ _ _ hb
  have c4 := cell_of_row _ _ 4 _ _ _ hb
  have c5 := cell_of_row _ _ 5 _ _ _ hb
  clear hb hn hnx
  go_wp2_with fail
  refine (HT.out _ HNX.out).mono ?_
  rintro e w2 ⟨rfl, hn⟩
  have HN2 := Lib.hid ((HN1.out.alloc _).trans hn)
  clear hn HT c0 c1 c2 c3 c4 c5
  go_wp2
  go_ret
  exact ⟨rfl, HN2.out⟩
theorem cchk_3_0 (k b : Int) (h l : BitVec 64) (a : Option Addr) (n c : Nat) (x : List (BitVec 64)) (w : World) (hr : QRow w a n c x)  (gb : (b != 0) = true) : Calls Tryz.prog 10 #[.agg (cfc 3 k b h l a n c)] w fun e w' => e = .returned (.int .i64 (5)) ∧ New w w' := by
  generalize hW : w.alloc (.cells (cfc 3 k b h l a n c) 27) = w0
  have HB : Hid (w0.heap[w.heap.size]? = some (.cells (cfc 3 k b h l a n c) 27 (0, 0))) := Lib.hid (by rw [← hW]; exact heap_alloc_new w _)
  have HN : Hid (New w w0) := Lib.hid (by rw [← hW]; exact (New.refl w).alloc _)
  have HFL := Lib.hid (fun w => fields_3 w)
  clear hr
  have c0 := cell_of_row _ _ 0 _ _ _ HB.out
  have c1 := cell_of_row _ _ 1 _ _ _ HB.out
  have c2 := cell_of_row _ _ 2 _ _ _ HB.out
  have c3 := cell_of_row _ _ 3 _ _ _ HB.out
  have c4 := cell_of_row _ _ 4 _ _ _ HB.out
  have c5 := cell_of_row _ _ 5 _ _ _ HB.out
  go_enter Tryz.func10, Tryz.ntmps10
  go_wp2_with fail
  refine (HFL.out _).mono ?_
  rintro e w1 ⟨rfl, hn⟩
  have HN1 := Lib.hid (HN.out.trans hn)
  have hnx := hn.alloc (.cells (fdc true false false true) 62)
  have HNX := Lib.hid hnx
  have hb := (hnx.block _ (lt_of_block HB.out)).trans HB.out
  clear HFL c0 c1 c2 c3 c4 c5
  have c0 := cell_of_row _ _ 0 _ _ _ hb
  have c1 := cell_of_row _ _ 1 _ _ _ hb
  have c2 := cell_of_row _ _ 2 _ _ _ hb
  have c3 := cell_of_row _ _ 3 _ _ _ hb
  have c4 := cell_of_row _ _ 4 _ _ _ hb
  have c5 := cell_of_row _ _ 5 _ _ _ hb
  clear hb hn hnx
  go_wp2
  go_ret
  exact ⟨rfl, HN1.out.alloc _⟩
theorem cchk_3_1 (k b : Int) (h l : BitVec 64) (a : Option Addr) (n c : Nat) (x : List (BitVec 64)) (w : World) (hr : QRow w a n c x) (gb : (b != 0) = false) (gy : (h == 0#64 && l == 0#64) = false) : Calls Tryz.prog 10 #[.agg (cfc 3 k b h l a n c)] w fun e w' => e = .returned (.int .i64 (5)) ∧ New w w' := by
  generalize hW : w.alloc (.cells (cfc 3 k b h l a n c) 27) = w0
  have HB : Hid (w0.heap[w.heap.size]? = some (.cells (cfc 3 k b h l a n c) 27 (0, 0))) := Lib.hid (by rw [← hW]; exact heap_alloc_new w _)
  have HN : Hid (New w w0) := Lib.hid (by rw [← hW]; exact (New.refl w).alloc _)
  have HFL := Lib.hid (fun w => fields_3 w)
  have heq := fun w => equ0 h l w
  rw [gy] at heq
  clear hr
  have c0 := cell_of_row _ _ 0 _ _ _ HB.out
  have c1 := cell_of_row _ _ 1 _ _ _ HB.out
  have c2 := cell_of_row _ _ 2 _ _ _ HB.out
  have c3 := cell_of_row _ _ 3 _ _ _ HB.out
  have c4 := cell_of_row _ _ 4 _ _ _ HB.out
  have c5 := cell_of_row _ _ 5 _ _ _ HB.out
  go_enter Tryz.func10, Tryz.ntmps10
  go_wp2_with fail
  refine (HFL.out _).mono ?_
  rintro e w1 ⟨rfl, hn⟩
  have HN1 := Lib.hid (HN.out.trans hn)
  have hnx := hn.alloc (.cells (fdc true false false true) 62)
  have HNX := Lib.hid hnx
  have hb := (hnx.block _ (lt_of_block HB.out)).trans HB.out
  clear HFL c0 c1 c2 c3 c4 c5
  have c0 := cell_of_row _ _ 0 _ _ _ hb
  have c1 := cell_of_row _ _ 1 _ _ _ hb
  have c2 := cell_of_row _ _ 2 _ _ _ hb
  have c3 := cell_of_row _ _ 3 _ _ _ hb
  have c4 := cell_of_row _ _ 4 _ _ _ hb
  have c5 := cell_of_row _ _ 5 _ _ _ hb
  clear hb hn hnx
  go_wp2
  go_ret
  exact ⟨rfl, HN1.out.alloc _⟩
theorem cchk_3_2 (k b : Int) (h l : BitVec 64) (a : Option Addr) (n c : Nat) (x : List (BitVec 64)) (w : World) (hr : QRow w a n c x) (gb : (b != 0) = false) (gy : (h == 0#64 && l == 0#64) = true) : Calls Tryz.prog 10 #[.agg (cfc 3 k b h l a n c)] w fun e w' => e = .returned (.int .i64 (thE 3 k b h l x)) ∧ New w w' := by
  generalize hW : w.alloc (.cells (cfc 3 k b h l a n c) 27) = w0
  have HB : Hid (w0.heap[w.heap.size]? = some (.cells (cfc 3 k b h l a n c) 27 (0, 0))) := Lib.hid (by rw [← hW]; exact heap_alloc_new w _)
  have HN : Hid (New w w0) := Lib.hid (by rw [← hW]; exact (New.refl w).alloc _)
  have HFL := Lib.hid (fun w => fields_3 w)
  have heq := fun w => equ0 h l w
  rw [gy] at heq
  have HT := Lib.hid (fun (w' : World) (hn : New w0 w') => thing_any 3 (by omega) k b h l a n c x w' (hr.stay (HN.out.trans hn)))
  generalize thE 3 k b h l x = E at *
  clear hr
  have c0 := cell_of_row _ _ 0 _ _ _ HB.out
  have c1 := cell_of_row _ _ 1 _ _ _ HB.out
  have c2 := cell_of_row _ _ 2 _ _ _ HB.out
  have c3 := cell_of_row _ _ 3 _ _ _ HB.out
  have c4 := cell_of_row _ _ 4 _ _ _ HB.out
  have c5 := cell_of_row _ _ 5 _ _ _ HB.out
  go_enter Tryz.func10, Tryz.ntmps10
  go_wp2_with fail
  refine (HFL.out _).mono ?_
  rintro e w1 ⟨rfl, hn⟩
  have HN1 := Lib.hid (HN.out.trans hn)
  have hnx := hn.alloc (.cells (fdc true false false true) 62)
  have HNX := Lib.hid hnx
  have hb := (hnx.block _ (lt_of_block HB.out)).trans HB.out
  clear HFL c0 c1 c2 c3 c4 c5
  have c0 := cell_of_row _ _ 0 _ _ _ hb
  have c1 := cell_of_row _ _ 1 _ _ _ hb
  have c2 := cell_of_row _ _ 2 _ _ _ hb
  have c3 := cell_of_row _ _ 3 _ _ _ hb
  have c4 := cell_of_row _ _ 4 _ _ _ hb
  have c5 := cell_of_row _ _ 5 _ _ _ hb
  clear hb hn hnx
  go_wp2_with fail
  refine (HT.out _ HNX.out).mono ?_
  rintro e w2 ⟨rfl, hn⟩
  have HN2 := Lib.hid ((HN1.out.alloc _).trans hn)
  clear hn HT c0 c1 c2 c3 c4 c5
  go_wp2
  go_ret
  exact ⟨rfl, HN2.out⟩
theorem cchk_4_0 (k b : Int) (h l : BitVec 64) (a : Option Addr) (n c : Nat) (x : List (BitVec 64)) (w : World) (hr : QRow w a n c x)  (gk : (k != 0) = true) : Calls Tryz.prog 10 #[.agg (cfc 4 k b h l a n c)] w fun e w' => e = .returned (.int .i64 (5)) ∧ New w w' := by
  generalize hW : w.alloc (.cells (cfc 4 k b h l a n c) 27) = w0
  have HB : Hid (w0.heap[w.heap.size]? = some (.cells (cfc 4 k b h l a n c) 27 (0, 0))) := Lib.hid (by rw [← hW]; exact heap_alloc_new w _)
  have HN : Hid (New w w0) := Lib.hid (by rw [← hW]; exact (New.refl w).alloc _)
  have HFL := Lib.hid (fun w => fields_4 w)
  clear hr
  have c0 := cell_of_row _ _ 0 _ _ _ HB.out
  have c1 := cell_of_row _ _ 1 _ _ _ HB.out
  have c2 := cell_of_row _ _ 2 _ _ _ HB.out
  have c3 := cell_of_row _ _ 3 _ _ _ HB.out
  have c4 := cell_of_row _ _ 4 _ _ _ HB.out
  have c5 := cell_of_row _ _ 5 _ _ _ HB.out
  go_enter Tryz.func10, Tryz.ntmps10
  go_wp2_with fail
  refine (HFL.out _).mono ?_
  rintro e w1 ⟨rfl, hn⟩
  have HN1 := Lib.hid (HN.out.trans hn)
  have hnx := hn.alloc (.cells (fdc false false false true) 62)
  have HNX := Lib.hid hnx
  have hb := (hnx.block _ (lt_of_block HB.out)).trans HB.out
  clear HFL c0 c1 c2 c3 c4 c5
  have c0 := cell_of_row _ _ 0 _ _ _ hb
  have c1 := cell_of_row _ _ 1 _ _ _ hb
  have c2 := cell_of_row _ _ 2 _ _ _ hb
  have c3 := cell_of_row _ _ 3 _ _ _ hb
  have c4 := cell_of_row _ _ 4 _ _ _ hb
  have c5 := cell_of_row _ _ 5 _ _ _ hb
  clear hb hn hnx
  go_wp2
  go_ret
  exact ⟨rfl, HN1.out.alloc _⟩
theorem cchk_4_1 (k b : Int) (h l : BitVec 64) (a : Option Addr) (n c : Nat) (x : List (BitVec 64)) (w : World) (hr : QRow w a n c x) (gk : (k != 0) = false) (gb : (b != 0) = true) : Calls Tryz.prog 10 #[.agg (cfc 4 k b h l a n c)] w fun e w' => e = .returned (.int .i64 (5)) ∧ New w w' := by
  generalize hW : w.alloc (.cells (cfc 4 k b h l a n c) 27) = w0
  have HB : Hid (w0.heap[w.heap.size]? = some (.cells (cfc 4 k b h l a n c) 27 (0, 0))) := Lib.hid (by rw [← hW]; exact heap_alloc_new w _)
  have HN : Hid (New w w0) := Lib.hid (by rw [← hW]; exact (New.refl w).alloc _)
  have HFL := Lib.hid (fun w => fields_4 w)
  clear hr
  have c0 := cell_of_row _ _ 0 _ _ _ HB.out
  have c1 := cell_of_row _ _ 1 _ _ _ HB.out
  have c2 := cell_of_row _ _ 2 _ _ _ HB.out
  have c3 := cell_of_row _ _ 3 _ _ _ HB.out
  have c4 := cell_of_row _ _ 4 _ _ _ HB.out
  have c5 := cell_of_row _ _ 5 _ _ _ HB.out
  go_enter Tryz.func10, Tryz.ntmps10
  go_wp2_with fail
  refine (HFL.out _).mono ?_
  rintro e w1 ⟨rfl, hn⟩
  have HN1 := Lib.hid (HN.out.trans hn)
  have hnx := hn.alloc (.cells (fdc false false false true) 62)
  have HNX := Lib.hid hnx
  have hb := (hnx.block _ (lt_of_block HB.out)).trans HB.out
  clear HFL c0 c1 c2 c3 c4 c5
  have c0 := cell_of_row _ _ 0 _ _ _ hb
  have c1 := cell_of_row _ _ 1 _ _ _ hb
  have c2 := cell_of_row _ _ 2 _ _ _ hb
  have c3 := cell_of_row _ _ 3 _ _ _ hb
  have c4 := cell_of_row _ _ 4 _ _ _ hb
  have c5 := cell_of_row _ _ 5 _ _ _ hb
  clear hb hn hnx
  go_wp2
  go_ret
  exact ⟨rfl, HN1.out.alloc _⟩
theorem cchk_4_2 (k b : Int) (h l : BitVec 64) (a : Option Addr) (n c : Nat) (x : List (BitVec 64)) (w : World) (hr : QRow w a n c x) (gk : (k != 0) = false) (gb : (b != 0) = false) (gy : (h == 0#64 && l == 0#64) = false) : Calls Tryz.prog 10 #[.agg (cfc 4 k b h l a n c)] w fun e w' => e = .returned (.int .i64 (5)) ∧ New w w' := by
  generalize hW : w.alloc (.cells (cfc 4 k b h l a n c) 27) = w0
  have HB : Hid (w0.heap[w.heap.size]? = some (.cells (cfc 4 k b h l a n c) 27 (0, 0))) := Lib.hid (by rw [← hW]; exact heap_alloc_new w _)
  have HN : Hid (New w w0) := Lib.hid (by rw [← hW]; exact (New.refl w).alloc _)
  have HFL := Lib.hid (fun w => fields_4 w)
  have heq := fun w => equ0 h l w
  rw [gy] at heq
  clear hr
  have c0 := cell_of_row _ _ 0 _ _ _ HB.out
  have c1 := cell_of_row _ _ 1 _ _ _ HB.out
  have c2 := cell_of_row _ _ 2 _ _ _ HB.out
  have c3 := cell_of_row _ _ 3 _ _ _ HB.out
  have c4 := cell_of_row _ _ 4 _ _ _ HB.out
  have c5 := cell_of_row _ _ 5 _ _ _ HB.out
  go_enter Tryz.func10, Tryz.ntmps10
  go_wp2_with fail
  refine (HFL.out _).mono ?_
  rintro e w1 ⟨rfl, hn⟩
  have HN1 := Lib.hid (HN.out.trans hn)
  have hnx := hn.alloc (.cells (fdc false false false true) 62)
  have HNX := Lib.hid hnx
  have hb := (hnx.block _ (lt_of_block HB.out)).trans HB.out
  clear HFL c0 c1 c2 c3 c4 c5
  have c0 := cell_of_row _ _ 0 _ _ _ hb
  have c1 := cell_of_row _ _ 1 _ _ _ hb
  have c2 := cell_of_row _ _ 2 _ _ _ hb
  have c3 := cell_of_row _ _ 3 _ _ _ hb
  have c4 := cell_of_row _ _ 4 _ _ _ hb
  have c5 := cell_of_row _ _ 5 _ _ _ hb
  clear hb hn hnx
  go_wp2
  go_ret
  exact ⟨rfl, HN1.out.alloc _⟩
theorem cchk_4_3 (k b : Int) (h l : BitVec 64) (a : Option Addr) (n c : Nat) (x : List (BitVec 64)) (w : World) (hr : QRow w a n c x) (gk : (k != 0) = false) (gb : (b != 0) = false) (gy : (h == 0#64 && l == 0#64) = true) : Calls Tryz.prog 10 #[.agg (cfc 4 k b h l a n c)] w fun e w' => e = .returned (.int .i64 (thE 4 k b h l x)) ∧ New w w' := by
  generalize hW : w.alloc (.cells (cfc 4 k b h l a n c) 27) = w0
  have HB : Hid (w0.heap[w.heap.size]? = some (.cells (cfc 4 k b h l a n c) 27 (0, 0))) := Lib.hid (by rw [← hW]; exact heap_alloc_new w _)
  have HN : Hid (New w w0) := Lib.hid (by rw [← hW]; exact (New.refl w).alloc _)
  have HFL := Lib.hid (fun w => fields_4 w)
  have heq := fun w => equ0 h l w
  rw [gy] at heq
  have HT := Lib.hid (fun (w' : World) (hn : New w0 w') => thing_any 4 (by omega) k b h l a n c x w' (hr.stay (HN.out.trans hn)))
  generalize thE 4 k b h l x = E at *
  clear hr
  have c0 := cell_of_row _ _ 0 _ _ _ HB.out
  have c1 := cell_of_row _ _ 1 _ _ _ HB.out
  have c2 := cell_of_row _ _ 2 _ _ _ HB.out
  have c3 := cell_of_row _ _ 3 _ _ _ HB.out
  have c4 := cell_of_row _ _ 4 _ _ _ HB.out
  have c5 := cell_of_row _ _ 5 _ _ _ HB.out
  go_enter Tryz.func10, Tryz.ntmps10
  go_wp2_with fail
  refine (HFL.out _).mono ?_
  rintro e w1 ⟨rfl, hn⟩
  have HN1 := Lib.hid (HN.out.trans hn)
  have hnx := hn.alloc (.cells (fdc false false false true) 62)
  have HNX := Lib.hid hnx
  have hb := (hnx.block _ (lt_of_block HB.out)).trans HB.out
  clear HFL c0 c1 c2 c3 c4 c5
  have c0 := cell_of_row _ _ 0 _ _ _ hb
  have c1 := cell_of_row _ _ 1 _ _ _ hb
  have c2 := cell_of_row _ _ 2 _ _ _ hb
  have c3 := cell_of_row _ _ 3 _ _ _ hb
  have c4 := cell_of_row _ _ 4 _ _ _ hb
  have c5 := cell_of_row _ _ 5 _ _ _ hb
  clear hb hn hnx
  go_wp2_with fail
  refine (HT.out _ HNX.out).mono ?_
  rintro e w2 ⟨rfl, hn⟩
  have HN2 := Lib.hid ((HN1.out.alloc _).trans hn)
  clear hn HT c0 c1 c2 c3 c4 c5
  go_wp2
  go_ret
  exact ⟨rfl, HN2.out⟩
theorem cchk_5_0 (k b : Int) (h l : BitVec 64) (a : Option Addr) (n c : Nat) (x : List (BitVec 64)) (w : World) (hr : QRow w a n c x)  (gk : (k != 0) = true) : Calls Tryz.prog 10 #[.agg (cfc 5 k b h l a n c)] w fun e w' => e = .returned (.int .i64 (5)) ∧ New w w' := by
  generalize hW : w.alloc (.cells (cfc 5 k b h l a n c) 27) = w0
  have HB : Hid (w0.heap[w.heap.size]? = some (.cells (cfc 5 k b h l a n c) 27 (0, 0))) := Lib.hid (by rw [← hW]; exact heap_alloc_new w _)
  have HN : Hid (New w w0) := Lib.hid (by rw [← hW]; exact (New.refl w).alloc _)
  have HFL := Lib.hid (fun w => fields_5 w)
  clear hr
  have c0 := cell_of_row _ _ 0 _ _ _ HB.out
  have c1 := cell_of_row _ _ 1 _ _ _ HB.out
  have c2 := cell_of_row _ _ 2 _ _ _ HB.out
  have c3 := cell_of_row _ _ 3 _ _ _ HB.out
  have c4 := cell_of_row _ _ 4 _ _ _ HB.out
  have c5 := cell_of_row _ _ 5 _ _ _ HB.out
  go_enter Tryz.func10, Tryz.ntmps10
  go_wp2_with fail
  refine (HFL.out _).mono ?_
  rintro e w1 ⟨rfl, hn⟩
  have HN1 := Lib.hid (HN.out.trans hn)
  have hnx := hn.alloc (.cells (fdc false false false true) 62)
  have HNX := Lib.hid hnx
  have hb := (hnx.block _ (lt_of_block HB.out)).trans HB.out
  clear HFL c0 c1 c2 c3 c4 c5
  have c0 := cell_of_row _ _ 0 _ _ _ hb
  have c1 := cell_of_row _ _ 1 _ _ _ hb
  have c2 := cell_of_row _ _ 2 _ _ _ hb
  have c3 := cell_of_row _ _ 3 _ _ _ hb
  have c4 := cell_of_row _ _ 4 _ _ _ hb
  have c5 := cell_of_row _ _ 5 _ _ _ hb
  clear hb hn hnx
  go_wp2
  go_ret
  exact ⟨rfl, HN1.out.alloc _⟩
theorem cchk_5_1 (k b : Int) (h l : BitVec 64) (a : Option Addr) (n c : Nat) (x : List (BitVec 64)) (w : World) (hr : QRow w a n c x) (gk : (k != 0) = false) (gb : (b != 0) = true) : Calls Tryz.prog 10 #[.agg (cfc 5 k b h l a n c)] w fun e w' => e = .returned (.int .i64 (5)) ∧ New w w' := by
  generalize hW : w.alloc (.cells (cfc 5 k b h l a n c) 27) = w0
  have HB : Hid (w0.heap[w.heap.size]? = some (.cells (cfc 5 k b h l a n c) 27 (0, 0))) := Lib.hid (by rw [← hW]; exact heap_alloc_new w _)
  have HN : Hid (New w w0) := Lib.hid (by rw [← hW]; exact (New.refl w).alloc _)
  have HFL := Lib.hid (fun w => fields_5 w)
  clear hr
  have c0 := cell_of_row _ _ 0 _ _ _ HB.out
  have c1 := cell_of_row _ _ 1 _ _ _ HB.out
  have c2 := cell_of_row _ _ 2 _ _ _ HB.out
  have c3 := cell_of_row _ _ 3 _ _ _ HB.out
  have c4 := cell_of_row _ _ 4 _ _ _ HB.out
  have c5 := cell_of_row _ _ 5 _ _ _ HB.out
  go_enter Tryz.func10, Tryz.ntmps10
  go_wp2_with fail
  refine (HFL.out _).mono ?_
  rintro e w1 ⟨rfl, hn⟩
  have HN1 := Lib.hid (HN.out.trans hn)
  have hnx := hn.alloc (.cells (fdc false false false true) 62)
  have HNX := Lib.hid hnx
  have hb := (hnx.block _ (lt_of_block HB.out)).trans HB.out
  clear HFL c0 c1 c2 c3 c4 c5
  have c0 := cell_of_row _ _ 0 _ _ _ hb
  have c1 := cell_of_row _ _ 1 _ _ _ hb
  have c2 := cell_of_row _ _ 2 _ _ _ hb
  have c3 := cell_of_row _ _ 3 _ _ _ hb
  have c4 := cell_of_row _ _ 4 _ _ _ hb
  have c5 := cell_of_row _ _ 5 _ _ _ hb
  clear hb hn hnx
  go_wp2
  go_ret
  exact ⟨rfl, HN1.out.alloc _⟩
theorem cchk_5_2 (k b : Int) (h l : BitVec 64) (a : Option Addr) (n c : Nat) (x : List (BitVec 64)) (w : World) (hr : QRow w a n c x) (gk : (k != 0) = false) (gb : (b != 0) = false) (gy : (h == 0#64 && l == 0#64) = false) : Calls Tryz.prog 10 #[.agg (cfc 5 k b h l a n c)] w fun e w' => e = .returned (.int .i64 (5)) ∧ New w w' := by
  generalize hW : w.alloc (.cells (cfc 5 k b h l a n c) 27) = w0
  have HB : Hid (w0.heap[w.heap.size]? = some (.cells (cfc 5 k b h l a n c) 27 (0, 0))) := Lib.hid (by rw [← hW]; exact heap_alloc_new w _)
  have HN : Hid (New w w0) := Lib.hid (by rw [← hW]; exact (New.refl w).alloc _)
  have HFL := Lib.hid (fun w => fields_5 w)
  have heq := fun w => equ0 h l w
  rw [gy] at heq
  clear hr
  have c0 := cell_of_row _ _ 0 _ _ _ HB.out
  have c1 := cell_of_row _ _ 1 _ _ _ HB.out
  have c2 := cell_of_row _ _ 2 _ _ _ HB.out
  have c3 := cell_of_row _ _ 3 _ _ _ HB.out
  have c4 := cell_of_row _ _ 4 _ _ _ HB.out
  have c5 := cell_of_row _ _ 5 _ _ _ HB.out
  go_enter Tryz.func10, Tryz.ntmps10
  go_wp2_with fail
  refine (HFL.out _).mono ?_
  rintro e w1 ⟨rfl, hn⟩
  have HN1 := Lib.hid (HN.out.trans hn)
  have hnx := hn.alloc (.cells (fdc false false false true) 62)
  have HNX := Lib.hid hnx
  have hb := (hnx.block _ (lt_of_block HB.out)).trans HB.out
  clear HFL c0 c1 c2 c3 c4 c5
  have c0 := cell_of_row _ _ 0 _ _ _ hb
  have c1 := cell_of_row _ _ 1 _ _ _ hb
  have c2 := cell_of_row _ _ 2 _ _ _ hb
  have c3 := cell_of_row _ _ 3 _ _ _ hb
  have c4 := cell_of_row _ _ 4 _ _ _ hb
  have c5 := cell_of_row _ _ 5 _ _ _ hb
  clear hb hn hnx
  go_wp2
  go_ret
  exact ⟨rfl, HN1.out.alloc _⟩
theorem cchk_5_3 (k b : Int) (h l : BitVec 64) (a : Option Addr) (n c : Nat) (x : List (BitVec 64)) (w : World) (hr : QRow w a n c x) (gk : (k != 0) = false) (gb : (b != 0) = false) (gy : (h == 0#64 && l == 0#64) = true) : Calls Tryz.prog 10 #[.agg (cfc 5 k b h l a n c)] w fun e w' => e = .returned (.int .i64 (thE 5 k b h l x)) ∧ New w w' := by
  generalize hW : w.alloc (.cells (cfc 5 k b h l a n c) 27) = w0
  have HB : Hid (w0.heap[w.heap.size]? = some (.cells (cfc 5 k b h l a n c) 27 (0, 0))) := Lib.hid (by rw [← hW]; exact heap_alloc_new w _)
  have HN : Hid (New w w0) := Lib.hid (by rw [← hW]; exact (New.refl w).alloc _)
  have HFL := Lib.hid (fun w => fields_5 w)
  have heq := fun w => equ0 h l w
  rw [gy] at heq
  have HT := Lib.hid (fun (w' : World) (hn : New w0 w') => thing_any 5 (by omega) k b h l a n c x w' (hr.stay (HN.out.trans hn)))
  generalize thE 5 k b h l x = E at *
  clear hr
  have c0 := cell_of_row _ _ 0 _ _ _ HB.out
  have c1 := cell_of_row _ _ 1 _ _ _ HB.out
  have c2 := cell_of_row _ _ 2 _ _ _ HB.out
  have c3 := cell_of_row _ _ 3 _ _ _ HB.out
  have c4 := cell_of_row _ _ 4 _ _ _ HB.out
  have c5 := cell_of_row _ _ 5 _ _ _ HB.out
  go_enter Tryz.func10, Tryz.ntmps10
  go_wp2_with fail
  refine (HFL.out _).mono ?_
  rintro e w1 ⟨rfl, hn⟩
  have HN1 := Lib.hid (HN.out.trans hn)
  have hnx := hn.alloc (.cells (fdc false false false true) 62)
  have HNX := Lib.hid hnx
  have hb := (hnx.block _ (lt_of_block HB.out)).trans HB.out
  clear HFL c0 c1 c2 c3 c4 c5
  have c0 := cell_of_row _ _ 0 _ _ _ hb
  have c1 := cell_of_row _ _ 1 _ _ _ hb
  have c2 := cell_of_row _ _ 2 _ _ _ hb
  have c3 := cell_of_row _ _ 3 _ _ _ hb
  have c4 := cell_of_row _ _ 4 _ _ _ hb
  have c5 := cell_of_row _ _ 5 _ _ _ hb
  clear hb hn hnx
  go_wp2_with fail
  refine (HT.out _ HNX.out).mono ?_
  rintro e w2 ⟨rfl, hn⟩
  have HN2 := Lib.hid ((HN1.out.alloc _).trans hn)
  clear hn HT c0 c1 c2 c3 c4 c5
  go_wp2
  go_ret
  exact ⟨rfl, HN2.out⟩
theorem cfF_1 (k b : Int) (h l : BitVec 64) (n : Nat) : cfF 1 k b h l n = ((b != 0) || ((n : Int) != 0)) := by
  unfold cfF
  cases (k != 0) <;> cases (b != 0) <;> cases (h == 0#64 && l == 0#64) <;> cases ((n : Int) != 0) <;> decide
theorem cfF_2 (k b : Int) (h l : BitVec 64) (n : Nat) : cfF 2 k b h l n = !(h == 0#64 && l == 0#64) := by
  unfold cfF
  cases (k != 0) <;> cases (b != 0) <;> cases (h == 0#64 && l == 0#64) <;> cases ((n : Int) != 0) <;> decide
theorem cfF_3 (k b : Int) (h l : BitVec 64) (n : Nat) : cfF 3 k b h l n = ((b != 0) || !(h == 0#64 && l == 0#64)) := by
  unfold cfF
  cases (k != 0) <;> cases (b != 0) <;> cases (h == 0#64 && l == 0#64) <;> cases ((n : Int) != 0) <;> decide
theorem cfF_4 (k b : Int) (h l : BitVec 64) (n : Nat) : cfF 4 k b h l n = ((k != 0) || ((b != 0) || !(h == 0#64 && l == 0#64))) := by
  unfold cfF
  cases (k != 0) <;> cases (b != 0) <;> cases (h == 0#64 && l == 0#64) <;> cases ((n : Int) != 0) <;> decide
theorem cfF_5 (k b : Int) (h l : BitVec 64) (n : Nat) : cfF 5 k b h l n = ((k != 0) || ((b != 0) || !(h == 0#64 && l == 0#64))) := by
  unfold cfF
  cases (k != 0) <;> cases (b != 0) <;> cases (h == 0#64 && l == 0#64) <;> cases ((n : Int) != 0) <;> decide
theorem ccheck_47 (t k b : Int) (h l : BitVec 64) (a : Option Addr) (n c : Nat) (x : List (BitVec 64)) (w : World) (hr : QRow w a n c x) : Calls Tryz.prog 10 #[.agg (cfc t k b h l a n c)] w fun e w' => e = .returned (.int .i64 (cfE t k b h l x)) ∧ New w w' := by
  have hl := hr.len_eq
  unfold cfE
  by_cases ht : t < 1 ∨ 5 < t
  · rw [if_pos ht]; exact cchk_no t k b h l a n c x w hr ht
  rw [if_neg ht, hl]
  have h5 : t = 1 ∨ t = 2 ∨ t = 3 ∨ t = 4 ∨ t = 5 := by omega
  rcases h5 with rfl | rfl | rfl | rfl | rfl
  · rw [cfF_1]
    cases gb : (b != 0) with
    | true => rw [if_pos (by rfl)]; exact cchk_1_0 k b h l a n c x w hr gb
    | false =>
      cases gn : ((n : Int) != 0) with
      | true => rw [if_pos (by rfl)]; exact cchk_1_1 k b h l a n c x w hr gb gn
      | false =>
        rw [if_neg (by decide)]; exact cchk_1_2 k b h l a n c x w hr gb gn
  · rw [cfF_2]
    cases gy : (h == 0#64 && l == 0#64) with
    | false => rw [if_pos (by rfl)]; exact cchk_2_0 k b h l a n c x w hr gy
    | true =>
      rw [if_neg (by decide)]; exact cchk_2_1 k b h l a n c x w hr gy
  · rw [cfF_3]
    cases gb : (b != 0) with
    | true => rw [if_pos (by rfl)]; exact cchk_3_0 k b h l a n c x w hr gb
    | false =>
      cases gy : (h == 0#64 && l == 0#64) with
      | false => rw [if_pos (by rfl)]; exact cchk_3_1 k b h l a n c x w hr gb gy
      | true =>
        rw [if_neg (by decide)]; exact cchk_3_2 k b h l a n c x w hr gb gy
  · rw [cfF_4]
    cases gk : (k != 0) with
    | true => rw [if_pos (by rfl)]; exact cchk_4_0 k b h l a n c x w hr gk
    | false =>
      cases gb : (b != 0) with
      | true => rw [if_pos (by rfl)]; exact cchk_4_1 k b h l a n c x w hr gk gb
      | false =>
        cases gy : (h == 0#64 && l == 0#64) with
        | false => rw [if_pos (by rfl)]; exact cchk_4_2 k b h l a n c x w hr gk gb gy
        | true =>
          rw [if_neg (by decide)]; exact cchk_4_3 k b h l a n c x w hr gk gb gy
  · rw [cfF_5]
    cases gk : (k != 0) with
    | true => rw [if_pos (by rfl)]; exact cchk_5_0 k b h l a n c x w hr gk
    | false =>
      cases gb : (b != 0) with
      | true => rw [if_pos (by rfl)]; exact cchk_5_1 k b h l a n c x w hr gk gb
      | false =>
        cases gy : (h == 0#64 && l == 0#64) with
        | false => rw [if_pos (by rfl)]; exact cchk_5_2 k b h l a n c x w hr gk gb gy
        | true =>
          rw [if_neg (by decide)]; exact cchk_5_3 k b h l a n c x w hr gk gb gy
theorem cstate_err (t k b : Int) (h l : BitVec 64) (a : Option Addr) (n c : Nat) (x : List (BitVec 64)) (w : World) (hr : QRow w a n c x) (he : cfE t k b h l x ≠ 0) : Calls Tryz.prog 9 #[.agg (cfc t k b h l a n c)] w fun e w' => e = .returned (.tuple #[.agg zst', .int .i64 (cfE t k b h l x)]) ∧ New w w' := by
  obtain ⟨hb1, hb2, hN⟩ := two_blocksK w (.cells (cfc t k b h l a n c) 27) (.cells #[.int .i64 0, .int .u64 0, .int .u64 0, .int .u64 0, .int .u64 0] 38)
  generalize hW : (w.alloc (.cells (cfc t k b h l a n c) 27)).alloc (.cells #[.int .i64 0, .int .u64 0, .int .u64 0, .int .u64 0, .int .u64 0] 38) = w0 at *
  have HB1 := Lib.hid hb1
  have HB2 := Lib.hid hb2
  have HN := Lib.hid hN
  clear hb1 hb2 hN
  have HC := Lib.hid (ccheck_47 t k b h l a n c x w0 (hr.stay HN.out))
  have hne : (cfE t k b h l x != 0) = true := bne_iff_ne.2 he
  generalize cfE t k b h l x = E at *
  clear hr he
  have c0 := cell_of_row _ _ 0 _ _ _ HB1.out
  have c1 := cell_of_row _ _ 1 _ _ _ HB1.out
  have c2 := cell_of_row _ _ 2 _ _ _ HB1.out
  have c3 := cell_of_row _ _ 3 _ _ _ HB1.out
  have c4 := cell_of_row _ _ 4 _ _ _ HB1.out
  have c5 := cell_of_row _ _ 5 _ _ _ HB1.out
  go_enter Tryz.func9, Tryz.ntmps9
  go_wp2_with fail
  refine HC.out.mono ?_
  rintro e w1 ⟨rfl, hn⟩
  have HN1 := Lib.hid (HN.out.trans hn)
  have hz := (hn.block _ (lt_of_block HB2.out)).trans HB2.out
  clear hn HC c0 c1 c2 c3 c4 c5
  have r0 := cell_of_row _ _ 0 _ _ _ hz
  have r1 := cell_of_row _ _ 1 _ _ _ hz
  have r2 := cell_of_row _ _ 2 _ _ _ hz
  have r3 := cell_of_row _ _ 3 _ _ _ hz
  have r4 := cell_of_row _ _ 4 _ _ _ hz
  have rf := fun i => frozen_of_row _ _ i _ _ hz
  have hp := put5_factsC (.int .i64 0) (.int .u64 0) (.int .u64 0) (.int .u64 0) (.int .u64 0) hz
  go_wp2_with fail
  refine bodyPost_ret (by simp [results, Tryz.results9, go_sem, r0, r1, r2, r3, r4]; try rfl) rfl ?_
  exact ⟨rfl, hp.2.2 _ HN1.out (Nat.le_succ _)⟩

theorem cstate_other (t k b : Int) (h l : BitVec 64) (a : Option Addr) (n c : Nat) (x : List (BitVec 64)) (w : World) (hr : QRow w a n c x) (he : cfE t k b h l x = 0) (ht : t ≠ 3) : Calls Tryz.prog 9 #[.agg (cfc t k b h l a n c)] w fun e w' => e = .returned (.tuple #[.agg zst', .int .i64 6]) ∧ New w w' := by
  obtain ⟨hb1, hb2, hN⟩ := two_blocksK w (.cells (cfc t k b h l a n c) 27) (.cells #[.int .i64 0, .int .u64 0, .int .u64 0, .int .u64 0, .int .u64 0] 38)
  generalize hW : (w.alloc (.cells (cfc t k b h l a n c) 27)).alloc (.cells #[.int .i64 0, .int .u64 0, .int .u64 0, .int .u64 0, .int .u64 0] 38) = w0 at *
  have HB1 := Lib.hid hb1
  have HB2 := Lib.hid hb2
  have HN := Lib.hid hN
  clear hb1 hb2 hN
  have HC := Lib.hid (ccheck_47 t k b h l a n c x w0 (hr.stay HN.out))
  rw [he] at HC
  have hne : (t != 3) = true := bne_iff_ne.2 ht
  clear hr he ht
  have c0 := cell_of_row _ _ 0 _ _ _ HB1.out
  have c1 := cell_of_row _ _ 1 _ _ _ HB1.out
  have c2 := cell_of_row _ _ 2 _ _ _ HB1.out
  have c3 := cell_of_row _ _ 3 _ _ _ HB1.out
  have c4 := cell_of_row _ _ 4 _ _ _ HB1.out
  have c5 := cell_of_row _ _ 5 _ _ _ HB1.out
  go_enter Tryz.func9, Tryz.ntmps9
  go_wp2_with fail
  refine HC.out.mono ?_
  rintro e w1 ⟨rfl, hn⟩
  have HN1 := Lib.hid (HN.out.trans hn)
  have hz := (hn.block _ (lt_of_block HB2.out)).trans HB2.out
  have hy := (hn.block _ (lt_of_block HB1.out)).trans HB1.out
  clear hn HC c0 c1 c2 c3 c4 c5
  have c0 := cell_of_row _ _ 0 _ _ _ hy
  have c1 := cell_of_row _ _ 1 _ _ _ hy
  have c2 := cell_of_row _ _ 2 _ _ _ hy
  have c3 := cell_of_row _ _ 3 _ _ _ hy
  have c4 := cell_of_row _ _ 4 _ _ _ hy
  have c5 := cell_of_row _ _ 5 _ _ _ hy
  have r0 := cell_of_row _ _ 0 _ _ _ hz
  have r1 := cell_of_row _ _ 1 _ _ _ hz
  have r2 := cell_of_row _ _ 2 _ _ _ hz
  have r3 := cell_of_row _ _ 3 _ _ _ hz
  have r4 := cell_of_row _ _ 4 _ _ _ hz
  have rf := fun i => frozen_of_row _ _ i _ _ hz
  have hp := put5_factsC (.int .i64 0) (.int .u64 0) (.int .u64 0) (.int .u64 0) (.int .u64 0) hz
  clear hy
  go_wp2_with fail
  refine bodyPost_ret (by simp [results, Tryz.results9, go_sem, r0, r1, r2, r3, r4]; try rfl) rfl ?_
  exact ⟨rfl, hp.2.2 _ HN1.out (Nat.le_succ _)⟩

theorem cstate_ok (k b : Int) (h l : BitVec 64) (a : Option Addr) (n c : Nat) (x : List (BitVec 64)) (w : World) (hr : QRow w a n c x) (he : cfE 3 k b h l x = 0) : Calls Tryz.prog 9 #[.agg (cfc 3 k b h l a n c)] w fun e w' => e = .returned (.tuple #[.agg (stc (soK k x) (soQ k x)), .int .i64 (soE k x)]) ∧ New w w' := by
  obtain ⟨hb1, hb2, hN⟩ := two_blocksK w (.cells (cfc 3 k b h l a n c) 27) (.cells #[.int .i64 0, .int .u64 0, .int .u64 0, .int .u64 0, .int .u64 0] 38)
  generalize hW : (w.alloc (.cells (cfc 3 k b h l a n c) 27)).alloc (.cells #[.int .i64 0, .int .u64 0, .int .u64 0, .int .u64 0, .int .u64 0] 38) = w0 at *
  have HB1 := Lib.hid hb1
  have HB2 := Lib.hid hb2
  have HN := Lib.hid hN
  clear hb1 hb2 hN
  have HC := Lib.hid (ccheck_47 3 k b h l a n c x w0 (hr.stay HN.out))
  have HSO := Lib.hid (fun (w' : World) (hn : New w0 w') => so_any 3 k b h l a n c x w' (hr.stay (HN.out.trans hn)))
  rw [he] at HC
  generalize soE k x = E at *
  generalize soK k x = K at *
  obtain ⟨Q, hQ⟩ : ∃ z, soQ k x = z := ⟨_, rfl⟩
  rw [hQ] at HSO ⊢
  obtain ⟨q0, q1, q2, q3⟩ := Q
  clear hr he hQ
  have c0 := cell_of_row _ _ 0 _ _ _ HB1.out
  have c1 := cell_of_row _ _ 1 _ _ _ HB1.out
  have c2 := cell_of_row _ _ 2 _ _ _ HB1.out
  have c3 := cell_of_row _ _ 3 _ _ _ HB1.out
  have c4 := cell_of_row _ _ 4 _ _ _ HB1.out
  have c5 := cell_of_row _ _ 5 _ _ _ HB1.out
  go_enter Tryz.func9, Tryz.ntmps9
  go_wp2_with fail
  refine HC.out.mono ?_
  rintro e w1 ⟨rfl, hn⟩
  have HN1 := Lib.hid hn
  have hy := (hn.block _ (lt_of_block HB1.out)).trans HB1.out
  clear hn HC c0 c1 c2 c3 c4 c5
  have c0 := cell_of_row _ _ 0 _ _ _ hy
  have c1 := cell_of_row _ _ 1 _ _ _ hy
  have c2 := cell_of_row _ _ 2 _ _ _ hy
  have c3 := cell_of_row _ _ 3 _ _ _ hy
  have c4 := cell_of_row _ _ 4 _ _ _ hy
  have c5 := cell_of_row _ _ 5 _ _ _ hy
  clear hy
  go_wp2_with fail
  refine (HSO.out _ HN1.out).mono ?_
  rintro e w2 ⟨rfl, hn⟩
  have HN2 := Lib.hid (HN.out.trans (HN1.out.trans hn))
  have hz := ((HN1.out.trans hn).block _ (lt_of_block HB2.out)).trans HB2.out
  have r0 := cell_of_row _ _ 0 _ _ _ hz
  have r1 := cell_of_row _ _ 1 _ _ _ hz
  have r2 := cell_of_row _ _ 2 _ _ _ hz
  have r3 := cell_of_row _ _ 3 _ _ _ hz
  have r4 := cell_of_row _ _ 4 _ _ _ hz
  have rf := fun i => frozen_of_row _ _ i _ _ hz
  have hp := put5_factsC (.int .i64 K) (.int .u64 (W64 q0)) (.int .u64 (W64 q1)) (.int .u64 (W64 q2)) (.int .u64 (W64 q3)) hz
  clear hn HSO c0 c1 c2 c3 c4 c5
  go_wp2_with fail
  refine bodyPost_ret (by simp [results, Tryz.results9, go_sem, r0, r1, r2, r3, r4]; try rfl) rfl ?_
  exact ⟨rfl, hp.2.2 _ HN2.out (Nat.le_succ _)⟩
end Go.Proofs.YthkmcnlciefnfaaGreat
