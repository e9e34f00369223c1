/- Layer 1: the law WideTexts. -/
import Derived.Test.YtgekdcedijbmaaaDoorTxtG
import Derived.Test.YtgekdcedijbmaaaDoorTxtC
import Derived.Test.YtgekdcedijbmaaaDoorFouC
import Derived.Test.YtgekdcedijbmaaaDoorEqF
import Derived.Test.YtgekdcedijbmaaaDoorWidS
namespace Go.Bv
open Go Go.RowKit
theorem box4T (w : World) (T : TypeId) (v0 v1 v2 v3 : Value) :
    (w.alloc (.cells #[v0, v1, v2, v3] T)).heap[w.heap.size]? = some (.cells #[v0, v1, v2, v3] T (0, 0)) ∧ New w (w.alloc (.cells #[v0, v1, v2, v3] T)) := ⟨heap_alloc_new w _, (New.refl w).alloc _⟩
theorem dS_list (n : Nat) : (dS n).data.toList = Lib.decDigits n := rfl
theorem dS_small (n : Nat) (h : n < 2 ^ 256) : (dS n).size ≤ 78 := by
  rw [dS_size]
  refine nDig_le 78 n (by omega) (Nat.lt_trans h ?_)
  decide
theorem dS_pos (n : Nat) : 0 < (dS n).size := by rw [dS_size]; exact Lib.nDigits_pos n
theorem rd_dS (n : Nat) (h : n < 2 ^ 256) : rdE (dS n) = 0 ∧ rdV (dS n) = n := by
  have h1 : rdE (dS n) = 0 := by
    unfold rdE
    rw [if_neg (by have := dS_pos n; omega), dS_list, plD_dec, if_neg (by decide), vD_dec, if_neg (Nat.not_le.2 h)]
  exact ⟨h1, by unfold rdV; rw [if_pos h1, dS_list, vD_dec]⟩
end Go.Bv
namespace Go.Proofs.YtgekdcedijbmaaaDoor
open Go.RowKit Go.Bv
set_option linter.unusedVariables false
set_option maxRecDepth 100000
set_option maxHeartbeats 8000000
theorem four_zeroT {n0 n1 n2 n3 : BitVec 64} (h : four n0 n1 n2 n3 = 0) : n0 = 0#64 ∧ n1 = 0#64 ∧ n2 = 0#64 ∧ n3 = 0#64 := four_inj (h.trans (show 0 = four 0#64 0#64 0#64 0#64 from rfl))
theorem read_back (c0 c1 c2 c3 : BitVec 64) (w : World) : Calls Tryd.prog 6 #[.string (dS (four c0 c1 c2 c3))] w fun e w' => e = .returned (.tuple #[.agg #[.int .u64 (W64 c0), .int .u64 (W64 c1), .int .u64 (W64 c2), .int .u64 (W64 c3)], .int .i64 0]) ∧ New w w' := by
  have hlt := four_lt c0 c1 c2 c3
  refine (read_4 _ (Nat.le_trans (dS_small _ hlt) (by omega)) w).mono ?_
  rintro e w1 ⟨⟨n0, n1, n2, n3, rfl, he⟩, hn⟩
  obtain ⟨h1, h2⟩ := rd_dS _ hlt
  rw [h2] at he
  obtain ⟨rfl, rfl, rfl, rfl⟩ := four_inj he
  exact ⟨by rw [h1], hn⟩
theorem read_bad (s : ByteArray) (hs : s.size ≤ 9223372036854775807) (E : Int) (hE : rdE s = E) (h0 : ¬ E = 0) (w : World) : Calls Tryd.prog 6 #[.string s] w fun e w' => e = .returned (.tuple #[.agg #[.int .u64 0, .int .u64 0, .int .u64 0, .int .u64 0], .int .i64 E]) ∧ New w w' := by
  subst hE
  refine (read_4 s hs w).mono ?_
  rintro e w1 ⟨⟨n0, n1, n2, n3, rfl, he⟩, hn⟩
  rw [rdV_bad h0] at he
  obtain ⟨rfl, rfl, rfl, rfl⟩ := four_zeroT he
  exact ⟨rfl, hn⟩
theorem equF (c0 c1 c2 c3 : BitVec 64) (w : World) : (Op.equalIn 10000 24 (.agg #[.int .u64 (W64 c0), .int .u64 (W64 c1), .int .u64 (W64 c2), .int .u64 (W64 c3)]) (.agg #[.int .u64 (W64 c0), .int .u64 (W64 c1), .int .u64 (W64 c2), .int .u64 (W64 c3)])).run Tryd.prog w = .ok true w := by
  have h := eq256 w c0 c1 c2 c3 c0 c1 c2 c3
  rw [beq_self_eq_true, beq_self_eq_true, beq_self_eq_true, beq_self_eq_true] at h
  exact h
theorem equZ (w : World) : (Op.equalIn 10000 24 (.agg #[.int .u64 0, .int .u64 0, .int .u64 0, .int .u64 0]) (.agg #[.int .u64 0, .int .u64 0, .int .u64 0, .int .u64 0])).run Tryd.prog w = .ok true w := equF 0#64 0#64 0#64 0#64 w
theorem texts_long (W : World) (c0 c1 c2 c3 : BitVec 64) (s : ByteArray) (hs : s.size ≤ 140737488351232) (h : 100 < s.size) (ht : Lib.TabIs Tryd.prog W "internal/strconv.uint64pow10" .u64 Lib.pow10Tab) :
    Calls Tryd.prog 3 #[.agg #[.int .u64 (W64 c0), .int .u64 (W64 c1), .int .u64 (W64 c2), .int .u64 (W64 c3)], .string s] W fun e w' => e = .returned (.bool true) ∧ New W w' := by
  have hg : decide ((100 : Int) < (s.size : Int)) = true := decide_eq_true (by omega)
  clear h hs
  have HB := Lib.hid (heap_alloc_new W (.cells #[.int .u64 (W64 c0), .int .u64 (W64 c1), .int .u64 (W64 c2), .int .u64 (W64 c3)] 24))
  have HLT : Hid (W.heap.size < (W.alloc (.cells #[.int .u64 (W64 c0), .int .u64 (W64 c1), .int .u64 (W64 c2), .int .u64 (W64 c3)] 24)).heap.size) := Lib.hid (lt_of_block HB.out)
  have HW := Lib.hid ((New.refl W).alloc (.cells #[.int .u64 (W64 c0), .int .u64 (W64 c1), .int .u64 (W64 c2), .int .u64 (W64 c3)] 24))
  have heq := equF c0 c1 c2 c3
  have heqz := equZ
  have HTX := Lib.hid (fun (w' : World) (hn : New W w') => text_4 c0 c1 c2 c3 w' (tabIs_stay ht hn))
  have HO4 := Lib.hid (fun w => of4_own c0 c1 c2 c3 w)
  have HRT := Lib.hid (fun a c w h => rtext (four c0 c1 c2 c3) 256 256 rfl (by omega) (by omega) (four_lt c0 c1 c2 c3) a c w h)
  have HRB := Lib.hid (fun w => read_back c0 c1 c2 c3 w)
  clear ht
  go_enter Tryd.func3, Tryd.ntmps3
  go_wp2_with fail
  refine (awake01 _).mono ?_
  rintro e w1 ⟨rfl, hn1⟩
  have HN1 := Lib.hid hn1
  have HC1 := Lib.hid ((hn1.block _ HLT.out).trans HB.out)
  have x0 := cell_of_row _ _ 0 _ _ _ HC1.out
  have x1 := cell_of_row _ _ 1 _ _ _ HC1.out
  have x2 := cell_of_row _ _ 2 _ _ _ HC1.out
  have x3 := cell_of_row _ _ 3 _ _ _ HC1.out
  have xf := fun j => frozen_of_row _ _ j _ _ HC1.out
  clear hn1
  go_wp2_with fail
  go_ret
  exact ⟨rfl, HW.out.trans HN1.out⟩
theorem texts_none (W : World) (c0 c1 c2 c3 : BitVec 64) (s : ByteArray) (hs : s.size ≤ 140737488351232) (h : s.size = 0) (ht : Lib.TabIs Tryd.prog W "internal/strconv.uint64pow10" .u64 Lib.pow10Tab) :
    Calls Tryd.prog 3 #[.agg #[.int .u64 (W64 c0), .int .u64 (W64 c1), .int .u64 (W64 c2), .int .u64 (W64 c3)], .string s] W fun e w' => e = .returned (.bool true) ∧ New W w' := by
  have HE : Hid (rdE s = 3) := Lib.hid (by unfold rdE; rw [if_pos h])
  have HRD := Lib.hid (fun w => read_bad s (by omega) 3 HE.out (by omega) w)
  obtain rfl : s = ⟨#[]⟩ := ByteArray.ext (Array.eq_empty_of_size_eq_zero h)
  have hg : decide ((100 : Int) < ((ByteArray.mk #[]).size : Int)) = false := by decide
  clear h hs HE
  have HB := Lib.hid (heap_alloc_new W (.cells #[.int .u64 (W64 c0), .int .u64 (W64 c1), .int .u64 (W64 c2), .int .u64 (W64 c3)] 24))
  have HLT : Hid (W.heap.size < (W.alloc (.cells #[.int .u64 (W64 c0), .int .u64 (W64 c1), .int .u64 (W64 c2), .int .u64 (W64 c3)] 24)).heap.size) := Lib.hid (lt_of_block HB.out)
  have HW := Lib.hid ((New.refl W).alloc (.cells #[.int .u64 (W64 c0), .int .u64 (W64 c1), .int .u64 (W64 c2), .int .u64 (W64 c3)] 24))
  have heq := equF c0 c1 c2 c3
  have heqz := equZ
  have HTX := Lib.hid (fun (w' : World) (hn : New W w') => text_4 c0 c1 c2 c3 w' (tabIs_stay ht hn))
  have HO4 := Lib.hid (fun w => of4_own c0 c1 c2 c3 w)
  have HRT := Lib.hid (fun a c w h => rtext (four c0 c1 c2 c3) 256 256 rfl (by omega) (by omega) (four_lt c0 c1 c2 c3) a c w h)
  have HRB := Lib.hid (fun w => read_back c0 c1 c2 c3 w)
  clear ht
  go_enter Tryd.func3, Tryd.ntmps3
  go_wp2_with fail
  refine (awake01 _).mono ?_
  rintro e w1 ⟨rfl, hn1⟩
  have HN1 := Lib.hid hn1
  have HC1 := Lib.hid ((hn1.block _ HLT.out).trans HB.out)
  have x0 := cell_of_row _ _ 0 _ _ _ HC1.out
  have x1 := cell_of_row _ _ 1 _ _ _ HC1.out
  have x2 := cell_of_row _ _ 2 _ _ _ HC1.out
  have x3 := cell_of_row _ _ 3 _ _ _ HC1.out
  have xf := fun j => frozen_of_row _ _ j _ _ HC1.out
  clear hn1
  go_wp2_with fail
  refine (HTX.out _ (HW.out.trans HN1.out)).mono ?_
  rintro e w2 ⟨rfl, hn2⟩
  have HN2 := Lib.hid (HN1.out.trans hn2)
  clear hn2 x0 x1 x2 x3 xf
  generalize hN : four c0 c1 c2 c3 = N at *
  go_wp2_with fail
  refine (HRB.out _).mono ?_
  rintro e w3 ⟨rfl, hn3⟩
  have HN3 := Lib.hid (HN2.out.trans hn3)
  have HB2 := Lib.hid (box4T w3 24 (.int .u64 (W64 c0)) (.int .u64 (W64 c1)) (.int .u64 (W64 c2)) (.int .u64 (W64 c3)))
  have HLT3 : Hid (W.heap.size < w3.heap.size) := Lib.hid (Nat.lt_of_lt_of_le HLT.out HN3.out.size)
  have HC3 := Lib.hid ((HB2.out.2.block _ HLT3.out).trans ((HN3.out.block _ HLT.out).trans HB.out))
  have x0 := cell_of_row _ _ 0 _ _ _ HC3.out
  have x1 := cell_of_row _ _ 1 _ _ _ HC3.out
  have x2 := cell_of_row _ _ 2 _ _ _ HC3.out
  have x3 := cell_of_row _ _ 3 _ _ _ HC3.out
  have xf := fun j => frozen_of_row _ _ j _ _ HC3.out
  clear hn3 HN2 HC1
  go_wp2_with fail
  refine (HO4.out _).mono ?_
  rintro e w4 ⟨v, rfl, hv, hn4⟩
  obtain ⟨ra, ca, rfl, hb⟩ := own_bits hv (by omega)
  have HR4 := Lib.hid hb
  have HN4 := Lib.hid hn4
  clear hv hb hn4 x0 x1 x2 x3 xf
  go_wp2_with fail
  refine (HRT.out _ _ _ HR4.out).mono ?_
  rintro e w5 ⟨rfl, hn5⟩
  have HN5 := Lib.hid (HN4.out.trans hn5)
  have HC5 := Lib.hid ((HN5.out.block _ (lt_of_block HC3.out)).trans HC3.out)
  have HD5 := Lib.hid ((HN5.out.block _ (lt_of_block HB2.out.1)).trans HB2.out.1)
  have x0 := cell_of_row _ _ 0 _ _ _ HC5.out
  have x1 := cell_of_row _ _ 1 _ _ _ HC5.out
  have x2 := cell_of_row _ _ 2 _ _ _ HC5.out
  have x3 := cell_of_row _ _ 3 _ _ _ HC5.out
  have xf := fun j => frozen_of_row _ _ j _ _ HC5.out
  have y0 := cell_of_row _ _ 0 _ _ _ HD5.out
  have y1 := cell_of_row _ _ 1 _ _ _ HD5.out
  have y2 := cell_of_row _ _ 2 _ _ _ HD5.out
  have y3 := cell_of_row _ _ 3 _ _ _ HD5.out
  have yf := fun j => frozen_of_row _ _ j _ _ HD5.out
  have HN5b := Lib.hid ((HN3.out.trans HB2.out.2).trans HN5.out)
  clear hn5 HN4 HR4 HC3
  go_wp2_with fail
  refine (HRD.out _).mono ?_
  rintro e w6 ⟨rfl, hn6⟩
  have HB6 := Lib.hid (box4T w6 24 (.int .u64 0) (.int .u64 0) (.int .u64 0) (.int .u64 0))
  have HN6 := Lib.hid (HN5b.out.trans (hn6.trans HB6.out.2))
  have z0 := cell_of_row _ _ 0 _ _ _ HB6.out.1
  have z1 := cell_of_row _ _ 1 _ _ _ HB6.out.1
  have z2 := cell_of_row _ _ 2 _ _ _ HB6.out.1
  have z3 := cell_of_row _ _ 3 _ _ _ HB6.out.1
  have zf := fun j => frozen_of_row _ _ j _ _ HB6.out.1
  clear hn6
  go_wp2
  go_ret
  exact ⟨rfl, HW.out.trans HN6.out⟩
theorem texts_form (W : World) (c0 c1 c2 c3 : BitVec 64) (s : ByteArray) (hs : s.size ≤ 140737488351232) (h : s.size ≤ 100) (h0 : 0 < s.size) (hp : plD s.data.toList = false) (ht : Lib.TabIs Tryd.prog W "internal/strconv.uint64pow10" .u64 Lib.pow10Tab) :
    Calls Tryd.prog 3 #[.agg #[.int .u64 (W64 c0), .int .u64 (W64 c1), .int .u64 (W64 c2), .int .u64 (W64 c3)], .string s] W fun e w' => e = .returned (.bool true) ∧ New W w' := by
  have hg : decide ((100 : Int) < (s.size : Int)) = false := decide_eq_false (by omega)
  have HE : Hid (rdE s = 5) := Lib.hid (by unfold rdE; rw [if_neg (by omega), if_pos hp])
  have HRD := Lib.hid (fun w => read_bad s (by omega) 5 HE.out (by omega) w)
  have HDG := Lib.hid (fun w => digits_q s h0 (by omega) w)
  have he : s.toList.isEmpty = false := ne_text h0
  rw [hp] at HDG
  clear h hs h0 hp HE
  have HB := Lib.hid (heap_alloc_new W (.cells #[.int .u64 (W64 c0), .int .u64 (W64 c1), .int .u64 (W64 c2), .int .u64 (W64 c3)] 24))
  have HLT : Hid (W.heap.size < (W.alloc (.cells #[.int .u64 (W64 c0), .int .u64 (W64 c1), .int .u64 (W64 c2), .int .u64 (W64 c3)] 24)).heap.size) := Lib.hid (lt_of_block HB.out)
  have HW := Lib.hid ((New.refl W).alloc (.cells #[.int .u64 (W64 c0), .int .u64 (W64 c1), .int .u64 (W64 c2), .int .u64 (W64 c3)] 24))
  have heq := equF c0 c1 c2 c3
  have heqz := equZ
  have HTX := Lib.hid (fun (w' : World) (hn : New W w') => text_4 c0 c1 c2 c3 w' (tabIs_stay ht hn))
  have HO4 := Lib.hid (fun w => of4_own c0 c1 c2 c3 w)
  have HRT := Lib.hid (fun a c w h => rtext (four c0 c1 c2 c3) 256 256 rfl (by omega) (by omega) (four_lt c0 c1 c2 c3) a c w h)
  have HRB := Lib.hid (fun w => read_back c0 c1 c2 c3 w)
  clear ht
  go_enter Tryd.func3, Tryd.ntmps3
  go_wp2_with fail
  refine (awake01 _).mono ?_
  rintro e w1 ⟨rfl, hn1⟩
  have HN1 := Lib.hid hn1
  have HC1 := Lib.hid ((hn1.block _ HLT.out).trans HB.out)
  have x0 := cell_of_row _ _ 0 _ _ _ HC1.out
  have x1 := cell_of_row _ _ 1 _ _ _ HC1.out
  have x2 := cell_of_row _ _ 2 _ _ _ HC1.out
  have x3 := cell_of_row _ _ 3 _ _ _ HC1.out
  have xf := fun j => frozen_of_row _ _ j _ _ HC1.out
  clear hn1
  go_wp2_with fail
  refine (HTX.out _ (HW.out.trans HN1.out)).mono ?_
  rintro e w2 ⟨rfl, hn2⟩
  have HN2 := Lib.hid (HN1.out.trans hn2)
  clear hn2 x0 x1 x2 x3 xf
  generalize hN : four c0 c1 c2 c3 = N at *
  go_wp2_with fail
  refine (HRB.out _).mono ?_
  rintro e w3 ⟨rfl, hn3⟩
  have HN3 := Lib.hid (HN2.out.trans hn3)
  have HB2 := Lib.hid (box4T w3 24 (.int .u64 (W64 c0)) (.int .u64 (W64 c1)) (.int .u64 (W64 c2)) (.int .u64 (W64 c3)))
  have HLT3 : Hid (W.heap.size < w3.heap.size) := Lib.hid (Nat.lt_of_lt_of_le HLT.out HN3.out.size)
  have HC3 := Lib.hid ((HB2.out.2.block _ HLT3.out).trans ((HN3.out.block _ HLT.out).trans HB.out))
  have x0 := cell_of_row _ _ 0 _ _ _ HC3.out
  have x1 := cell_of_row _ _ 1 _ _ _ HC3.out
  have x2 := cell_of_row _ _ 2 _ _ _ HC3.out
  have x3 := cell_of_row _ _ 3 _ _ _ HC3.out
  have xf := fun j => frozen_of_row _ _ j _ _ HC3.out
  clear hn3 HN2 HC1
  go_wp2_with fail
  refine (HO4.out _).mono ?_
  rintro e w4 ⟨v, rfl, hv, hn4⟩
  obtain ⟨ra, ca, rfl, hb⟩ := own_bits hv (by omega)
  have HR4 := Lib.hid hb
  have HN4 := Lib.hid hn4
  clear hv hb hn4 x0 x1 x2 x3 xf
  go_wp2_with fail
  refine (HRT.out _ _ _ HR4.out).mono ?_
  rintro e w5 ⟨rfl, hn5⟩
  have HN5 := Lib.hid (HN4.out.trans hn5)
  have HC5 := Lib.hid ((HN5.out.block _ (lt_of_block HC3.out)).trans HC3.out)
  have HD5 := Lib.hid ((HN5.out.block _ (lt_of_block HB2.out.1)).trans HB2.out.1)
  have x0 := cell_of_row _ _ 0 _ _ _ HC5.out
  have x1 := cell_of_row _ _ 1 _ _ _ HC5.out
  have x2 := cell_of_row _ _ 2 _ _ _ HC5.out
  have x3 := cell_of_row _ _ 3 _ _ _ HC5.out
  have xf := fun j => frozen_of_row _ _ j _ _ HC5.out
  have y0 := cell_of_row _ _ 0 _ _ _ HD5.out
  have y1 := cell_of_row _ _ 1 _ _ _ HD5.out
  have y2 := cell_of_row _ _ 2 _ _ _ HD5.out
  have y3 := cell_of_row _ _ 3 _ _ _ HD5.out
  have yf := fun j => frozen_of_row _ _ j _ _ HD5.out
  have HN5b := Lib.hid ((HN3.out.trans HB2.out.2).trans HN5.out)
  clear hn5 HN4 HR4 HC3
  go_wp2_with fail
  refine (HRD.out _).mono ?_
  rintro e w6 ⟨rfl, hn6⟩
  have HB6 := Lib.hid (box4T w6 24 (.int .u64 0) (.int .u64 0) (.int .u64 0) (.int .u64 0))
  have HN6 := Lib.hid (HN5b.out.trans (hn6.trans HB6.out.2))
  have z0 := cell_of_row _ _ 0 _ _ _ HB6.out.1
  have z1 := cell_of_row _ _ 1 _ _ _ HB6.out.1
  have z2 := cell_of_row _ _ 2 _ _ _ HB6.out.1
  have z3 := cell_of_row _ _ 3 _ _ _ HB6.out.1
  have zf := fun j => frozen_of_row _ _ j _ _ HB6.out.1
  clear hn6
  go_wp2_with fail
  refine (HDG.out _).mono ?_
  rintro e w7 ⟨rfl, rfl⟩
  go_wp2
  go_ret
  exact ⟨rfl, HW.out.trans HN6.out⟩
theorem texts_num (W : World) (c0 c1 c2 c3 : BitVec 64) (s : ByteArray) (hs : s.size ≤ 140737488351232) (h : s.size ≤ 100) (h0 : 0 < s.size) (hp : plD s.data.toList = true) (E : Int) (hE : rdE s = E) (is : Bool) (hi : decide (E = 0) = is) (hE2 : (E == 9) = !is) (ht : Lib.TabIs Tryd.prog W "internal/strconv.uint64pow10" .u64 Lib.pow10Tab) :
    Calls Tryd.prog 3 #[.agg #[.int .u64 (W64 c0), .int .u64 (W64 c1), .int .u64 (W64 c2), .int .u64 (W64 c3)], .string s] W fun e w' => e = .returned (.bool true) ∧ New W w' := by
  have hg : decide ((100 : Int) < (s.size : Int)) = false := decide_eq_false (by omega)
  have HRD := Lib.hid (fun w => read_4 s (by omega) w)
  have HDG := Lib.hid (fun w => digits_q s h0 (by omega) w)
  have HRV := Lib.hid (fun w => rvalue s h0 (by omega) hp w)
  have he : s.toList.isEmpty = false := ne_text h0
  rw [hp] at HDG
  rw [hE] at HRD
  rw [hE, hi] at HRV
  have hi2 : (E == 0) = is := by rw [← hi]; by_cases e : E = 0 <;> simp [e]
  clear h hs h0 hp hE hi
  have HB := Lib.hid (heap_alloc_new W (.cells #[.int .u64 (W64 c0), .int .u64 (W64 c1), .int .u64 (W64 c2), .int .u64 (W64 c3)] 24))
  have HLT : Hid (W.heap.size < (W.alloc (.cells #[.int .u64 (W64 c0), .int .u64 (W64 c1), .int .u64 (W64 c2), .int .u64 (W64 c3)] 24)).heap.size) := Lib.hid (lt_of_block HB.out)
  have HW := Lib.hid ((New.refl W).alloc (.cells #[.int .u64 (W64 c0), .int .u64 (W64 c1), .int .u64 (W64 c2), .int .u64 (W64 c3)] 24))
  have heq := equF c0 c1 c2 c3
  have heqz := equZ
  have HTX := Lib.hid (fun (w' : World) (hn : New W w') => text_4 c0 c1 c2 c3 w' (tabIs_stay ht hn))
  have HO4 := Lib.hid (fun w => of4_own c0 c1 c2 c3 w)
  have HRT := Lib.hid (fun a c w h => rtext (four c0 c1 c2 c3) 256 256 rfl (by omega) (by omega) (four_lt c0 c1 c2 c3) a c w h)
  have HRB := Lib.hid (fun w => read_back c0 c1 c2 c3 w)
  clear ht
  go_enter Tryd.func3, Tryd.ntmps3
  go_wp2_with fail
  refine (awake01 _).mono ?_
  rintro e w1 ⟨rfl, hn1⟩
  have HN1 := Lib.hid hn1
  have HC1 := Lib.hid ((hn1.block _ HLT.out).trans HB.out)
  have x0 := cell_of_row _ _ 0 _ _ _ HC1.out
  have x1 := cell_of_row _ _ 1 _ _ _ HC1.out
  have x2 := cell_of_row _ _ 2 _ _ _ HC1.out
  have x3 := cell_of_row _ _ 3 _ _ _ HC1.out
  have xf := fun j => frozen_of_row _ _ j _ _ HC1.out
  clear hn1
  go_wp2_with fail
  refine (HTX.out _ (HW.out.trans HN1.out)).mono ?_
  rintro e w2 ⟨rfl, hn2⟩
  have HN2 := Lib.hid (HN1.out.trans hn2)
  clear hn2 x0 x1 x2 x3 xf
  generalize hN : four c0 c1 c2 c3 = N at *
  go_wp2_with fail
  refine (HRB.out _).mono ?_
  rintro e w3 ⟨rfl, hn3⟩
  have HN3 := Lib.hid (HN2.out.trans hn3)
  have HB2 := Lib.hid (box4T w3 24 (.int .u64 (W64 c0)) (.int .u64 (W64 c1)) (.int .u64 (W64 c2)) (.int .u64 (W64 c3)))
  have HLT3 : Hid (W.heap.size < w3.heap.size) := Lib.hid (Nat.lt_of_lt_of_le HLT.out HN3.out.size)
  have HC3 := Lib.hid ((HB2.out.2.block _ HLT3.out).trans ((HN3.out.block _ HLT.out).trans HB.out))
  have x0 := cell_of_row _ _ 0 _ _ _ HC3.out
  have x1 := cell_of_row _ _ 1 _ _ _ HC3.out
  have x2 := cell_of_row _ _ 2 _ _ _ HC3.out
  have x3 := cell_of_row _ _ 3 _ _ _ HC3.out
  have xf := fun j => frozen_of_row _ _ j _ _ HC3.out
  clear hn3 HN2 HC1
  go_wp2_with fail
  refine (HO4.out _).mono ?_
  rintro e w4 ⟨v, rfl, hv, hn4⟩
  obtain ⟨ra, ca, rfl, hb⟩ := own_bits hv (by omega)
  have HR4 := Lib.hid hb
  have HN4 := Lib.hid hn4
  clear hv hb hn4 x0 x1 x2 x3 xf
  go_wp2_with fail
  refine (HRT.out _ _ _ HR4.out).mono ?_
  rintro e w5 ⟨rfl, hn5⟩
  have HN5 := Lib.hid (HN4.out.trans hn5)
  have HC5 := Lib.hid ((HN5.out.block _ (lt_of_block HC3.out)).trans HC3.out)
  have HD5 := Lib.hid ((HN5.out.block _ (lt_of_block HB2.out.1)).trans HB2.out.1)
  have x0 := cell_of_row _ _ 0 _ _ _ HC5.out
  have x1 := cell_of_row _ _ 1 _ _ _ HC5.out
  have x2 := cell_of_row _ _ 2 _ _ _ HC5.out
  have x3 := cell_of_row _ _ 3 _ _ _ HC5.out
  have xf := fun j => frozen_of_row _ _ j _ _ HC5.out
  have y0 := cell_of_row _ _ 0 _ _ _ HD5.out
  have y1 := cell_of_row _ _ 1 _ _ _ HD5.out
  have y2 := cell_of_row _ _ 2 _ _ _ HD5.out
  have y3 := cell_of_row _ _ 3 _ _ _ HD5.out
  have yf := fun j => frozen_of_row _ _ j _ _ HD5.out
  have HN5b := Lib.hid ((HN3.out.trans HB2.out.2).trans HN5.out)
  clear hn5 HN4 HR4 HC3
  go_wp2_with fail
  refine (HRD.out _).mono ?_
  rintro e w6 ⟨⟨n0, n1, n2, n3, rfl, hf⟩, hn6⟩
  have HF := Lib.hid hf
  have HB6 := Lib.hid (box4T w6 24 (.int .u64 (W64 n0)) (.int .u64 (W64 n1)) (.int .u64 (W64 n2)) (.int .u64 (W64 n3)))
  have HN6 := Lib.hid (HN5b.out.trans (hn6.trans HB6.out.2))
  have z0 := cell_of_row _ _ 0 _ _ _ HB6.out.1
  have z1 := cell_of_row _ _ 1 _ _ _ HB6.out.1
  have z2 := cell_of_row _ _ 2 _ _ _ HB6.out.1
  have z3 := cell_of_row _ _ 3 _ _ _ HB6.out.1
  have zf := fun j => frozen_of_row _ _ j _ _ HB6.out.1
  clear hn6
  clear hf
  go_wp2_with fail
  refine (HDG.out _).mono ?_
  rintro e w7 ⟨rfl, rfl⟩
  go_wp2_with fail
  refine (HRV.out _).mono ?_
  rintro e w8 ⟨⟨m0, m1, m2, m3, rfl, hf⟩, hn8⟩
  obtain ⟨rfl, rfl, rfl, rfl⟩ := four_inj (hf.trans HF.out.symm)
  have HB9 := Lib.hid (box4T w8 24 (.int .u64 (W64 m0)) (.int .u64 (W64 m1)) (.int .u64 (W64 m2)) (.int .u64 (W64 m3)))
  have HC9 := Lib.hid ((HB9.out.2.block _ (Nat.lt_of_lt_of_le (lt_of_block HB6.out.1) hn8.size)).trans ((hn8.block _ (lt_of_block HB6.out.1)).trans HB6.out.1))
  have HN9 := Lib.hid (HN6.out.trans (hn8.trans HB9.out.2))
  have heqn := equF m0 m1 m2 m3
  clear z0 z1 z2 z3 zf hf hn8 HF
  have z0 := cell_of_row _ _ 0 _ _ _ HC9.out
  have z1 := cell_of_row _ _ 1 _ _ _ HC9.out
  have z2 := cell_of_row _ _ 2 _ _ _ HC9.out
  have z3 := cell_of_row _ _ 3 _ _ _ HC9.out
  have zf := fun j => frozen_of_row _ _ j _ _ HC9.out
  have u0 := cell_of_row _ _ 0 _ _ _ HB9.out.1
  have u1 := cell_of_row _ _ 1 _ _ _ HB9.out.1
  have u2 := cell_of_row _ _ 2 _ _ _ HB9.out.1
  have u3 := cell_of_row _ _ 3 _ _ _ HB9.out.1
  have uf := fun j => frozen_of_row _ _ j _ _ HB9.out.1
  cases is
  · go_wp2
    go_ret
    exact ⟨rfl, HW.out.trans HN9.out⟩
  · go_wp2
    go_ret
    exact ⟨rfl, HW.out.trans HN9.out⟩
theorem WideTexts_walk (W : World) (x0_0 : BitVec 64) (x0_1 : BitVec 64) (x0_2 : BitVec 64) (x0_3 : BitVec 64) (a1 : ByteArray) (w1 : a1.size ≤ 140737488351232) (ht : Lib.TabIs Tryd.prog W "internal/strconv.uint64pow10" .u64 Lib.pow10Tab) :
    Calls Tryd.prog 3 #[.agg #[.int .u64 (W64 x0_0), .int .u64 (W64 x0_1), .int .u64 (W64 x0_2), .int .u64 (W64 x0_3)], .string a1] W fun e w' => e = .returned (.bool true) ∧ Below W.heap.size W w' := by
  have hall : Calls Tryd.prog 3 #[.agg #[.int .u64 (W64 x0_0), .int .u64 (W64 x0_1), .int .u64 (W64 x0_2), .int .u64 (W64 x0_3)], .string a1] W fun e w' => e = .returned (.bool true) ∧ New W w' := by
    rcases Nat.lt_or_ge 100 a1.size with h | h
    · exact texts_long W _ _ _ _ a1 w1 h ht
    rcases Nat.eq_zero_or_pos a1.size with h0 | h0
    · exact texts_none W _ _ _ _ a1 w1 h0 ht
    cases hp : plD a1.data.toList
    · exact texts_form W _ _ _ _ a1 w1 h h0 hp ht
    · by_cases hb : 2 ^ 256 ≤ vD a1.data.toList
      · exact texts_num W _ _ _ _ a1 w1 h h0 hp 9 (by unfold rdE; rw [if_neg (by omega), if_neg (by rw [hp]; decide), if_pos hb]) false (by decide) (by decide) ht
      · exact texts_num W _ _ _ _ a1 w1 h h0 hp 0 (by unfold rdE; rw [if_neg (by omega), if_neg (by rw [hp]; decide), if_neg hb]) true (by decide) (by decide) ht
  exact hall
end Go.Proofs.YtgekdcedijbmaaaDoor
