import Derived.Test.YtebcfbcfipmahaaGreatYFamJ
import Derived.Test.YtebcfbcfipmahaaGreatYTabB
import Derived.Test.YtebcfbcfipmahaaGreatYTwiA
import Derived.Test.YtebcfbcfipmahaaGreatYMxA
import Derived.Test.YtebcfbcfipmahaaGreatYStrG
import Derived.Test.YtebcfbcfipmahaaGreatYPutA
import Derived.Test.YtebcfbcfipmahaaGreatGrow
/- Layer 27: values by each kind of seeds that are right. -/
namespace Go.Bv
open Go Go.RowKit
def SV (n : Nat) (v : Value) : Prop := ∃ a c, v = .slice a n c
def SR (l : List (BitVec 8)) (n : Nat) (v : Value) (w : World) : Prop := ∀ a c, v = .slice a n c → BRow w a n c l
theorem SV.some (n : Nat) : ∃ v, SV n v := ⟨.slice none n 0, none, 0, rfl⟩
theorem SR.stay {l : List (BitVec 8)} {n : Nat} {v : Value} {w w' : World} (h : SR l n v w) (hn : New w w') : SR l n v w' := fun a c e => (h a c e).stay hn
theorem SR.row {l : List (BitVec 8)} {n c : Nat} {a : Option Addr} {w : World} (h : SR l n (.slice a n c) w) : BRow w a n c l := h a c rfl
end Go.Bv
namespace Go.Proofs.YtebcfbcfipmahaaGreat
open Go.RowKit Go.Bv
set_option linter.unusedVariables false
set_option maxRecDepth 100000
/-- a word's value by a seed of one odd word -/
def vOdd (b : Int) (l : List (BitVec 64)) (x : BitVec 64) : BitVec 64 := ((l.getD 0 0#64) * x) >>> (64 - b.toNat)
/-- a word's value by a seed of two numbers; what is wrong with it -/
def kdK (k : Int) : Nat := if k = 3 then 32 else 64
def wdK (k : Int) : Nat := if k = 3 then 64 else 128
def fitK (k : Int) (x : BitVec 64) : Bool := x >>> (kdK k) == 0#64
def vSum (k b : Int) (l : List (BitVec 64)) (x : BitVec 64) : BitVec 64 := if fitK k x = true then loN ((numA k l * x.toNat + numB k l) % 2 ^ (wdK k) / 2 ^ (wdK k - b.toNat)) else 0#64
def eSum (k : Int) (x : BitVec 64) : Int := if fitK k x = true then 0 else 2
def vTab (k b : Int) (l : List (BitVec 64)) (x : BitVec 64) : BitVec 64 := if k = 5 then evV l b 128 x else if k = 6 then teV l b x else meV l b x
def eTab (k b : Int) (l : List (BitVec 64)) (x : BitVec 64) : Int := evE b l.length (if k = 5 then 128 else if k = 6 then 240 else 320) x
theorem bnone27 (w : World) : BRow w none 0 0 [] := ⟨rfl, Nat.le_refl _, by omega, by omega, fun _ => ⟨rfl, rfl⟩, (fun _ _ e => by cases e), (fun _ e => by cases e), (fun _ e => by cases e)⟩
theorem ev_odd (b : Int) (g off n c : Nat) (l : List (BitVec 64)) (x : BitVec 64) (w : World) (h : QRow w (some ⟨g, off, none⟩) n c l) (hn0 : 0 < n) (hz : chkM (l.getD 0 0#64) b = 0) : Calls Tryz.prog 80 #[.agg (sdc 2 b (some ⟨g, off, none⟩) n c), .int .u64 (W64 x)] w fun e w' => e = .returned (.tuple #[.int .u64 (W64 (vOdd b l x)), .int .i64 0]) ∧ New w w' := by
  generalize hW : w.alloc (.cells (sdc 2 b (some ⟨g, off, none⟩) n c) 30) = w0
  have HB : Hid (w0.heap[w.heap.size]? = some (.cells (sdc 2 b (some ⟨g, off, none⟩) n c) 30 (0, 0))) := Lib.hid (by rw [← hW]; exact heap_alloc_new w _)
  have HN : Hid (New w w0) := Lib.hid (by rw [← hW]; exact (New.refl w).alloc _)
  have HROW := Lib.hid (h.stay HN.out)
  have HZ : Hid (∀ w' : World, New w0 w' → w'.cell? ⟨g, off, none⟩ = some (.int .u64 (W64 (l.getD 0 0#64)))) := Lib.hid (fun w' hn => (HROW.out.stay hn).cell g off rfl 0 hn0)
  obtain ⟨j, s, hj, h1, hjs, _⟩ := chkM_good hz
  have HM := Lib.hid (fun w => eval_ok (l.getD 0 0#64) x j s hjs (by rw [← hj]; exact hz) w)
  have HV : Hid ((l.getD 0 0#64 * x) >>> s = vOdd b l x) := Lib.hid (by unfold vOdd; rw [show 64 - b.toNat = s by omega])
  rw [HV.out, ← hj] at HM
  have hpos : ¬ (n : Int) ≤ 0 := by omega
  clear h HROW hz hj h1 hjs HV
  generalize vOdd b l x = v at *
  go_enter Tryz.func80, Tryz.ntmps80
  go_wp2_with fail
  refine wp_region_class (fun w' => (w'.heap[w.heap.size]? = some (.cells (sdc 2 b (some ⟨g, off, none⟩) n c) 30 (0, 0))) ∧ New w0 w') (by kernel_rfl) (by kernel_rfl) ⟨((New.refl w0).drew.block _ (lt_of_block HB.out)).trans HB.out, (New.refl _).drew⟩ ?_
  intro I _ f hall hback
  have HSTEP : Hid (∀ n w', New (f n) w' → ∃ m, w' = f m) := Lib.hid fun n w' hn => hback w' ⟨(hn.block _ (lt_of_block (hall n).1)).trans (hall n).1, (hall n).2.trans hn⟩
  have HALL := Lib.hid fun n => (hall n).2
  have s0 := fun n => cell_of_row _ _ 0 _ _ _ ((hall n).1)
  have s1 := fun n => cell_of_row _ _ 1 _ _ _ ((hall n).1)
  have s2 := fun n => cell_of_row _ _ 2 _ _ _ ((hall n).1)
  have z0 := fun n => HZ.out _ (hall n).2
  clear hall hback
  repeat (go_big_quiet_step (first
    | (go_at_call 81; refine class_same (HM.out _))))
  refine wpQuiet_nil ?_
  rintro w9 ⟨n1, hw1⟩
  have hS := HALL.out n1
  rw [← hw1] at hS
  replace HB := Lib.hid ((hS.block _ (lt_of_block HB.out)).trans HB.out)
  replace HN := Lib.hid (HN.out.trans hS)
  clear z0 HALL HSTEP hw1 hS s0 s1 s2
  go_wp2
  go_ret2
  exact ⟨rfl, HN.out⟩
set_option maxHeartbeats 1000000 in
theorem ev_sum3 (b : Int) (g off n c : Nat) (l : List (BitVec 64)) (x : BitVec 64) (w : World) (h : QRow w (some ⟨g, off, none⟩) n c l) (hn : n = 2) (hb0 : 1 ≤ b) (hb1 : b ≤ 32) : Calls Tryz.prog 83 #[.agg (sdc 3 b (some ⟨g, off, none⟩) n c), .int .u64 (W64 x)] w fun e w' => e = .returned (.tuple #[.int .u64 (W64 (vSum 3 b l x)), .int .i64 (eSum 3 x)]) ∧ New w w' := by
  generalize hW : w.alloc (.cells (sdc 3 b (some ⟨g, off, none⟩) n c) 30) = w0
  have HB : Hid (w0.heap[w.heap.size]? = some (.cells (sdc 3 b (some ⟨g, off, none⟩) n c) 30 (0, 0))) := Lib.hid (by rw [← hW]; exact heap_alloc_new w _)
  have HN : Hid (New w w0) := Lib.hid (by rw [← hW]; exact (New.refl w).alloc _)
  have HROW := Lib.hid (h.stay HN.out)
  have HNB := Lib.hid (numbers_3 b g off n c l w0 HROW.out hn)
  have hA : numA 3 l < 2 ^ 64 := by have := (l.getD 0 0#64).isLt; unfold numA; rw [if_pos rfl]; omega
  have hB : numB 3 l < 2 ^ 64 := by have := (l.getD 1 0#64).isLt; unfold numB; rw [if_pos rfl]; omega
  obtain ⟨j, rfl⟩ : ∃ j : Nat, b = (j : Int) := ⟨b.toNat, by omega⟩
  have HS := Lib.hid (fun w => shape_add w)
  have HC := Lib.hid (check_ok (numA 3 l) (numB 3 l) 64 32 (Nat.lt_of_lt_of_le hA (by decide)) (Nat.lt_of_lt_of_le hB (by decide)) (by omega) 3 (j : Int) hb0 hb1 hA hB HS)
  have HM : Hid (∀ w : World, Calls Tryz.prog 85 #[.int .i64 3, .int .i64 (j : Int), .agg #[.int .u64 (W64 (hiN (numA 3 l))), .int .u64 (W64 (loN (numA 3 l)))], .agg #[.int .u64 (W64 (hiN (numB 3 l))), .int .u64 (W64 (loN (numB 3 l)))], .int .u64 (W64 x)] w fun e w' => e = .returned (.tuple #[.int .u64 (W64 (vSum 3 (j : Int) l x)), .int .i64 (eSum 3 x)]) ∧ New w w') := Lib.hid (by
    intro w
    unfold vSum eSum
    have ek : kdK 3 = 32 := rfl
    have ew : wdK 3 = 64 := rfl
    cases hf : fitK 3 x
    · exact eval_no (numA 3 l) (numB 3 l) 64 32 j x (Nat.lt_of_lt_of_le hA (by decide)) (Nat.lt_of_lt_of_le hB (by decide)) (by omega) (by omega) 3 hf HS HC w
    · exact eval_okA (numA 3 l) (numB 3 l) 64 32 j x (Nat.lt_of_lt_of_le hA (by decide)) (Nat.lt_of_lt_of_le hB (by decide)) (by omega) (by omega) 3 hf HS HC w)
  clear hA hB HS HC h HROW hn hb0 hb1
  generalize vSum 3 (j : Int) l x = v at *
  generalize eSum 3 x = ee at *
  generalize numA 3 l = A at *
  generalize numB 3 l = B at *
  have c0 := cell_of_row _ _ 0 _ _ _ HB.out
  have c1 := cell_of_row _ _ 1 _ _ _ HB.out
  have c2 := cell_of_row _ _ 2 _ _ _ HB.out
  go_enter Tryz.func83, Tryz.ntmps83
  go_wp2_with fail
  refine HNB.out.mono ?_
  rintro e w1 ⟨rfl, hn1⟩
  have HP := Lib.hid (two_blocks w1 (.cells #[.int .u64 (W64 (hiN (A))), .int .u64 (W64 (loN (A)))] 63) (.cells #[.int .u64 (W64 (hiN (B))), .int .u64 (W64 (loN (B)))] 63))
  have hb := (((hn1.alloc (.cells #[.int .u64 (W64 (hiN (A))), .int .u64 (W64 (loN (A)))] 63)).alloc (.cells #[.int .u64 (W64 (hiN (B))), .int .u64 (W64 (loN (B)))] 63)).block _ (lt_of_block HB.out)).trans HB.out
  have HN1 := Lib.hid (HN.out.trans ((hn1.alloc (.cells #[.int .u64 (W64 (hiN (A))), .int .u64 (W64 (loN (A)))] 63)).alloc (.cells #[.int .u64 (W64 (hiN (B))), .int .u64 (W64 (loN (B)))] 63)))
  clear c0 c1 c2 hn1 HNB
  have c0 := cell_of_row _ _ 0 _ _ _ hb
  have c1 := cell_of_row _ _ 1 _ _ _ hb
  have c2 := cell_of_row _ _ 2 _ _ _ hb
  clear hb
  go_wp2_with fail
  refine (HM.out _).mono ?_
  rintro e w2 ⟨rfl, hn2⟩
  replace HN1 := Lib.hid (HN1.out.trans hn2)
  clear hn2 HM c0 c1 c2
  go_wp2
  go_ret2
  exact ⟨rfl, HN1.out⟩
set_option maxHeartbeats 1000000 in
theorem ev_sum4 (b : Int) (g off n c : Nat) (l : List (BitVec 64)) (x : BitVec 64) (w : World) (h : QRow w (some ⟨g, off, none⟩) n c l) (hn : n = 4) (hb0 : 1 ≤ b) (hb1 : b ≤ 64) : Calls Tryz.prog 83 #[.agg (sdc 4 b (some ⟨g, off, none⟩) n c), .int .u64 (W64 x)] w fun e w' => e = .returned (.tuple #[.int .u64 (W64 (vSum 4 b l x)), .int .i64 (eSum 4 x)]) ∧ New w w' := by
  generalize hW : w.alloc (.cells (sdc 4 b (some ⟨g, off, none⟩) n c) 30) = w0
  have HB : Hid (w0.heap[w.heap.size]? = some (.cells (sdc 4 b (some ⟨g, off, none⟩) n c) 30 (0, 0))) := Lib.hid (by rw [← hW]; exact heap_alloc_new w _)
  have HN : Hid (New w w0) := Lib.hid (by rw [← hW]; exact (New.refl w).alloc _)
  have HROW := Lib.hid (h.stay HN.out)
  have HNB := Lib.hid (numbers_4 b g off n c l w0 HROW.out hn)
  have hA : numA 4 l < 2 ^ 128 := by have := (l.getD 0 0#64).isLt; have := (l.getD 1 0#64).isLt; unfold numA; rw [if_neg (by omega)]; omega
  have hB : numB 4 l < 2 ^ 128 := by have := (l.getD 2 0#64).isLt; have := (l.getD 3 0#64).isLt; unfold numB; rw [if_neg (by omega)]; omega
  obtain ⟨j, rfl⟩ : ∃ j : Nat, b = (j : Int) := ⟨b.toNat, by omega⟩
  have HS := Lib.hid (fun w => shape_wide w)
  have HC := Lib.hid (check_ok (numA 4 l) (numB 4 l) 128 64 (Nat.lt_of_lt_of_le hA (by decide)) (Nat.lt_of_lt_of_le hB (by decide)) (by omega) 4 (j : Int) hb0 hb1 hA hB HS)
  have HM : Hid (∀ w : World, Calls Tryz.prog 85 #[.int .i64 4, .int .i64 (j : Int), .agg #[.int .u64 (W64 (hiN (numA 4 l))), .int .u64 (W64 (loN (numA 4 l)))], .agg #[.int .u64 (W64 (hiN (numB 4 l))), .int .u64 (W64 (loN (numB 4 l)))], .int .u64 (W64 x)] w fun e w' => e = .returned (.tuple #[.int .u64 (W64 (vSum 4 (j : Int) l x)), .int .i64 (eSum 4 x)]) ∧ New w w') := Lib.hid (by
    intro w
    unfold vSum eSum
    have ek : kdK 4 = 64 := rfl
    have ew : wdK 4 = 128 := rfl
    cases hf : fitK 4 x
    · exact eval_no (numA 4 l) (numB 4 l) 128 64 j x (Nat.lt_of_lt_of_le hA (by decide)) (Nat.lt_of_lt_of_le hB (by decide)) (by omega) (by omega) 4 hf HS HC w
    · exact eval_okA (numA 4 l) (numB 4 l) 128 64 j x (Nat.lt_of_lt_of_le hA (by decide)) (Nat.lt_of_lt_of_le hB (by decide)) (by omega) (by omega) 4 hf HS HC w)
  clear hA hB HS HC h HROW hn hb0 hb1
  generalize vSum 4 (j : Int) l x = v at *
  generalize eSum 4 x = ee at *
  generalize numA 4 l = A at *
  generalize numB 4 l = B at *
  have c0 := cell_of_row _ _ 0 _ _ _ HB.out
  have c1 := cell_of_row _ _ 1 _ _ _ HB.out
  have c2 := cell_of_row _ _ 2 _ _ _ HB.out
  go_enter Tryz.func83, Tryz.ntmps83
  go_wp2_with fail
  refine HNB.out.mono ?_
  rintro e w1 ⟨rfl, hn1⟩
  have HP := Lib.hid (two_blocks w1 (.cells #[.int .u64 (W64 (hiN (A))), .int .u64 (W64 (loN (A)))] 63) (.cells #[.int .u64 (W64 (hiN (B))), .int .u64 (W64 (loN (B)))] 63))
  have hb := (((hn1.alloc (.cells #[.int .u64 (W64 (hiN (A))), .int .u64 (W64 (loN (A)))] 63)).alloc (.cells #[.int .u64 (W64 (hiN (B))), .int .u64 (W64 (loN (B)))] 63)).block _ (lt_of_block HB.out)).trans HB.out
  have HN1 := Lib.hid (HN.out.trans ((hn1.alloc (.cells #[.int .u64 (W64 (hiN (A))), .int .u64 (W64 (loN (A)))] 63)).alloc (.cells #[.int .u64 (W64 (hiN (B))), .int .u64 (W64 (loN (B)))] 63)))
  clear c0 c1 c2 hn1 HNB
  have c0 := cell_of_row _ _ 0 _ _ _ hb
  have c1 := cell_of_row _ _ 1 _ _ _ hb
  have c2 := cell_of_row _ _ 2 _ _ _ hb
  clear hb
  go_wp2_with fail
  refine (HM.out _).mono ?_
  rintro e w2 ⟨rfl, hn2⟩
  replace HN1 := Lib.hid (HN1.out.trans hn2)
  clear hn2 HM c0 c1 c2
  go_wp2
  go_ret2
  exact ⟨rfl, HN1.out⟩
theorem ev_tab5 (b : Int) (a : Option Addr) (n c : Nat) (l : List (BitVec 64)) (x : BitVec 64) (q : Nat) (w : World) (h : QRow w a n c l) (hq : w.heap[q]? = some (.cells #[.func (Fn.func (evF 5)) #[] #[]] 101 (0, 0))) : Calls Tryz.prog 88 #[.agg (sdc 5 b a n c), .int .u64 (W64 x), .pointer (some ⟨q, 0, none⟩)] w fun e w' => e = .returned (.tuple #[.int .u64 (W64 (vTab 5 b l x)), .int .i64 (eTab 5 b l x)]) ∧ New w w' := by
  generalize hW : w.alloc (.cells (sdc 5 b a n c) 30) = w0
  have HB : Hid (w0.heap[w.heap.size]? = some (.cells (sdc 5 b a n c) 30 (0, 0))) := Lib.hid (by rw [← hW]; exact heap_alloc_new w _)
  have HN : Hid (New w w0) := Lib.hid (by rw [← hW]; exact (New.refl w).alloc _)
  have HROW := Lib.hid (h.stay HN.out)
  have HM := Lib.hid (eval_any a n c l b x w0 HROW.out)
  have hq2 : w0.heap[q]? = some (.cells #[.func (Fn.func 48) #[] #[]] 101 (0, 0)) := (HN.out.block _ (lt_of_block hq)).trans hq
  have z0 := cell_of_row _ _ 0 _ _ _ hq2
  have HV : Hid (evV l b 128 x = vTab 5 b l x) := Lib.hid rfl
  have HE : Hid (evE b l.length 128 x = eTab 5 b l x) := Lib.hid rfl
  rw [HV.out, HE.out] at HM
  clear HV HE hq hq2 h HROW
  generalize vTab 5 b l x = v at *
  generalize eTab 5 b l x = ee at *
  have c0 := cell_of_row _ _ 0 _ _ _ HB.out
  have c1 := cell_of_row _ _ 1 _ _ _ HB.out
  have c2 := cell_of_row _ _ 2 _ _ _ HB.out
  go_enter Tryz.func88, Tryz.ntmps88
  go_wp2_with fail
  refine HM.out.mono ?_
  rintro e w1 ⟨rfl, hn1⟩
  have HN1 := Lib.hid (HN.out.trans hn1)
  clear c0 c1 c2 z0 hn1 HM
  go_wp2
  go_ret2
  exact ⟨rfl, HN1.out⟩
theorem ev_tab6 (b : Int) (a : Option Addr) (n c : Nat) (l : List (BitVec 64)) (x : BitVec 64) (q : Nat) (w : World) (h : QRow w a n c l) (hq : w.heap[q]? = some (.cells #[.func (Fn.func (evF 6)) #[] #[]] 101 (0, 0))) : Calls Tryz.prog 88 #[.agg (sdc 6 b a n c), .int .u64 (W64 x), .pointer (some ⟨q, 0, none⟩)] w fun e w' => e = .returned (.tuple #[.int .u64 (W64 (vTab 6 b l x)), .int .i64 (eTab 6 b l x)]) ∧ New w w' := by
  generalize hW : w.alloc (.cells (sdc 6 b a n c) 30) = w0
  have HB : Hid (w0.heap[w.heap.size]? = some (.cells (sdc 6 b a n c) 30 (0, 0))) := Lib.hid (by rw [← hW]; exact heap_alloc_new w _)
  have HN : Hid (New w w0) := Lib.hid (by rw [← hW]; exact (New.refl w).alloc _)
  have HROW := Lib.hid (h.stay HN.out)
  have HM := Lib.hid (evalt_any a n c l b x w0 HROW.out)
  have hq2 : w0.heap[q]? = some (.cells #[.func (Fn.func 50) #[] #[]] 101 (0, 0)) := (HN.out.block _ (lt_of_block hq)).trans hq
  have z0 := cell_of_row _ _ 0 _ _ _ hq2
  have HV : Hid (teV l b x = vTab 6 b l x) := Lib.hid rfl
  have HE : Hid (evE b l.length 240 x = eTab 6 b l x) := Lib.hid rfl
  rw [HV.out, HE.out] at HM
  clear HV HE hq hq2 h HROW
  generalize vTab 6 b l x = v at *
  generalize eTab 6 b l x = ee at *
  have c0 := cell_of_row _ _ 0 _ _ _ HB.out
  have c1 := cell_of_row _ _ 1 _ _ _ HB.out
  have c2 := cell_of_row _ _ 2 _ _ _ HB.out
  go_enter Tryz.func88, Tryz.ntmps88
  go_wp2_with fail
  refine HM.out.mono ?_
  rintro e w1 ⟨rfl, hn1⟩
  have HN1 := Lib.hid (HN.out.trans hn1)
  clear c0 c1 c2 z0 hn1 HM
  go_wp2
  go_ret2
  exact ⟨rfl, HN1.out⟩
theorem ev_tab7 (b : Int) (a : Option Addr) (n c : Nat) (l : List (BitVec 64)) (x : BitVec 64) (q : Nat) (w : World) (h : QRow w a n c l) (hq : w.heap[q]? = some (.cells #[.func (Fn.func (evF 7)) #[] #[]] 101 (0, 0))) : Calls Tryz.prog 88 #[.agg (sdc 7 b a n c), .int .u64 (W64 x), .pointer (some ⟨q, 0, none⟩)] w fun e w' => e = .returned (.tuple #[.int .u64 (W64 (vTab 7 b l x)), .int .i64 (eTab 7 b l x)]) ∧ New w w' := by
  generalize hW : w.alloc (.cells (sdc 7 b a n c) 30) = w0
  have HB : Hid (w0.heap[w.heap.size]? = some (.cells (sdc 7 b a n c) 30 (0, 0))) := Lib.hid (by rw [← hW]; exact heap_alloc_new w _)
  have HN : Hid (New w w0) := Lib.hid (by rw [← hW]; exact (New.refl w).alloc _)
  have HROW := Lib.hid (h.stay HN.out)
  have HM := Lib.hid (evalm_any a n c l b x w0 HROW.out)
  have hq2 : w0.heap[q]? = some (.cells #[.func (Fn.func 52) #[] #[]] 101 (0, 0)) := (HN.out.block _ (lt_of_block hq)).trans hq
  have z0 := cell_of_row _ _ 0 _ _ _ hq2
  have HV : Hid (meV l b x = vTab 7 b l x) := Lib.hid rfl
  have HE : Hid (evE b l.length 320 x = eTab 7 b l x) := Lib.hid rfl
  rw [HV.out, HE.out] at HM
  clear HV HE hq hq2 h HROW
  generalize vTab 7 b l x = v at *
  generalize eTab 7 b l x = ee at *
  have c0 := cell_of_row _ _ 0 _ _ _ HB.out
  have c1 := cell_of_row _ _ 1 _ _ _ HB.out
  have c2 := cell_of_row _ _ 2 _ _ _ HB.out
  go_enter Tryz.func88, Tryz.ntmps88
  go_wp2_with fail
  refine HM.out.mono ?_
  rintro e w1 ⟨rfl, hn1⟩
  have HN1 := Lib.hid (HN.out.trans hn1)
  clear c0 c1 c2 z0 hn1 HM
  go_wp2
  go_ret2
  exact ⟨rfl, HN1.out⟩
theorem ev_str (b : Int) (g off n c : Nat) (l : List (BitVec 64)) (x : BitVec 64) (w : World) (h : QRow w (some ⟨g, off, none⟩) n c l) (hn0 : 0 < n) : Calls Tryz.prog 106 #[.agg (sdc 8 b (some ⟨g, off, none⟩) n c), .int .u64 (W64 x)] w fun e w' => e = .returned (.tuple #[.int .u64 (W64 (seV (l.getD 0 0#64) (bytes x 8))), .int .i64 (seE (l.getD 0 0#64) 8)]) ∧ New w w' := by
  generalize hW : w.alloc (.cells (sdc 8 b (some ⟨g, off, none⟩) n c) 30) = w0
  have HB : Hid (w0.heap[w.heap.size]? = some (.cells (sdc 8 b (some ⟨g, off, none⟩) n c) 30 (0, 0))) := Lib.hid (by rw [← hW]; exact heap_alloc_new w _)
  have HN : Hid (New w w0) := Lib.hid (by rw [← hW]; exact (New.refl w).alloc _)
  have HROW := Lib.hid (h.stay HN.out)
  have HZ : Hid (∀ w' : World, New w0 w' → w'.cell? ⟨g, off, none⟩ = some (.int .u64 (W64 (l.getD 0 0#64)))) := Lib.hid (fun w' hn => (HROW.out.stay hn).cell g off rfl 0 hn0)
  have HS := Lib.hid (fun (w' : World) (a1 : Option Addr) (c1 : Nat) (hr : BRow w' a1 8 c1 (bytes x 8)) => seval_any (l.getD 0 0#64) a1 8 c1 (bytes x 8) w' hr)
  have HPU : Hid (∀ w' : World, Calls Tryz.prog 107 #[.slice none 0 0, .int .u64 (W64 x)] w' fun e w2 => ∃ v, e = .returned v ∧ (SV 8 v ∧ SR (bytes x 8) 8 v w2) ∧ New w' w2) := Lib.hid (fun w' => (put64_any none 0 0 [] (W64 x) (by unfold W64; have := x.isLt; omega) w' w' (bnone27 w') (by omega) (New.refl _)).mono fun e w2 ⟨a2, c2, he, hr, hn, _⟩ => ⟨_, he, ⟨⟨a2, c2, rfl⟩, fun a3 c3 e3 => by cases e3; rw [ofInt_W64] at hr; exact hr⟩, hn⟩)
  have hpos : ¬ (n : Int) ≤ 0 := by omega
  clear h HROW
  generalize l.getD 0 0#64 = y at *
  obtain ⟨v, hv0⟩ : ∃ z, seV y (bytes x 8) = z := ⟨_, rfl⟩
  obtain ⟨ee, he0⟩ : ∃ z, seE y 8 = z := ⟨_, rfl⟩
  rw [hv0, he0] at HS ⊢
  clear hv0 he0
  go_enter Tryz.func106, Tryz.ntmps106
  go_wp2_with fail
  refine Grow.wp_region_growS (fun w' => w'.heap[w.heap.size]? = some (.cells (sdc 8 b (some ⟨g, off, none⟩) n c) 30 (0, 0)) ∧ New w0 w') (fun k => [5, 6].contains k) (by kernel_rfl) (by kernel_rfl) (by kernel_rfl) ⟨((New.refl _).drew.block _ (lt_of_block HB.out)).trans HB.out, (New.refl _).drew⟩ ?_
  intro I _ f hall hback
  have HALL := Lib.hid hall
  have HSTEP : Hid (∀ n w', New (f n) w' → ∃ m, w' = f m) := Lib.hid fun n w' hn => hback w' ⟨(hn.block _ (lt_of_block (hall n).1)).trans (hall n).1, (hall n).2.trans hn⟩
  have s0 := fun n => cell_of_row _ _ 0 _ _ _ (hall n).1
  have s1 := fun n => cell_of_row _ _ 1 _ _ _ (hall n).1
  have s2 := fun n => cell_of_row _ _ 2 _ _ _ (hall n).1
  have z0 := fun n => HZ.out _ (hall n).2
  clear hall hback
  refine Grow.wpGrow_take 5 (by kernel_rfl) ?_
  simp only [List.take, List.drop, List.length]
  repeat (go_big_quiet_step (fail))
  refine wpQuiet_nil ?_
  refine Grow.wpGrow_call (SV 8) (SR (bytes x 8) 8) rfl rfl (SV.some _) (fun w1 hB hG => ?_) (fun v1 A1 hv1 hA => ?_)
  · obtain ⟨n, rfl⟩ := hB
    go_simp
    refine (HPU.out _).mono ?_
    rintro e w2 ⟨v, rfl, hv, hn⟩
    obtain ⟨hva, hvb⟩ := hv
    exact ⟨_, rfl, HSTEP.out _ _ hn, hva, hvb⟩
  simp [Act.put] at hA
  subst hA
  obtain ⟨a1, c1, rfl⟩ := hv1
  refine Grow.wpGrow_one (.tuple #[.int .u64 (W64 v), .int .i64 ee]) rfl rfl (fun w1 hB hG => ?_) (fun A2 hA => ?_)
  · obtain ⟨n, rfl⟩ := hB
    go_simp
    refine (HS.out _ _ _ hG.2.row).mono ?_
    rintro e w2 ⟨rfl, hn⟩
    first | exact ⟨_, rfl, HSTEP.out _ _ hn, rfl, hG.2.stay hn⟩ | exact ⟨rfl, HSTEP.out _ _ hn, hG.2.stay hn⟩
  simp [Act.put] at hA
  subst hA
  refine Grow.wpGrow_take 4 (by kernel_rfl) ?_
  simp only [List.take, List.drop, List.length]
  repeat (go_big_quiet_step (fail))
  refine wpQuiet_nil ?_
  refine Grow.wpGrow_nil ?_
  rintro w9 ⟨n9, rfl⟩ hG
  have HN5 := Lib.hid (HN.out.trans (HALL.out n9).2)
  clear HALL HSTEP s0 s1 s2 z0 hG
  generalize f n9 = w10 at *
  go_wp2
  go_ret2
  exact ⟨rfl, HN5.out⟩
end Go.Proofs.YtebcfbcfipmahaaGreat
