/- Layer 29: Lanes and Set of a hash. -/
import Derived.Test.YtegibnffingciaaM29H
import Derived.Test.YtegibnffingciaaHshE
import Derived.Defers
import Derived.Recover
import Derived.Laws.Pointers
import Derived.Handy
import Derived.Laws.EntriesVeiled
namespace Go.Proofs.Ytegibnffingciaa
open Go.RowKit Go.Bv
set_option linter.unusedVariables false
set_option maxHeartbeats 1000000 in
theorem hlanes_n_29 (w : World) : Calls Try.prog 48 #[.pointer none] w fun e w' => e = .returned (.tuple #[.agg #[.int .u64 0, .int .u64 0, .int .u64 0, .int .u64 0], .int .u64 0, .slice none 0 0]) ∧ New w w' := by
  have HO := Lib.hid (heap_alloc_new w (.cells #[.int .u64 0, .int .u64 0, .int .u64 0, .int .u64 0] 59))
  have HN := Lib.hid ((New.refl w).alloc (.cells #[.int .u64 0, .int .u64 0, .int .u64 0, .int .u64 0] 59))
  go_enter Try.func48, Try.ntmps48
  go_wp2_with fail
  refine (content_n_29 _).mono ?_
  rintro e w9 ⟨rfl, rfl⟩
  go_wp2_with fail
  refine (state_n_29 _).mono ?_
  rintro e w9 ⟨rfl, hn⟩
  replace HO := Lib.hid ((hn.block _ (lt_of_block HO.out)).trans HO.out)
  replace HN := Lib.hid (HN.out.trans hn)
  clear hn
  go_wp2_with fail
  refine (long_n_29 _).mono ?_
  rintro e w9 ⟨rfl, rfl⟩
  go_wp2_with fail
  refine (tail_n_29 _).mono ?_
  rintro e w9 ⟨rfl, rfl⟩
  have z0 := cell_of_row _ _ 0 _ _ _ HO.out
  have z1 := cell_of_row _ _ 1 _ _ _ HO.out
  have z2 := cell_of_row _ _ 2 _ _ _ HO.out
  have z3 := cell_of_row _ _ 3 _ _ _ HO.out
  have zf := fun i => frozen_of_row _ _ i _ _ HO.out
  go_wp2
  refine bodyPost_ret (by simp [results, Try.results48, go_sem, z0, z1, z2, z3]; try rfl) rfl ?_
  first | exact ⟨rfl, HN.out⟩ | exact ⟨rfl, (((HN.out.setCell (by show w.heap.size ≤ w.heap.size; omega) _).setCell (by show w.heap.size ≤ w.heap.size; omega) _).setCell (by show w.heap.size ≤ w.heap.size; omega) _).setCell (by show w.heap.size ≤ w.heap.size; omega) _⟩
set_option maxHeartbeats 1000000 in
theorem hlanes_29 (p h : Nat) (fs st : BitVec 32) (tl : List (BitVec 8)) (long : BitVec 64) (w : World) (hx : w.heap[h]? = some (.cells #[.pointer (some ⟨p, 0, none⟩)] 99 (0, 0))) (hs : Strm_29 w p 4 fs st tl long) :
    Calls Try.prog 48 #[.pointer (some ⟨h, 0, none⟩)] w fun e w' => ∃ a c, e = .returned (.tuple #[.agg #[.int .u64 (W64 ((st).setWidth 64)), .int .u64 0, .int .u64 0, .int .u64 0], .int .u64 (W64 long), .slice a tl.length c]) ∧ BRow w' a tl.length c tl ∧ New w w' := by
  have HC := Lib.hid (fun w' (hn : New w w') => content_29 p h w' ((hn.block _ (lt_of_block hx)).trans hx))
  have HS1 := Lib.hid (fun w' (hn : New w w') => state_29 p 4 fs st tl long w' (by omega) (hs.stay hn))
  have HS2 := Lib.hid (fun w' (hn : New w w') => tail_29 p 4 fs st tl long w' (by omega) (hs.stay hn))
  have HS3 := Lib.hid (fun w' (hn : New w w') => long_29 p 4 fs st tl long w' (by omega) (hs.stay hn))
  clear hx hs
  have HO := Lib.hid (heap_alloc_new w (.cells #[.int .u64 0, .int .u64 0, .int .u64 0, .int .u64 0] 59))
  have HN := Lib.hid ((New.refl w).alloc (.cells #[.int .u64 0, .int .u64 0, .int .u64 0, .int .u64 0] 59))
  go_enter Try.func48, Try.ntmps48
  go_wp2_with fail
  refine (HC.out _ HN.out).mono ?_
  rintro e w9 ⟨rfl, rfl⟩
  go_wp2_with fail
  refine (HS1.out _ HN.out).mono ?_
  rintro e w9 ⟨rfl, hn⟩
  replace HO := Lib.hid ((hn.block _ (lt_of_block HO.out)).trans HO.out)
  replace HN := Lib.hid (HN.out.trans hn)
  clear hn
  go_wp2_with fail
  refine (HS3.out _ HN.out).mono ?_
  rintro e w9 ⟨rfl, rfl⟩
  go_wp2_with fail
  refine (HS2.out _ HN.out).mono ?_
  rintro e w9 ⟨a2, c2, rfl, hr, hn⟩
  replace HO := Lib.hid ((hn.block _ (lt_of_block HO.out)).trans HO.out)
  replace HN := Lib.hid (HN.out.trans hn)
  have HR := Lib.hid hr
  clear hn hr HC HS1 HS2 HS3
  have z0 := cell_of_row _ _ 0 _ _ _ HO.out
  have z1 := cell_of_row _ _ 1 _ _ _ HO.out
  have z2 := cell_of_row _ _ 2 _ _ _ HO.out
  have z3 := cell_of_row _ _ 3 _ _ _ HO.out
  have zf := fun i => frozen_of_row _ _ i _ _ HO.out
  go_wp2
  refine bodyPost_ret (by simp [results, Try.results48, go_sem, z0, z1, z2, z3]; try rfl) rfl ?_
  have hnb : NoBytes w9 w.heap.size := ⟨_, _, _, HO.out, by simp⟩
  refine ⟨a2, c2, rfl, HR.out.buts (((((But.refl w.heap.size w9).setCell (p := ⟨w.heap.size, 0, none⟩) rfl _).setCell (p := ⟨w.heap.size, 1, none⟩) rfl _).setCell (p := ⟨w.heap.size, 2, none⟩) rfl _).setCell (p := ⟨w.heap.size, 3, none⟩) rfl _) hnb, ?_⟩
  exact (((HN.out.setCell (by show w.heap.size ≤ w.heap.size; omega) _).setCell (by show w.heap.size ≤ w.heap.size; omega) _).setCell (by show w.heap.size ≤ w.heap.size; omega) _).setCell (by show w.heap.size ≤ w.heap.size; omega) _
set_option maxHeartbeats 1000000 in
theorem hset_no_29 (v1 v2 v3 : Value) (x0 x1 x2 x3 : BitVec 64) (hr : ((x0.setWidth 32).setWidth 64 == x0 && (x1 == 0#64 && (x2 == 0#64 && x3 == 0#64))) = false) (w : World) : Calls Try.prog 50 #[v1, .agg #[.int .u64 (W64 x0), .int .u64 (W64 x1), .int .u64 (W64 x2), .int .u64 (W64 x3)], v2, v3] w fun e w' => e = .returned (.bool false) ∧ New w w' := by
  have he := fun w => eq4h w x0 x1 x2 x3 ((x0.setWidth 32).setWidth 64) 0#64 0#64 0#64
  rw [show (x0 == (x0.setWidth 32).setWidth 64) = ((x0.setWidth 32).setWidth 64 == x0) from BEq.comm, hr, show W64 0#64 = 0 by decide] at he
  have HO := Lib.hid (heap_alloc_new w (.cells #[.int .u64 (W64 x0), .int .u64 (W64 x1), .int .u64 (W64 x2), .int .u64 (W64 x3)] 59))
  have HN := Lib.hid ((New.refl w).alloc (.cells #[.int .u64 (W64 x0), .int .u64 (W64 x1), .int .u64 (W64 x2), .int .u64 (W64 x3)] 59))
  have c0 := cell_of_row _ _ 0 _ _ _ HO.out
  have c1 := cell_of_row _ _ 1 _ _ _ HO.out
  have c2 := cell_of_row _ _ 2 _ _ _ HO.out
  have c3 := cell_of_row _ _ 3 _ _ _ HO.out
  go_enter Try.func50, Try.ntmps50
  go_wp2
  go_ret
  exact ⟨rfl, HN.out⟩
set_option maxHeartbeats 1000000 in
theorem hset_n_29 (v2 : Value) (v3 : Value) (s : BitVec 32) (w : World) : Calls Try.prog 50 #[.pointer none, .agg #[.int .u64 (W64 ((s).setWidth 64)), .int .u64 0, .int .u64 0, .int .u64 0], v2, v3] w fun e w' => e = .returned (.bool false) ∧ New w w' := by
  have hsw : (s.setWidth 64).setWidth 32 = s := by
    apply BitVec.eq_of_toNat_eq
    rw [BitVec.toNat_setWidth, BitVec.toNat_setWidth]
    have := s.isLt
    omega
  have he := fun w => eq4s w (s.setWidth 64) 0#64 0#64 0#64
  rw [show W64 0#64 = 0 by decide] at he
  have HO := Lib.hid (heap_alloc_new w (.cells #[.int .u64 (W64 ((s).setWidth 64)), .int .u64 0, .int .u64 0, .int .u64 0] 59))
  have HN := Lib.hid ((New.refl w).alloc (.cells #[.int .u64 (W64 ((s).setWidth 64)), .int .u64 0, .int .u64 0, .int .u64 0] 59))
  have c0 := cell_of_row _ _ 0 _ _ _ HO.out
  have c1 := cell_of_row _ _ 1 _ _ _ HO.out
  have c2 := cell_of_row _ _ 2 _ _ _ HO.out
  have c3 := cell_of_row _ _ 3 _ _ _ HO.out
  go_enter Try.func50, Try.ntmps50
  go_wp2_with fail
  refine (content_n_29 _).mono ?_
  rintro e w9 ⟨rfl, rfl⟩
  go_wp2_with fail
  refine (set_n_29 s _ _ _).mono ?_
  rintro e w9 ⟨rfl, hn⟩
  have HNZ := Lib.hid (HN.out.trans hn)
  clear hn
  go_wp2
  go_ret
  exact ⟨rfl, HNZ.out⟩
set_option maxHeartbeats 1000000 in
theorem hset_unfit_29 (p h : Nat) (fs st : BitVec 32) (tl : List (BitVec 8)) (long : BitVec 64) (s : BitVec 32) (long2 : BitVec 64) (b : Option Addr) (lb cb : Nat) (m : List (BitVec 8)) (w : World) (hx : w.heap[h]? = some (.cells #[.pointer (some ⟨p, 0, none⟩)] 99 (0, 0))) (hs : Strm_29 w p 4 fs st tl long) (hm : BRow w b lb cb m) (hfit : (BitVec.ofNat 64 lb != long2 % 4#64) = true) :
    Calls Try.prog 50 #[.pointer (some ⟨h, 0, none⟩), .agg #[.int .u64 (W64 ((s).setWidth 64)), .int .u64 0, .int .u64 0, .int .u64 0], .int .u64 (W64 long2), .slice b lb cb] w fun e w' => e = .returned (.bool false) ∧ New w w' := by
  have hsw : (s.setWidth 64).setWidth 32 = s := by
    apply BitVec.eq_of_toNat_eq
    rw [BitVec.toNat_setWidth, BitVec.toNat_setWidth]
    have := s.isLt
    omega
  have he := fun w => eq4s w (s.setWidth 64) 0#64 0#64 0#64
  rw [show W64 0#64 = 0 by decide] at he
  have HC := Lib.hid (fun w' (hn : New w w') => content_29 p h w' ((hn.block _ (lt_of_block hx)).trans hx))
  have HSY := Lib.hid (fun w' (hn : New w w') => setn_29 p fs st tl long s long2 b lb cb m w' (hs.stay hn) (hm.stay hn) hfit)
  clear hx hs hm hfit
  have HO := Lib.hid (heap_alloc_new w (.cells #[.int .u64 (W64 ((s).setWidth 64)), .int .u64 0, .int .u64 0, .int .u64 0] 59))
  have HN := Lib.hid ((New.refl w).alloc (.cells #[.int .u64 (W64 ((s).setWidth 64)), .int .u64 0, .int .u64 0, .int .u64 0] 59))
  have c0 := cell_of_row _ _ 0 _ _ _ HO.out
  have c1 := cell_of_row _ _ 1 _ _ _ HO.out
  have c2 := cell_of_row _ _ 2 _ _ _ HO.out
  have c3 := cell_of_row _ _ 3 _ _ _ HO.out
  go_enter Try.func50, Try.ntmps50
  go_wp2_with fail
  refine (HC.out _ HN.out).mono ?_
  rintro e w9 ⟨rfl, rfl⟩
  go_wp2_with fail
  refine (HSY.out _ HN.out).mono ?_
  rintro e w9 ⟨rfl, hn⟩
  have HNZ := Lib.hid (HN.out.trans hn)
  clear hn
  go_wp2
  go_ret
  exact ⟨rfl, HNZ.out⟩
set_option maxHeartbeats 1000000 in
theorem hset_fit_29 (p h : Nat) (fs st : BitVec 32) (tl : List (BitVec 8)) (long : BitVec 64) (s : BitVec 32) (long2 : BitVec 64) (b : Option Addr) (lb cb : Nat) (m : List (BitVec 8)) (w : World) (hx : w.heap[h]? = some (.cells #[.pointer (some ⟨p, 0, none⟩)] 99 (0, 0))) (hs : Strm_29 w p 4 fs st tl long) (hm : BRow w b lb cb m) (hfit : (BitVec.ofNat 64 lb != long2 % 4#64) = false) :
    Calls Try.prog 50 #[.pointer (some ⟨h, 0, none⟩), .agg #[.int .u64 (W64 ((s).setWidth 64)), .int .u64 0, .int .u64 0, .int .u64 0], .int .u64 (W64 long2), .slice b lb cb] w fun e w' => e = .returned (.bool true) ∧ Strm_29 w' p 4 fs s m long2 ∧ But p w w' := by
  have hsw : (s.setWidth 64).setWidth 32 = s := by
    apply BitVec.eq_of_toNat_eq
    rw [BitVec.toNat_setWidth, BitVec.toNat_setWidth]
    have := s.isLt
    omega
  have he := fun w => eq4s w (s.setWidth 64) 0#64 0#64 0#64
  rw [show W64 0#64 = 0 by decide] at he
  have HC := Lib.hid (fun w' (hn : New w w') => content_29 p h w' ((hn.block _ (lt_of_block hx)).trans hx))
  have HSY := Lib.hid (fun w' (hn : New w w') => sety_29 p fs st tl long s long2 b lb cb m w' (hs.stay hn) (hm.stay hn) hfit)
  clear hx hs hm hfit
  have HO := Lib.hid (heap_alloc_new w (.cells #[.int .u64 (W64 ((s).setWidth 64)), .int .u64 0, .int .u64 0, .int .u64 0] 59))
  have HN := Lib.hid ((New.refl w).alloc (.cells #[.int .u64 (W64 ((s).setWidth 64)), .int .u64 0, .int .u64 0, .int .u64 0] 59))
  have c0 := cell_of_row _ _ 0 _ _ _ HO.out
  have c1 := cell_of_row _ _ 1 _ _ _ HO.out
  have c2 := cell_of_row _ _ 2 _ _ _ HO.out
  have c3 := cell_of_row _ _ 3 _ _ _ HO.out
  go_enter Try.func50, Try.ntmps50
  go_wp2_with fail
  refine (HC.out _ HN.out).mono ?_
  rintro e w9 ⟨rfl, rfl⟩
  go_wp2_with fail
  refine (HSY.out _ HN.out).mono ?_
  rintro e w9 ⟨rfl, hs, hb⟩
  have HS := Lib.hid hs
  have HBU := Lib.hid (But.trans (But.of_new HN.out) hb)
  clear hs hb
  go_wp2
  go_ret
  exact ⟨rfl, HS.out, HBU.out⟩
end Go.Proofs.Ytegibnffingciaa
