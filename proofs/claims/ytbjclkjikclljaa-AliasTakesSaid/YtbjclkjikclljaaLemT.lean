/- Contracts of the document's own layer 38: Take; a limit 0. -/
import Derived.Test.YtbjclkjikclljaaLemW
import Derived.Test.YtbjclkjikclljaaMskQ
namespace Go.Proofs.Ytbjclkjikclljaa
open Go.RowKit Go.Bv
set_option linter.unusedVariables false
set_option maxHeartbeats 1000000 in
theorem rtake_l (a : Option Addr) (len cap : Nat) (l : List (BitVec 64)) (n : BitVec 64) (hn0 : ¬ n = 0#64) (w : World) (hq : QRow w a len cap l) :
    Calls Try.prog 45 #[.slice a len cap, .int .u64 (W64 n)] w fun e w' =>
      ((∃ j, j < l.length ∧ (∀ i, i < j → takN (l.getD i 0) n = false) ∧ takN (l.getD j 0) n = true ∧ e = .returned (.tuple #[.agg #[.int .u64 (W64 (telN (l.getD j 0) n)), .int .u64 (W64 (rnkN (l.getD j 0) n)), .int .i64 ((j : Int) + 1)], .bool true])) ∨
      ((∀ i, i < l.length → takN (l.getD i 0) n = false) ∧ e = .returned (.tuple #[.agg #[.int .u64 0, .int .u64 0, .int .i64 0], .bool false]))) ∧ New w w' := by
  have hmost := hq.most
  obtain rfl := hq.len_eq
  have hr := heap_alloc_new w (.cells #[.int .u64 0, .int .u64 0, .int .i64 0] 80)
  have hnw := (New.refl w).alloc (.cells #[.int .u64 0, .int .u64 0, .int .i64 0] 80)
  have HQ := Lib.hid hq
  have HR0 := Lib.hid hr
  have HN0 := Lib.hid hnw
  have HH0 := Lib.hid hn0
  have hsz : (w.alloc (.cells #[.int .u64 0, .int .u64 0, .int .i64 0] 80)).heap.size = w.heap.size + 1 := by simp
  clear hq hr hnw hn0
  go_enter Try.func45, Try.ntmps45
  go_wp2_with fail
  generalize w.alloc (.cells #[.int .u64 0, .int .u64 0, .int .i64 0] 80) = w0 at *
  go_loopw [12] (fun u wr => ∃ j : Nat, j ≤ l.length ∧ u = .int .i64 j ∧ New w0 wr ∧ Hid (∀ i, i < j → takN (l.getD i 0) n = false)) (fun u _ => l.length - (intOf u).toNat)
  case atStart => exact ⟨0, Nat.zero_le _, rfl, New.refl _, Lib.hid (fun i h => by omega)⟩
  case round =>
    obtain ⟨j, hj, rfl, hnr, HNO⟩ := hrel
    have hrr := (hnr.block w.heap.size (by omega)).trans HR0.out
    have HNR := Lib.hid hnr
    by_cases hlt : (j : Int) < (l.length : Int)
    · obtain ⟨b, off, rfl, hcell⟩ := ((HQ.out.stay HN0.out).stay hnr).addr (by omega)
      have hck := hcell j (by omega)
      have HTK := Lib.hid (rtakes_l (l.getD j 0) n HH0.out)
      have HTL := Lib.hid (rrank_l (l.getD j 0) n HH0.out)
      obtain ⟨z, hz⟩ : ∃ z, l.getD j 0 = z := ⟨_, rfl⟩
      rw [hz] at hck HTK HTL
      have HZ := Lib.hid hz
      have HRR := Lib.hid hrr
      clear hcell hz hnr hrr
      go_wp2_with fail
      refine (HTK.out _).mono ?_
      rintro e w1 ⟨rfl, hn1⟩
      have HN1 := Lib.hid (HNR.out.trans hn1)
      have HR1 := Lib.hid ((hn1.block _ (lt_of_block HRR.out)).trans HRR.out)
      clear hn1 HRR hck
      rcases htk : takN z n
      · have HNO2 : Hid (∀ i, i < j + 1 → takN (l.getD i 0) n = false) := Lib.hid (fun i h1 => by
          by_cases e : i = j
          · subst e; rw [HZ.out]; exact htk
          · exact HNO.out i (by omega))
        clear htk
        go_wp2
        exact ⟨⟨j + 1, by omega, by go_num, HN1.out, HNO2⟩, by simp [intOf]; omega⟩
      · have HTT := Lib.hid htk
        clear htk
        go_wp2_with fail
        refine (HTL.out HTT.out _).mono ?_
        rintro e w2 ⟨rfl, hn2⟩
        have HN2 := Lib.hid (HN1.out.trans hn2)
        have hrr := (hn2.block _ (lt_of_block HR1.out)).trans HR1.out
        have r0 := cell_of_row _ _ 0 _ _ _ hrr
        have r1 := cell_of_row _ _ 1 _ _ _ hrr
        have r2 := cell_of_row _ _ 2 _ _ _ hrr
        have rf : ∀ i, w2.frozen? ⟨w.heap.size, i, none⟩ = false := fun i => frozen_of_row _ _ _ _ _ hrr
        clear hn2 hrr
        go_wp2
        refine bodyPost_ret (by simp [results, Try.results45, go_sem, r0, r1, r2]; try rfl) rfl ?_
        refine ⟨Or.inl ⟨j, by omega, HNO.out, by rw [HZ.out]; exact HTT.out, by rw [HZ.out]⟩, (((HN0.out.trans HN2.out).setCell (Nat.le_refl _) _).setCell (Nat.le_refl _) _).setCell (Nat.le_refl _) _⟩
    · obtain rfl : j = l.length := by omega
      have r0 := cell_of_row _ _ 0 _ _ _ hrr
      have r1 := cell_of_row _ _ 1 _ _ _ hrr
      have r2 := cell_of_row _ _ 2 _ _ _ hrr
      have rf : ∀ i, wr.frozen? ⟨w.heap.size, i, none⟩ = false := fun i => frozen_of_row _ _ _ _ _ hrr
      clear hrr hnr
      go_wp2
      refine bodyPost_ret (by simp [results, Try.results45, go_sem, r0, r1, r2]; try rfl) rfl ?_
      refine ⟨Or.inr ⟨HNO.out, rfl⟩, (((HN0.out.trans HNR.out).setCell (Nat.le_refl _) _).setCell (Nat.le_refl _) _).setCell (Nat.le_refl _) _⟩
set_option maxHeartbeats 1000000 in
theorem take_l0 (b : Nat) (w : World) : Calls Try.prog 36 #[.pointer (some ⟨b, 0, none⟩), .int .u64 0] w fun e w' =>
    e = .returned (.tuple #[.agg #[.int .u64 0, .int .u64 0, .int .i64 0], .int .i64 8]) ∧ New w w' := by
  go_enter Try.func36, Try.ntmps36
  go_wp2_with fail
  go_step3
  go_wp2_with fail
  rw [Exit.noGoto_ret]
  first
  | (go_returns; exact ⟨rfl, (New.refl _).alloc _⟩)
  | (refine bodyPost_ret (by simp [results, Try.results36, go_sem]; try rfl) rfl ?_
     exact ⟨rfl, (New.refl w).alloc _⟩)
end Go.Proofs.Ytbjclkjikclljaa
