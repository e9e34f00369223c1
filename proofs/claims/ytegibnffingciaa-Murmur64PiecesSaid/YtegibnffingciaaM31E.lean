/- Layer 31: the document's own Blocks and One; start, joined. -/
import Derived.Test.YtegibnffingciaaM31D
import Derived.Defers
import Derived.Recover
import Derived.Laws.Pointers
import Derived.Handy
import Derived.Laws.EntriesVeiled
namespace Go.Proofs.Ytegibnffingciaa
open Go.RowKit Go.Bv
set_option linter.unusedVariables false
def start31 (sd : BitVec 32) : BitVec 64 × BitVec 64 := (sd.setWidth 64, sd.setWidth 64)
/-- the hash -/
def hash31 (sd : BitVec 32) (l : List (BitVec 8)) : BitVec 64 × BitVec 64 := end31 (bState 16 stp31 (start31 sd) l) (bTail 16 l) (BitVec.ofNat 64 l.length)
set_option maxRecDepth 100000 in
set_option maxHeartbeats 1000000 in
theorem blocks_ref31 (sd : BitVec 32) (a : Option Addr) (n c : Nat) (l : List (BitVec 8)) (w : World) (h : BRow w a n c l) :
    Calls Try.prog 75 #[.int .u32 (W32 sd), .slice a n c] w fun e w' => ∃ a' c', e = .returned (.tuple #[.agg #[.int .u64 (W64 ((bState 16 stp31 (start31 sd) l).1)), .int .u64 (W64 ((bState 16 stp31 (start31 sd) l).2)), .int .u64 0, .int .u64 0], .slice a' (n % 16 : Nat) c']) ∧ BRow w' a' (n % 16) c' (bTail 16 l) ∧ New w w' := by
  have HF := Lib.hid (fun w' (hn : New w w') => from_ref31 (start31 sd) (.int .u64 0) (.int .u64 0) a n c l w' (h.stay hn))
  have HZ := Lib.hid (heap_alloc_new w (.cells #[.int .u64 0, .int .u64 0, .int .u64 0, .int .u64 0] 59))
  generalize bState 16 stp31 (start31 sd) l = st at *
  generalize bTail 16 l = tl at *
  unfold start31 at HF
  clear h
  go_enter Try.func75, Try.ntmps75
  go_wp2_with fail
  refine (HF.out _ ((New.refl w).alloc _)).mono ?_
  rintro e w9 ⟨a2, c2, rfl, hr, hn⟩
  have HR := Lib.hid hr
  have HO := Lib.hid ((hn.block _ (lt_of_block HZ.out)).trans HZ.out)
  have HN := Lib.hid (((New.refl w).alloc _).trans hn)
  clear hr hn HF HZ
  have z0 := cell_of_row _ _ 0 _ _ _ HO.out
  have z1 := cell_of_row _ _ 1 _ _ _ HO.out
  have z2 := cell_of_row _ _ 2 _ _ _ HO.out
  have z3 := cell_of_row _ _ 3 _ _ _ HO.out
  have zf := fun i => frozen_of_row _ _ i _ _ HO.out
  go_wp2
  refine bodyPost_ret (by simp [results, Try.results75, go_sem, z0, z1, z2, z3]; try rfl) rfl ?_
  have hq : ∀ i, w.heap.size ≤ (⟨w.heap.size, i, none⟩ : Addr).block := fun i => Nat.le_refl _
  have hnb : NoBytes w9 w.heap.size := ⟨_, _, _, HO.out, by simp⟩
  refine ⟨a2, c2, rfl, HR.out.buts (((((But.refl w.heap.size w9).setCell (p := ⟨w.heap.size, 0, none⟩) rfl _).setCell (p := ⟨w.heap.size, 1, none⟩) rfl _).setCell (p := ⟨w.heap.size, 2, none⟩) rfl _).setCell (p := ⟨w.heap.size, 3, none⟩) rfl _) hnb, ?_⟩
  exact (((HN.out.setCell (hq 0) _).setCell (hq 1) _).setCell (hq 2) _).setCell (hq 3) _
set_option maxRecDepth 100000 in
set_option maxHeartbeats 1000000 in
theorem hash_ref31 (sd : BitVec 32) (a : Option Addr) (n c : Nat) (l : List (BitVec 8)) (w : World) (h : BRow w a n c l) :
    Calls Try.prog 69 #[.int .u32 (W32 sd), .slice a n c] w fun e w' => e = .returned (.agg #[.int .u64 (W64 (hash31 sd l).2), .int .u64 (W64 (hash31 sd l).1)]) ∧ New w w' := by
  have HB := Lib.hid (fun w' (hn : New w w') => blocks_ref31 sd a n c l w' (h.stay hn))
  have HZ := Lib.hid (heap_alloc_new w (.cells #[.int .u64 0, .int .u64 0] 71))
  have hlen := h.len_eq
  unfold hash31
  rw [hlen]
  clear h hlen
  generalize bState 16 stp31 (start31 sd) l = st at *
  generalize bTail 16 l = tl at *
  have HEN := Lib.hid (fun (w' : World) a' c' (hr : BRow w' a' (n % 16) c' tl) => end_ref31 (.int .u32 (W32 sd)) (.int .u64 0) (.int .u64 0) st a' (n % 16) c' tl (BitVec.ofNat 64 n) w' hr)
  generalize end31 st tl (BitVec.ofNat 64 n) = hh at *
  go_enter Try.func69, Try.ntmps69
  go_wp2_with fail
  refine (HB.out _ ((New.refl w).alloc _)).mono ?_
  rintro e w9 ⟨a2, c2, rfl, hr, hn⟩
  have HO := Lib.hid ((hn.block _ (lt_of_block HZ.out)).trans HZ.out)
  have HN := Lib.hid (((New.refl w).alloc _).trans hn)
  have HR := Lib.hid hr
  clear hr hn HB HZ
  have hx := heap_alloc_new w9 (.cells #[.int .u64 (W64 (st.1)), .int .u64 (W64 (st.2)), .int .u64 0, .int .u64 0] 59)
  have hn2 := (New.refl w9).alloc (.cells #[.int .u64 (W64 (st.1)), .int .u64 (W64 (st.2)), .int .u64 0, .int .u64 0] 59)
  obtain ⟨qHM, hq⟩ : ∃ q, w9.heap.size = q := ⟨_, rfl⟩
  have hle := HN.out.le
  rw [hq] at hx hle
  have hw0 := And.intro (rfl : w9.alloc (.cells #[.int .u64 (W64 (st.1)), .int .u64 (W64 (st.2)), .int .u64 0, .int .u64 0] 59) = w9.alloc (.cells #[.int .u64 (W64 (st.1)), .int .u64 (W64 (st.2)), .int .u64 0, .int .u64 0] 59)) hq
  generalize hw2 : w9.alloc (.cells #[.int .u64 (W64 (st.1)), .int .u64 (W64 (st.2)), .int .u64 0, .int .u64 0] 59) = w10 at hx hn2 hw0
  have HE := Lib.hid (show w9.alloc (.cells #[.int .u64 (W64 (st.1)), .int .u64 (W64 (st.2)), .int .u64 0, .int .u64 0] 59) = w10 ∧ w9.heap.size = qHM from ⟨hw2, hq⟩)
  clear hw0 hw2
  replace HR := Lib.hid (HR.out.stay hn2)
  replace HO := Lib.hid ((hn2.block _ (lt_of_block HO.out)).trans HO.out)
  replace HN := Lib.hid (HN.out.trans hn2)
  have HM := Lib.hid hx
  have HLHM := Lib.hid hle
  clear hx hn2 hq hle
  have x0 := cell_of_row _ _ 0 _ _ _ HM.out
  have x1 := cell_of_row _ _ 1 _ _ _ HM.out
  have x2 := cell_of_row _ _ 2 _ _ _ HM.out
  have x3 := cell_of_row _ _ 3 _ _ _ HM.out
  go_wp2_with (rw [HE.out.1, HE.out.2])
  refine (HEN.out _ _ _ HR.out).mono ?_
  rintro e w9 ⟨rfl, hn⟩
  replace HR := Lib.hid (HR.out.stay hn)
  replace HO := Lib.hid ((hn.block _ (lt_of_block HO.out)).trans HO.out)
  replace HM := Lib.hid ((hn.block _ (lt_of_block HM.out)).trans HM.out)
  replace HN := Lib.hid (HN.out.trans hn)
  clear hn HE x0 x1 x2 x3
  have z0 := cell_of_row _ _ 0 _ _ _ HO.out
  have z1 := cell_of_row _ _ 1 _ _ _ HO.out
  have zf := fun i => frozen_of_row _ _ i _ _ HO.out
  go_wp2
  refine bodyPost_ret (by simp [results, Try.results69, go_sem, z0, z1]; try rfl) rfl ?_
  exact ⟨rfl, (HN.out.setCell (by show w.heap.size ≤ w.heap.size; omega) _).setCell (by show w.heap.size ≤ w.heap.size; omega) _⟩
theorem start_31 (sd : BitVec 32) (w : World) : Calls Try.prog 122 #[.int .u32 (W32 sd)] w fun e w' => e = .returned (.agg #[.int .u64 (W64 ((start31 sd).1)), .int .u64 (W64 ((start31 sd).2))]) ∧ New w w' := by
  unfold start31
  go_enter Try.func122, Try.ntmps122
  go_wp2
  go_returns
  exact ⟨rfl, (New.refl w).alloc _⟩
theorem joined_31 (p q : BitVec 64) (w : World) : Calls Try.prog 161 #[.agg #[.int .u64 (W64 p), .int .u64 (W64 q)]] w fun e w' => e = .returned (.agg #[.int .u64 (W64 (p + q)), .int .u64 (W64 (q + (p + q)))]) ∧ New w w' := by
  go_enter Try.func161, Try.ntmps161
  go_wp2
  go_returns
  exact ⟨rfl, ((New.refl w).alloc _).alloc _⟩
end Go.Proofs.Ytegibnffingciaa
