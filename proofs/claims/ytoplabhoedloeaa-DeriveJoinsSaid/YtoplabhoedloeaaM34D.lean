/- Layer 34: the document's own End, One. -/
import Derived.Test.YtoplabhoedloeaaM34E
import Derived.Test.YtoplabhoedloeaaM34N6
import Derived.Test.YtoplabhoedloeaaM34N7
import Derived.Test.YtoplabhoedloeaaM34N8
import Derived.Defers
import Derived.Recover
import Derived.Laws.Pointers
import Derived.Handy
import Derived.Laws.EntriesVeiled
namespace Go.Proofs.Ytoplabhoedloeaa
open Go.RowKit Go.Bv
set_option linter.unusedVariables false
theorem end_ref34 (sd : Sd34) (s : BitVec 64 × BitVec 64 × BitVec 64 × BitVec 64) (a : Option Addr) (n c : Nat) (tl : List (BitVec 8)) (hl : n < 8) (lg : BitVec 64) (w : World) (h : BRow w a n c tl) :
    Calls Try.prog 33 #[.int .i64 sd.kind, .agg #[.int .u64 (W64 sd.key.1), .int .u64 (W64 sd.key.2)], .agg #[.int .u64 (W64 (s.1)), .int .u64 (W64 (s.2.1)), .int .u64 (W64 (s.2.2.1)), .int .u64 (W64 (s.2.2.2))], .slice a n c, .int .u64 (W64 lg)] w fun e w' => e = .returned (.agg #[.int .u64 (W64 (end34 sd.kd s tl lg).2), .int .u64 (W64 (end34 sd.kd s tl lg).1)]) ∧ New w w' := by
  rcases sd.hK with ⟨h0, h1⟩ | ⟨h0, h1⟩ | ⟨h0, h1⟩ <;> rw [h0, h1]
  · exact end_ref34_6 _ _ _ rfl s a n c tl hl lg w h
  · exact end_ref34_7 _ _ _ rfl s a n c tl hl lg w h
  · exact end_ref34_8 _ _ _ rfl s a n c tl hl lg w h
set_option maxRecDepth 100000 in
set_option maxHeartbeats 2000000 in
theorem hash_ref34 (sd : Sd34) (a : Option Addr) (n c : Nat) (l : List (BitVec 8)) (w : World) (h : BRow w a n c l) :
    Calls Try.prog 22 #[.int .i64 sd.kind, .agg #[.int .u64 (W64 sd.key.1), .int .u64 (W64 sd.key.2)], .slice a n c] w fun e w' => e = .returned (.agg #[.int .u64 (W64 (hash34 sd.kd sd.key l).2), .int .u64 (W64 (hash34 sd.kd sd.key l).1)]) ∧ New w w' := by
  have HB := Lib.hid (fun w' (hn : New w w') => blocks_ref34 sd a n c l w' (h.stay hn))
  have hlen := h.len_eq
  unfold hash34
  rw [hlen]
  clear h hlen
  obtain ⟨st, h1⟩ : ∃ z, bState 8 (stp34 sd.kd) (start34 sd.kd sd.key) l = z := ⟨_, rfl⟩
  obtain ⟨tl, h2⟩ : ∃ z, bTail 8 l = z := ⟨_, rfl⟩
  rw [h1, h2] at HB
  rw [h1, h2]
  clear h1 h2
  have HEN := Lib.hid (fun (w' : World) a' c' (hr : BRow w' a' (n % 8) c' tl) => end_ref34 sd st a' (n % 8) c' tl (Nat.mod_lt _ (by decide)) (BitVec.ofNat 64 n) w' hr)
  obtain ⟨hh, hhe⟩ : ∃ z, end34 sd.kd st tl (BitVec.ofNat 64 n) = z := ⟨_, rfl⟩
  rw [hhe] at HEN
  rw [hhe]
  clear hhe
  have HIS := Lib.hid (is_yes34 sd)
  have HZ := Lib.hid (two_blocks w (.cells #[.int .u64 (W64 sd.key.1), .int .u64 (W64 sd.key.2)] 24) (.cells #[.int .u64 0, .int .u64 0] 24))
  have HKY := Lib.hid HZ.out.1
  have HO := Lib.hid HZ.out.2.1
  have HN := Lib.hid HZ.out.2.2
  clear HZ
  go_enter Try.func22, Try.ntmps22
  go_wp2_with fail
  refine (HIS.out _).mono ?_
  rintro e w9 ⟨rfl, rfl⟩
  have k0 := cell_of_row _ _ 0 _ _ _ HKY.out
  have k1 := cell_of_row _ _ 1 _ _ _ HKY.out
  go_wp2_with fail
  refine (HB.out _ HN.out).mono ?_
  rintro e w9 ⟨a2, c2, rfl, hr, hn⟩
  have HR := Lib.hid hr
  clear k0 k1 HB HIS
  replace HKY := Lib.hid ((hn.block _ (lt_of_block HKY.out)).trans HKY.out)
  replace HO := Lib.hid ((hn.block _ (lt_of_block HO.out)).trans HO.out)
  replace HN := Lib.hid (HN.out.trans hn)
  clear hn hr
  have hx := heap_alloc_new w9 (.cells #[.int .u64 (W64 (st.1)), .int .u64 (W64 (st.2.1)), .int .u64 (W64 (st.2.2.1)), .int .u64 (W64 (st.2.2.2))] 57)
  have hn2 := (New.refl w9).alloc (.cells #[.int .u64 (W64 (st.1)), .int .u64 (W64 (st.2.1)), .int .u64 (W64 (st.2.2.1)), .int .u64 (W64 (st.2.2.2))] 57)
  obtain ⟨qHM, hq⟩ : ∃ q, w9.heap.size = q := ⟨_, rfl⟩
  have hle := HN.out.le
  rw [hq] at hx hle
  have hw0 := And.intro (rfl : w9.alloc (.cells #[.int .u64 (W64 (st.1)), .int .u64 (W64 (st.2.1)), .int .u64 (W64 (st.2.2.1)), .int .u64 (W64 (st.2.2.2))] 57) = w9.alloc (.cells #[.int .u64 (W64 (st.1)), .int .u64 (W64 (st.2.1)), .int .u64 (W64 (st.2.2.1)), .int .u64 (W64 (st.2.2.2))] 57)) hq
  generalize hw2 : w9.alloc (.cells #[.int .u64 (W64 (st.1)), .int .u64 (W64 (st.2.1)), .int .u64 (W64 (st.2.2.1)), .int .u64 (W64 (st.2.2.2))] 57) = w10 at hx hn2 hw0
  have HE := Lib.hid (show w9.alloc (.cells #[.int .u64 (W64 (st.1)), .int .u64 (W64 (st.2.1)), .int .u64 (W64 (st.2.2.1)), .int .u64 (W64 (st.2.2.2))] 57) = w10 ∧ w9.heap.size = qHM from ⟨hw2, hq⟩)
  clear hw0 hw2
  replace HR := Lib.hid (HR.out.stay hn2)
  replace HKY := Lib.hid ((hn2.block _ (lt_of_block HKY.out)).trans HKY.out)
  replace HO := Lib.hid ((hn2.block _ (lt_of_block HO.out)).trans HO.out)
  replace HN := Lib.hid (HN.out.trans hn2)
  have HM := Lib.hid hx
  have HLHM := Lib.hid hle
  clear hx hn2 hq hle
  have x0 := cell_of_row _ _ 0 _ _ _ HM.out
  have x1 := cell_of_row _ _ 1 _ _ _ HM.out
  have x2 := cell_of_row _ _ 2 _ _ _ HM.out
  have x3 := cell_of_row _ _ 3 _ _ _ HM.out
  have k0 := cell_of_row _ _ 0 _ _ _ HKY.out
  have k1 := cell_of_row _ _ 1 _ _ _ HKY.out
  go_wp2_with (rw [HE.out.1, HE.out.2])
  refine (HEN.out _ _ _ HR.out).mono ?_
  rintro e w9 ⟨rfl, hn⟩
  replace HR := Lib.hid (HR.out.stay hn)
  replace HKY := Lib.hid ((hn.block _ (lt_of_block HKY.out)).trans HKY.out)
  replace HO := Lib.hid ((hn.block _ (lt_of_block HO.out)).trans HO.out)
  replace HM := Lib.hid ((hn.block _ (lt_of_block HM.out)).trans HM.out)
  replace HN := Lib.hid (HN.out.trans hn)
  clear hn HE x0 x1 x2 x3 k0 k1 HEN
  have z0 := cell_of_row _ _ 0 _ _ _ HO.out
  have z1 := cell_of_row _ _ 1 _ _ _ HO.out
  have zf := fun i => frozen_of_row _ _ i _ _ HO.out
  go_wp2
  refine bodyPost_ret (by simp [results, Try.results22, go_sem, z0, z1]; try rfl) rfl ?_
  exact ⟨rfl, ((HN.out.setCell (by show w.heap.size ≤ w.heap.size + 1; omega) _).setCell (by show w.heap.size ≤ w.heap.size + 1; omega) _)⟩
set_option maxHeartbeats 1000000 in
theorem hash_no34 (k : Int) (hk : ¬ (6 ≤ k ∧ k ≤ 8)) (kh kl : BitVec 64) (v : Value) (w : World) :
    Calls Try.prog 22 #[.int .i64 k, .agg #[.int .u64 (W64 kh), .int .u64 (W64 kl)], v] w fun e w' => e = .returned (.agg #[.int .u64 0, .int .u64 0]) ∧ New w w' := by
  have HZ := Lib.hid (two_blocks w (.cells #[.int .u64 (W64 kh), .int .u64 (W64 kl)] 24) (.cells #[.int .u64 0, .int .u64 0] 24))
  have HO := Lib.hid HZ.out.2.1
  have HN := Lib.hid HZ.out.2.2
  have HIS := Lib.hid (is_no34 k hk)
  clear HZ hk
  go_enter Try.func22, Try.ntmps22
  go_wp2_with fail
  refine (HIS.out _).mono ?_
  rintro e w9 ⟨rfl, rfl⟩
  have z0 := cell_of_row _ _ 0 _ _ _ HO.out
  have z1 := cell_of_row _ _ 1 _ _ _ HO.out
  have zf := fun i => frozen_of_row _ _ i _ _ HO.out
  go_wp2
  refine bodyPost_ret (by simp [results, Try.results22, go_sem, z0, z1]; try rfl) rfl ?_
  first | exact ⟨rfl, ((HN.out.setCell (by show w.heap.size ≤ w.heap.size + 1; omega) _).setCell (by show w.heap.size ≤ w.heap.size + 1; omega) _)⟩ | exact ⟨rfl, HN.out⟩
end Go.Proofs.Ytoplabhoedloeaa
