/- Layer 30: the document's own Blocks, One, Right. -/
import Derived.Test.YtnapogamcohfaaaM30E
import Derived.Defers
import Derived.Recover
import Derived.Laws.Pointers
import Derived.Handy
import Derived.Laws.EntriesVeiled
import Derived.LoopN
namespace Go.Proofs.Ytnapogamcohfaaa
open Go.RowKit Go.Bv
set_option linter.unusedVariables false
set_option maxRecDepth 100000 in
set_option maxHeartbeats 1000000 in
theorem blocks_ref30 (sd : BitVec 32) (a : Option Addr) (n c : Nat) (l : List (BitVec 8)) (w : World) (h : BRow w a n c l) :
    Calls Try.prog 16 #[.int .u32 (W32 sd), .slice a n c] w fun e w' => ∃ a' c', e = .returned (.tuple #[.agg #[.int .u64 (W64 ((bState 16 stp30 (start30 sd) l).1.setWidth 64)), .int .u64 (W64 ((bState 16 stp30 (start30 sd) l).2.1.setWidth 64)), .int .u64 (W64 ((bState 16 stp30 (start30 sd) l).2.2.1.setWidth 64)), .int .u64 (W64 ((bState 16 stp30 (start30 sd) l).2.2.2.setWidth 64))], .slice a' (n % 16 : Nat) c']) ∧ BRow w' a' (n % 16) c' (bTail 16 l) ∧ New w w' := by
  have HF := Lib.hid (fun w' (hn : New w w') => from_ref30 (start30 sd) a n c l w' (h.stay hn))
  have HZ := Lib.hid (heap_alloc_new w (.cells #[.int .u64 0, .int .u64 0, .int .u64 0, .int .u64 0] 38))
  obtain ⟨st, h1⟩ : ∃ z, bState 16 stp30 (start30 sd) l = z := ⟨_, rfl⟩
  obtain ⟨tl, h2⟩ : ∃ z, bTail 16 l = z := ⟨_, rfl⟩
  rw [h1, h2] at HF
  rw [h1, h2]
  clear h h1 h2
  unfold start30 at HF
  simp only at HF
  go_enter Try.func16, Try.ntmps16
  go_wp2_with fail
  refine (HF.out _ ((New.refl w).alloc _)).mono ?_
  rintro e w9 ⟨a2, c2, rfl, hr, hn⟩
  have HR := Lib.hid hr
  have HO := Lib.hid ((hn.block _ (lt_of_block HZ.out)).trans HZ.out)
  have HN := Lib.hid (((New.refl w).alloc _).trans hn)
  clear hr hn HF HZ
  have z0 := cell_of_row _ _ 0 _ _ _ HO.out
  have z1 := cell_of_row _ _ 1 _ _ _ HO.out
  have z2 := cell_of_row _ _ 2 _ _ _ HO.out
  have z3 := cell_of_row _ _ 3 _ _ _ HO.out
  have zf := fun i => frozen_of_row _ _ i _ _ HO.out
  go_wp2
  refine bodyPost_ret (by simp [results, Try.results16, go_sem, z0, z1, z2, z3]; try rfl) rfl ?_
  have hq : ∀ i, w.heap.size ≤ (⟨w.heap.size, i, none⟩ : Addr).block := fun i => Nat.le_refl _
  have hnb : NoBytes w9 w.heap.size := ⟨_, _, _, HO.out, by simp⟩
  refine ⟨a2, c2, rfl, HR.out.buts (((((But.refl w.heap.size w9).setCell (p := ⟨w.heap.size, 0, none⟩) rfl _).setCell (p := ⟨w.heap.size, 1, none⟩) rfl _).setCell (p := ⟨w.heap.size, 2, none⟩) rfl _).setCell (p := ⟨w.heap.size, 3, none⟩) rfl _) hnb, ?_⟩
  exact (((HN.out.setCell (hq 0) _).setCell (hq 1) _).setCell (hq 2) _).setCell (hq 3) _
set_option maxRecDepth 100000 in
set_option maxHeartbeats 1000000 in
theorem hash_ref30 (sd : BitVec 32) (a : Option Addr) (n c : Nat) (l : List (BitVec 8)) (w : World) (h : BRow w a n c l) :
    Calls Try.prog 9 #[.int .u32 (W32 sd), .slice a n c] w fun e w' => e = .returned (.agg #[.int .u64 (W64 (hash30 sd l).2), .int .u64 (W64 (hash30 sd l).1)]) ∧ New w w' := by
  have HB := Lib.hid (fun w' (hn : New w w') => blocks_ref30 sd a n c l w' (h.stay hn))
  have HZ := Lib.hid (heap_alloc_new w (.cells #[.int .u64 0, .int .u64 0] 27))
  have hlen := h.len_eq
  unfold hash30
  rw [hlen]
  clear h hlen
  obtain ⟨st, h1⟩ : ∃ z, bState 16 stp30 (start30 sd) l = z := ⟨_, rfl⟩
  obtain ⟨tl, h2⟩ : ∃ z, bTail 16 l = z := ⟨_, rfl⟩
  rw [h1, h2] at HB
  rw [h1, h2]
  clear h1 h2
  have HEN := Lib.hid (fun (w' : World) a' c' (hr : BRow w' a' (n % 16) c' tl) => end_ref30 (.int .u32 (W32 sd)) st a' (n % 16) c' tl (BitVec.ofNat 64 n) w' hr)
  obtain ⟨hh, hhe⟩ : ∃ z, end30 st tl (BitVec.ofNat 64 n) = z := ⟨_, rfl⟩
  rw [hhe] at HEN
  rw [hhe]
  clear hhe
  go_enter Try.func9, Try.ntmps9
  go_wp2_with fail
  refine (HB.out _ ((New.refl w).alloc _)).mono ?_
  rintro e w9 ⟨a2, c2, rfl, hr, hn⟩
  have HO := Lib.hid ((hn.block _ (lt_of_block HZ.out)).trans HZ.out)
  have HN := Lib.hid (((New.refl w).alloc _).trans hn)
  have HR := Lib.hid hr
  clear hr hn HB HZ
  have hx := heap_alloc_new w9 (.cells #[.int .u64 (W64 ((st).1.setWidth 64)), .int .u64 (W64 ((st).2.1.setWidth 64)), .int .u64 (W64 ((st).2.2.1.setWidth 64)), .int .u64 (W64 ((st).2.2.2.setWidth 64))] 38)
  have hn2 := (New.refl w9).alloc (.cells #[.int .u64 (W64 ((st).1.setWidth 64)), .int .u64 (W64 ((st).2.1.setWidth 64)), .int .u64 (W64 ((st).2.2.1.setWidth 64)), .int .u64 (W64 ((st).2.2.2.setWidth 64))] 38)
  obtain ⟨qHM, hq⟩ : ∃ q, w9.heap.size = q := ⟨_, rfl⟩
  have hle := HN.out.le
  rw [hq] at hx hle
  have hw0 := And.intro (rfl : w9.alloc (.cells #[.int .u64 (W64 ((st).1.setWidth 64)), .int .u64 (W64 ((st).2.1.setWidth 64)), .int .u64 (W64 ((st).2.2.1.setWidth 64)), .int .u64 (W64 ((st).2.2.2.setWidth 64))] 38) = w9.alloc (.cells #[.int .u64 (W64 ((st).1.setWidth 64)), .int .u64 (W64 ((st).2.1.setWidth 64)), .int .u64 (W64 ((st).2.2.1.setWidth 64)), .int .u64 (W64 ((st).2.2.2.setWidth 64))] 38)) hq
  generalize hw2 : w9.alloc (.cells #[.int .u64 (W64 ((st).1.setWidth 64)), .int .u64 (W64 ((st).2.1.setWidth 64)), .int .u64 (W64 ((st).2.2.1.setWidth 64)), .int .u64 (W64 ((st).2.2.2.setWidth 64))] 38) = w10 at hx hn2 hw0
  have HE := Lib.hid (show w9.alloc (.cells #[.int .u64 (W64 ((st).1.setWidth 64)), .int .u64 (W64 ((st).2.1.setWidth 64)), .int .u64 (W64 ((st).2.2.1.setWidth 64)), .int .u64 (W64 ((st).2.2.2.setWidth 64))] 38) = w10 ∧ w9.heap.size = qHM from ⟨hw2, hq⟩)
  clear hw0 hw2
  replace HR := Lib.hid (HR.out.stay hn2)
  replace HO := Lib.hid ((hn2.block _ (lt_of_block HO.out)).trans HO.out)
  replace HN := Lib.hid (HN.out.trans hn2)
  have HM := Lib.hid hx
  have HLHM := Lib.hid hle
  clear hx hn2 hq hle
  have x0 := cell_of_row _ _ 0 _ _ _ HM.out
  have x1 := cell_of_row _ _ 1 _ _ _ HM.out
  have x2 := cell_of_row _ _ 2 _ _ _ HM.out
  have x3 := cell_of_row _ _ 3 _ _ _ HM.out
  go_wp2_with (rw [HE.out.1, HE.out.2])
  refine (HEN.out _ _ _ HR.out).mono ?_
  rintro e w9 ⟨rfl, hn⟩
  replace HR := Lib.hid (HR.out.stay hn)
  replace HO := Lib.hid ((hn.block _ (lt_of_block HO.out)).trans HO.out)
  replace HM := Lib.hid ((hn.block _ (lt_of_block HM.out)).trans HM.out)
  replace HN := Lib.hid (HN.out.trans hn)
  clear hn HE x0 x1 x2 x3
  have z0 := cell_of_row _ _ 0 _ _ _ HO.out
  have z1 := cell_of_row _ _ 1 _ _ _ HO.out
  have zf := fun i => frozen_of_row _ _ i _ _ HO.out
  go_wp2
  refine bodyPost_ret (by simp [results, Try.results9, go_sem, z0, z1]; try rfl) rfl ?_
  exact ⟨rfl, (HN.out.setCell (by show w.heap.size ≤ w.heap.size; omega) _).setCell (by show w.heap.size ≤ w.heap.size; omega) _⟩
theorem lt32 (y : BitVec 64) : decide (W64 y < 4294967296) = ((y.setWidth 32).setWidth 64 == y) := by
  have e : (y.setWidth 32).setWidth 64 = y ↔ y.toNat < 4294967296 := by
    constructor
    · intro h
      have := congrArg BitVec.toNat h
      rw [BitVec.toNat_setWidth, BitVec.toNat_setWidth] at this
      omega
    · intro h
      apply BitVec.eq_of_toNat_eq
      rw [BitVec.toNat_setWidth, BitVec.toNat_setWidth]
      omega
  rw [Bool.eq_iff_iff, beq_iff_eq, e, decide_eq_true_iff]
  unfold W64
  omega
set_option maxRecDepth 100000 in
set_option maxHeartbeats 1000000 in
theorem right_30r (y : BitVec 64 × BitVec 64 × BitVec 64 × BitVec 64) (w : World) : Calls Try.prog 21 #[.agg #[.int .u64 (W64 y.1), .int .u64 (W64 y.2.1), .int .u64 (W64 y.2.2.1), .int .u64 (W64 y.2.2.2)]] w fun e w' => e = .returned (.bool (rgt30 y)) ∧ New w w' := by
  obtain ⟨y0, y1, y2, y3⟩ := y
  have e : rgt30 (y0, y1, y2, y3) = (decide (W64 y0 < 4294967296) && (decide (W64 y1 < 4294967296) && (decide (W64 y2 < 4294967296) && decide (W64 y3 < 4294967296)))) := by
    rw [lt32, lt32, lt32, lt32]; rfl
  rw [e]
  clear e
  have HZ := Lib.hid (heap_alloc_new w (.cells #[.int .u64 (W64 y0), .int .u64 (W64 y1), .int .u64 (W64 y2), .int .u64 (W64 y3)] 38))
  have HN := Lib.hid ((New.refl w).alloc (.cells #[.int .u64 (W64 y0), .int .u64 (W64 y1), .int .u64 (W64 y2), .int .u64 (W64 y3)] 38))
  have c0 := cell_of_row _ _ 0 _ _ _ HZ.out
  have c1 := cell_of_row _ _ 1 _ _ _ HZ.out
  have c2 := cell_of_row _ _ 2 _ _ _ HZ.out
  have c3 := cell_of_row _ _ 3 _ _ _ HZ.out
  cases h0 : decide (W64 y0 < 4294967296)
  · simp only [Bool.false_and]
    go_enter Try.func21, Try.ntmps21
    go_wp2
    go_ret
    exact ⟨rfl, HN.out⟩
  · skip
    cases h1 : decide (W64 y1 < 4294967296)
    · simp only [Bool.false_and, Bool.and_false]
      go_enter Try.func21, Try.ntmps21
      go_wp2
      go_ret
      exact ⟨rfl, HN.out⟩
    · skip
      cases h2 : decide (W64 y2 < 4294967296)
      · simp only [Bool.false_and, Bool.and_false]
        go_enter Try.func21, Try.ntmps21
        go_wp2
        go_ret
        exact ⟨rfl, HN.out⟩
      · skip
        cases h3 : decide (W64 y3 < 4294967296)
        · simp only [Bool.and_false]
          go_enter Try.func21, Try.ntmps21
          go_wp2
          go_ret
          exact ⟨rfl, HN.out⟩
        · simp only [Bool.and_self]
          go_enter Try.func21, Try.ntmps21
          go_wp2
          go_ret
          exact ⟨rfl, HN.out⟩
end Go.Proofs.Ytnapogamcohfaaa
