/- Contracts of layer 20: same, gap, limit, low, near; modn.Left. -/
import Derived.Test.YtobmgigmoppkkaaDoorMsA
import Derived.Deep.RegionHeld3
namespace Go.Bv
open Go Go.RowKit
/-- what a close multiplier's number has to be less than -/
def limM (t s : Nat) : BitVec 64 := if t ≤ s then 0#64 else 1#64 <<< (t - s)
theorem two_blocks2 (w : World) (A B : Obj) : ((w.alloc A).alloc B).heap[w.heap.size]? = some A ∧ ((w.alloc A).alloc B).heap[w.heap.size + 1]? = some B ∧ New w ((w.alloc A).alloc B) := by
  have e1 : (w.alloc A).heap.size = w.heap.size + 1 := by simp
  refine ⟨?_, ?_, ((New.refl w).alloc _).alloc _⟩
  · rw [((New.refl (w.alloc A)).alloc B).block _ (by rw [e1]; omega)]; exact heap_alloc_new _ _
  · rw [← e1]; exact heap_alloc_new _ _
/-- a number without its highest s bits -/
def lowM (m : BitVec 64) (s : Nat) : BitVec 64 := (m <<< s) >>> s
theorem diff_ne {x y : BitVec 64} (h : ¬ x = y) : ¬ x - y = 0#64 := fun e => h (calc
  x = x - y + y := (BitVec.sub_add_cancel x y).symm
  _ = 0#64 + y := by rw [e]
  _ = y := BitVec.zero_add y)
theorem tz_lt {x : BitVec 64} (h : ¬ x = 0#64) : tzN x < 64 := by
  have hx0 : x.toNat ≠ 0 := fun e => h (BitVec.eq_of_toNat_eq e)
  exact (Lib.lowest_bit 64 x.toNat hx0 x.isLt).2
end Go.Bv
namespace Go.Proofs.YtobmgigmoppkkaaDoor
open Go.RowKit Go.Bv
set_option linter.unusedVariables false
theorem same_m (x y : BitVec 64) (w : World) : Calls Tryd.prog 20 #[.agg #[.int .u64 (W64 x), .int .u64 (W64 y)]] w fun e w' => e = .returned (.bool (x == y)) ∧ New w w' := by
  have heq := equpair
  have hx := heap_alloc_new w (.cells #[.int .u64 (W64 x), .int .u64 (W64 y)] 41)
  have HN := Lib.hid ((New.refl w).alloc (.cells #[.int .u64 (W64 x), .int .u64 (W64 y)] 41))
  obtain ⟨w0, hw0⟩ : ∃ w0, w.alloc (.cells #[.int .u64 (W64 x), .int .u64 (W64 y)] 41) = w0 := ⟨_, rfl⟩
  rw [hw0] at HN hx
  have HW0 := Lib.hid hw0
  have x0 := cell_of_row _ _ 0 _ _ _ hx
  have x1 := cell_of_row _ _ 1 _ _ _ hx
  have HX := Lib.hid hx
  clear hw0 hx
  by_cases h : x = y
  · subst h
    rw [show (x == x) = true by simp]
    go_enter Tryd.func20, Tryd.ntmps20
    go_wp2_with (rw [HW0.out])
    go_ret
    exact ⟨rfl, HN.out⟩
  · have z1 : (x == y) = false := beq_false_of_ne h
    rw [z1]
    clear h
    go_enter Tryd.func20, Tryd.ntmps20
    go_wp2_with (rw [HW0.out])
    go_ret
    exact ⟨rfl, HN.out⟩
theorem left_d (x : BitVec 64) (hx : ¬ x = 0#64) (w : World) (ht : TabD w) : Calls Tryd.prog 27 #[.int .u64 (W64 x)] w fun e w' => e = .returned (.tuple #[.int .u64 (W64 (x >>> tzN x)), .int .i64 ((tzN x : Nat) : Int)]) ∧ w' = w := by
  have HT := Lib.hid (tz_d x hx w ht)
  generalize tzN x = s at *
  clear hx ht
  go_enter Tryd.func27, Tryd.ntmps27
  go_wp2_with fail
  refine HT.out.mono ?_
  rintro e w1 ⟨rfl, rfl⟩
  go_wp2
  go_returns
  exact ⟨rfl, rfl⟩
theorem gap_d (x y : BitVec 64) (h : ¬ x = y) (w : World) (ht : TabD w) : Calls Tryd.prog 23 #[.agg #[.int .u64 (W64 x), .int .u64 (W64 y)]] w fun e w' => e = .returned (.tuple #[.int .u64 (W64 ((x - y) >>> tzN (x - y))), .int .i64 ((tzN (x - y) : Nat) : Int)]) ∧ New w w' := by
  have hx := heap_alloc_new w (.cells #[.int .u64 (W64 x), .int .u64 (W64 y)] 41)
  have HN := Lib.hid ((New.refl w).alloc (.cells #[.int .u64 (W64 x), .int .u64 (W64 y)] 41))
  obtain ⟨w0, hw0⟩ : ∃ w0, w.alloc (.cells #[.int .u64 (W64 x), .int .u64 (W64 y)] 41) = w0 := ⟨_, rfl⟩
  rw [hw0] at HN hx
  have HW0 := Lib.hid hw0
  have x0 := cell_of_row _ _ 0 _ _ _ hx
  have x1 := cell_of_row _ _ 1 _ _ _ hx
  have HX := Lib.hid hx
  clear hw0 hx
  have HL := Lib.hid (left_d (x - y) (diff_ne h) w0 (ht.stay HN.out))
  clear h ht
  generalize (x - y) >>> tzN (x - y) = d at *
  generalize tzN (x - y) = s at *
  go_enter Tryd.func23, Tryd.ntmps23
  go_wp2_with (rw [HW0.out])
  refine HL.out.mono ?_
  rintro e w1 ⟨rfl, rfl⟩
  go_wp2
  go_returns
  exact ⟨rfl, HN.out⟩
theorem limit_d (x y : BitVec 64) (h : ¬ x = y) (j t : Nat) (hjt : j + t = 64) (w : World) (ht : TabD w) : Calls Tryd.prog 25 #[.agg #[.int .u64 (W64 x), .int .u64 (W64 y)], .int .i64 (j : Int)] w fun e w' => e = .returned (.int .u64 (W64 (limM t (tzN (x - y))))) ∧ New w w' := by
  have hb := bits_less hjt
  have hs := tz_lt (diff_ne h)
  have hx := heap_alloc_new w (.cells #[.int .u64 (W64 x), .int .u64 (W64 y)] 41)
  have HN := Lib.hid ((New.refl w).alloc (.cells #[.int .u64 (W64 x), .int .u64 (W64 y)] 41))
  obtain ⟨w0, hw0⟩ : ∃ w0, w.alloc (.cells #[.int .u64 (W64 x), .int .u64 (W64 y)] 41) = w0 := ⟨_, rfl⟩
  rw [hw0] at HN hx
  have HW0 := Lib.hid hw0
  have x0 := cell_of_row _ _ 0 _ _ _ hx
  have x1 := cell_of_row _ _ 1 _ _ _ hx
  have HX := Lib.hid hx
  clear hw0 hx
  have HG := Lib.hid (gap_d x y h w0 (ht.stay HN.out))
  clear h ht
  unfold limM
  generalize (x - y) >>> tzN (x - y) = d at *
  generalize tzN (x - y) = s at *
  by_cases hts : t ≤ s
  · rw [if_pos hts]
    clear hjt
    go_enter Tryd.func25, Tryd.ntmps25
    go_wp2_with (rw [HW0.out])
    refine HG.out.mono ?_
    rintro e w1 ⟨rfl, hn⟩
    replace HN := Lib.hid (HN.out.trans hn)
    clear hn
    go_wp2
    go_ret
    exact ⟨rfl, HN.out⟩
  · rw [if_neg hts]
    have hw : wrap64 ((t : Int) - (s : Int)) = ((t - s : Nat) : Int) := by unfold wrap64; omega
    clear hjt
    go_enter Tryd.func25, Tryd.ntmps25
    go_wp2_with (rw [HW0.out])
    refine HG.out.mono ?_
    rintro e w1 ⟨rfl, hn⟩
    replace HN := Lib.hid (HN.out.trans hn)
    clear hn
    go_wp2
    go_ret
    exact ⟨rfl, HN.out⟩
theorem low_m (m : BitVec 64) (s : Nat) (w : World) : Calls Tryd.prog 26 #[.int .u64 (W64 m), .int .i64 (s : Int)] w fun e w' => e = .returned (.int .u64 (W64 (lowM m s))) ∧ w' = w := by
  unfold lowM
  go_enter Tryd.func26, Tryd.ntmps26
  go_wp2
  go_ret
  exact ⟨rfl, rfl⟩
end Go.Proofs.YtobmgigmoppkkaaDoor
