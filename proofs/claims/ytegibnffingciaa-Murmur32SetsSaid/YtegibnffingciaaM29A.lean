/- Layer 29: the mixer, a block, finish. -/
import Derived.Test.YtegibnffingciaaBlkG
import Derived.Test.YtegibnffingciaaTurn
import Derived.Test.YtegibnffingciaaGro3
import Derived.Test.YtegibnffingciaaLoadB
import Derived.Test.YtegibnffingciaaMixB
import Derived.Test.YtegibnffingciaaMixC
import Derived.Defers
import Derived.Recover
import Derived.Laws.Pointers
import Derived.Handy
import Derived.Laws.EntriesVeiled
namespace Go.Proofs.Ytegibnffingciaa
open Go.RowKit Go.Bv
set_option linter.unusedVariables false
def word29 (k : BitVec 32) : BitVec 32 := (k * 3432918353#32).rotateLeft 15 * 461845907#32
def in29 (h k : BitVec 32) : BitVec 32 := h ^^^ word29 k
def mm29 (h k : BitVec 32) : BitVec 32 := (in29 h k).rotateLeft 13 * 5#32 + 3864292196#32
/-- a block -/
def stp29 (s : BitVec 32) (l : List (BitVec 8)) : BitVec 32 := mm29 s ((rd l 0 4).setWidth 32)
theorem num_low (f : Nat → BitVec 8) (m : Nat) : (num f (m + 4)).setWidth 32 = (num f 4).setWidth 32 := by
  simp only [num]
  generalize num (fun i => f (i + 1 + 1 + 1 + 1)) m = x
  apply BitVec.eq_of_toNat_eq
  have h0 := (f 0).isLt
  have h1 := (f (0 + 1)).isLt
  have h2 := (f (0 + 1 + 1)).isLt
  have h3 := (f (0 + 1 + 1 + 1)).isLt
  have hx := x.isLt
  simp only [BitVec.toNat_setWidth, BitVec.toNat_add, BitVec.toNat_mul, BitVec.toNat_ofNat]
  generalize (f 0).toNat = b0 at *
  generalize (f (0 + 1)).toNat = b1 at *
  generalize (f (0 + 1 + 1)).toNat = b2 at *
  generalize (f (0 + 1 + 1 + 1)).toNat = b3 at *
  generalize x.toNat = y at *
  omega
theorem tail29 (l : List (BitVec 8)) (n : Nat) (h : l.length = n) : (num (fun i => l.getD i 0) (min n 8)).setWidth 32 = (rd l 0 4).setWidth 32 := by
  have e : (fun i => l.getD i 0) = fun i => l.getD (0 + i) 0 := by funext i; rw [Nat.zero_add]
  unfold rd
  rw [e]
  by_cases h4 : 4 ≤ min n 8
  · rw [show min n 8 = (min n 8 - 4) + 4 by omega, num_low]
  · rw [num_short (fun i => l.getD (0 + i) 0) (min n 8) 4 (by omega) (fun i h1 h2 => ?_)]
    have : n ≤ i := by omega
    simp [List.getD_eq_getElem?_getD, List.getElem?_eq_none (show l.length ≤ i by omega)]
theorem rot32_n (y : BitVec 32) (n : Nat) (hn : n < 32) (w : World) : Calls Try.prog 143 #[.int .u32 (W32 y), .int .i64 n] w fun e w' => e = .returned (.int .u32 (W32 (y.rotateLeft n))) ∧ w' = w := by
  have h := rot32_any (W32 y) (b32 _) n w
  rw [ofInt_W32, show ((n : Int) % 32).toNat = n by omega] at h
  exact h
theorem rot32r_n (y : BitVec 32) (n : Nat) (hn : n < 32) (w : World) : Calls Try.prog 148 #[.int .u32 (W32 y), .int .i64 n] w fun e w' => e = .returned (.int .u32 (W32 (y.rotateLeft n))) ∧ w' = w := by
  have h := rot32_ref (W32 y) (b32 _) n (by omega) w
  rw [ofInt_W32, show ((n : Int) % 32).toNat = n by omega] at h
  exact h
theorem fmix32r_n (y : BitVec 32) (w : World) : Calls Try.prog 103 #[.int .u32 (W32 y)] w fun e w' => e = .returned (.int .u32 (W32 (fmix32 y))) ∧ w' = w := by
  have h := fmix32_ref (W32 y) (b32 _) w
  rw [ofInt_W32] at h
  exact h
theorem fmix32_n (y : BitVec 32) (w : World) : Calls Try.prog 146 #[.int .u32 (W32 y)] w fun e w' => e = .returned (.int .u32 (W32 (fmix32 y))) ∧ New w w' := by
  have h := fmix32_any (W32 y) (b32 _) w w (New.refl w)
  rw [ofInt_W32] at h
  exact h
set_option maxRecDepth 100000 in
set_option maxHeartbeats 1000000 in
theorem in_29 (h k : BitVec 32) (w : World) : Calls Try.prog 144 #[.agg #[.int .u32 3432918353, .int .u32 461845907, .int .u32 3864292196], .int .u32 (W32 h), .int .u32 (W32 k)] w fun e w' => e = .returned (.int .u32 (W32 (in29 h k))) ∧ New w w' := by
  have HZ := Lib.hid (heap_alloc_new w (.cells #[.int .u32 3432918353, .int .u32 461845907, .int .u32 3864292196] 91))
  have HR := Lib.hid (fun w => rot32_n (k * 3432918353#32) 15 (by decide) w)
  unfold in29 word29
  generalize (k * 3432918353#32).rotateLeft 15 = rr at *
  go_enter Try.func144, Try.ntmps144
  go_wp2_with fail
  refine Gro3.wp_region_gro3S (fun w' => w'.heap[w.heap.size]? = some (.cells #[.int .u32 3432918353, .int .u32 461845907, .int .u32 3864292196] 91 (0, 0)) ∧ New (w.alloc (.cells #[.int .u32 3432918353, .int .u32 461845907, .int .u32 3864292196] 91)) w') (fun w' => w'.heap[w.heap.size]? = some (.cells #[.int .u32 3432918353, .int .u32 461845907, .int .u32 3864292196] 91 (0, 0)) ∧ New (w.alloc (.cells #[.int .u32 3432918353, .int .u32 461845907, .int .u32 3864292196] 91)) w') [0, 0, 0, 1, 0, 2, 0, 1, 0, 0, 0] New (fun _ _ _ => True) (by kernel_rfl) (by kernel_rfl) (by kernel_rfl) (fun _ _ _ _ _ _ => trivial) (fun w' hw' => hw') (⟨HZ.out, (New.refl _).drew⟩) ?_
  intro I J _ _ f g hfa hba hgb hbb
  have HFA := Lib.hid hfa
  have HBA := Lib.hid hba
  have HGB := Lib.hid hgb
  have HBB := Lib.hid hbb
  have s0 := fun n => cell_of_row _ _ 0 _ _ _ (hgb n).1
  have s1 := fun n => cell_of_row _ _ 1 _ _ _ (hgb n).1
  have s2 := fun n => cell_of_row _ _ 2 _ _ _ (hgb n).1
  clear hfa hba hgb hbb
  refine Gro3.take0 3 (by kernel_rfl) ?_
  simp only [List.take, List.drop, List.length]
  repeat (go_big_quiet_step (fail))
  refine wpQuiet_nil ?_
  refine Gro3.take1 1 (by kernel_rfl) ?_
  simp only [List.take, List.drop, List.length]
  repeat (go_big_quiet_step (fail))
  refine wpQuiet_nil ?_
  refine Gro3.take0 1 (by kernel_rfl) ?_
  simp only [List.take, List.drop, List.length]
  repeat (go_big_quiet_step (fail))
  refine wpQuiet_nil ?_
  refine Gro3.callt (fun v => v = .int .u32 (W32 rr)) (fun _ _ => True) rfl rfl (⟨_, rfl⟩) (fun _ _ _ _ _ => trivial) (fun w1 hB hG => ?_) (fun v1 A1 hv1 hA => ?_)
  · obtain ⟨nq, rfl⟩ := hB
    clear s0 s1 s2
    go_simp
    refine (HR.out _).mono ?_
    rintro e w2 ⟨rfl, rfl⟩
    have hn := New.refl (g nq)
    have HX := HBB.out _ ⟨(hn.block _ (lt_of_block (HGB.out nq).1)).trans (HGB.out nq).1, (HGB.out nq).2.trans hn⟩
    first | exact ⟨_, rfl, HX, hn, rfl⟩ | exact ⟨_, rfl, HX, hn, rfl, trivial⟩ | exact ⟨rfl, HX, hn⟩ | exact ⟨HX, hn, rfl⟩ | exact ⟨HX, hn⟩
  simp [Act.put] at hA
  subst hA
  obtain rfl := hv1
  refine Gro3.take0 1 (by kernel_rfl) ?_
  simp only [List.take, List.drop, List.length]
  repeat (go_big_quiet_step (fail))
  refine wpQuiet_nil ?_
  refine Gro3.take1 1 (by kernel_rfl) ?_
  simp only [List.take, List.drop, List.length]
  repeat (go_big_quiet_step (fail))
  refine wpQuiet_nil ?_
  refine Gro3.take0 3 (by kernel_rfl) ?_
  simp only [List.take, List.drop, List.length]
  repeat (go_big_quiet_step (fail))
  refine wpQuiet_nil ?_
  refine Gro3.nil ?_
  rintro w9 ⟨n9, rfl⟩ hG
  have hn := (HGB.out n9).2
  clear HFA HBA HGB HBB s0 s1 s2
  have HN := Lib.hid (((New.refl w).alloc _).trans hn)
  clear hn hG
  generalize g n9 = w9 at *
  go_wp2
  go_ret
  exact ⟨rfl, HN.out⟩
set_option maxRecDepth 100000 in
set_option maxHeartbeats 1000000 in
theorem step_29 (s : BitVec 32) (a : Option Addr) (cap : Nat) (l : List (BitVec 8)) (w : World) (h : BRow w a 4 cap l) :
    Calls Try.prog 89 #[.agg #[.int .u32 3432918353, .int .u32 461845907, .int .u32 3864292196], .int .u32 (W32 s), .slice a 4 cap] w fun e w' => e = .returned (.int .u32 (W32 (stp29 s l))) ∧ New w w' := by
  obtain ⟨b, off, rfl, _⟩ := h.addr (by omega)
  have HL := Lib.hid (fun w' (hn : New w w') => le32_yes b off 4 cap 0 l w' (h.stay hn) (by omega))
  clear h
  unfold stp29 mm29
  generalize (rd l 0 4).setWidth 32 = k at *
  have HI := Lib.hid (in_29 s k)
  generalize in29 s k = ii at *
  have HR := Lib.hid (fun w => rot32_n ii 13 (by decide) w)
  generalize ii.rotateLeft 13 = rr at *
  have HZ := Lib.hid (heap_alloc_new w (.cells #[.int .u32 3432918353, .int .u32 461845907, .int .u32 3864292196] 91))
  go_enter Try.func89, Try.ntmps89
  go_wp2_with fail
  refine (HL.out _ ((New.refl w).alloc _)).mono ?_
  rintro e w9 ⟨rfl, rfl⟩
  go_wp2_with fail
  refine Gro3.wp_region_gro3S (fun w' => w'.heap[w.heap.size]? = some (.cells #[.int .u32 3432918353, .int .u32 461845907, .int .u32 3864292196] 91 (0, 0)) ∧ New (w.alloc (.cells #[.int .u32 3432918353, .int .u32 461845907, .int .u32 3864292196] 91)) w') (fun w' => w'.heap[w.heap.size]? = some (.cells #[.int .u32 3432918353, .int .u32 461845907, .int .u32 3864292196] 91 (0, 0)) ∧ New (w.alloc (.cells #[.int .u32 3432918353, .int .u32 461845907, .int .u32 3864292196] 91)) w') [1, 0, 0, 2, 2, 0, 0, 1, 0, 0] New (fun _ _ _ => True) (by kernel_rfl) (by kernel_rfl) (by kernel_rfl) (fun _ _ _ _ _ _ => trivial) (fun w' hw' => hw') (⟨HZ.out, (New.refl _).drew⟩) ?_
  intro I J _ _ f g hfa hba hgb hbb
  have HFA := Lib.hid hfa
  have HBA := Lib.hid hba
  have HGB := Lib.hid hgb
  have HBB := Lib.hid hbb
  have s0 := fun n => cell_of_row _ _ 0 _ _ _ (hgb n).1
  have s1 := fun n => cell_of_row _ _ 1 _ _ _ (hgb n).1
  have s2 := fun n => cell_of_row _ _ 2 _ _ _ (hgb n).1
  clear hfa hba hgb hbb
  refine Gro3.take1 1 (by kernel_rfl) ?_
  simp only [List.take, List.drop, List.length]
  repeat (go_big_quiet_step (fail))
  refine wpQuiet_nil ?_
  refine Gro3.take0 2 (by kernel_rfl) ?_
  simp only [List.take, List.drop, List.length]
  repeat (go_big_quiet_step (fail))
  refine wpQuiet_nil ?_
  refine Gro3.callt (fun v => v = .int .u32 (W32 ii)) (fun _ _ => True) rfl rfl (⟨_, rfl⟩) (fun _ _ _ _ _ => trivial) (fun w1 hB hG => ?_) (fun v1 A1 hv1 hA => ?_)
  · obtain ⟨nq, rfl⟩ := hB
    clear s0 s1 s2
    go_simp
    refine (HI.out _).mono ?_
    rintro e w2 ⟨rfl, hn⟩
    have HX := HBB.out _ ⟨(hn.block _ (lt_of_block (HGB.out nq).1)).trans (HGB.out nq).1, (HGB.out nq).2.trans hn⟩
    first | exact ⟨_, rfl, HX, hn, rfl⟩ | exact ⟨_, rfl, HX, hn, rfl, trivial⟩ | exact ⟨rfl, HX, hn⟩ | exact ⟨HX, hn, rfl⟩ | exact ⟨HX, hn⟩
  simp [Act.put] at hA
  subst hA
  obtain rfl := hv1
  refine Gro3.callt (fun v => v = .int .u32 (W32 rr)) (fun _ _ => True) rfl rfl (⟨_, rfl⟩) (fun _ _ _ _ _ => trivial) (fun w1 hB hG => ?_) (fun v2 A2 hv2 hA => ?_)
  · obtain ⟨nq, rfl⟩ := hB
    clear s0 s1 s2
    go_simp
    refine (HR.out _).mono ?_
    rintro e w2 ⟨rfl, rfl⟩
    have hn := New.refl (g nq)
    have HX := HBB.out _ ⟨(hn.block _ (lt_of_block (HGB.out nq).1)).trans (HGB.out nq).1, (HGB.out nq).2.trans hn⟩
    first | exact ⟨_, rfl, HX, hn, rfl⟩ | exact ⟨_, rfl, HX, hn, rfl, trivial⟩ | exact ⟨rfl, HX, hn⟩ | exact ⟨HX, hn, rfl⟩ | exact ⟨HX, hn⟩
  simp [Act.put] at hA
  subst hA
  obtain rfl := hv2
  refine Gro3.take0 2 (by kernel_rfl) ?_
  simp only [List.take, List.drop, List.length]
  repeat (go_big_quiet_step (fail))
  refine wpQuiet_nil ?_
  refine Gro3.take1 1 (by kernel_rfl) ?_
  simp only [List.take, List.drop, List.length]
  repeat (go_big_quiet_step (fail))
  refine wpQuiet_nil ?_
  refine Gro3.take0 2 (by kernel_rfl) ?_
  simp only [List.take, List.drop, List.length]
  repeat (go_big_quiet_step (fail))
  refine wpQuiet_nil ?_
  refine Gro3.nil ?_
  rintro w9 ⟨n9, rfl⟩ hG
  have hn := (HGB.out n9).2
  clear HFA HBA HGB HBB s0 s1 s2
  have HN := Lib.hid (((New.refl w).alloc _).trans hn)
  clear hn hG
  generalize g n9 = w9 at *
  go_wp2
  go_ret
  exact ⟨rfl, HN.out⟩
theorem constants_29 (w : World) : Calls Try.prog 87 #[] w fun e w' => e = .returned (.agg #[.int .u32 3432918353, .int .u32 461845907, .int .u32 3864292196]) ∧ New w w' := by
  go_enter Try.func87, Try.ntmps87
  go_wp2
  go_returns
  exact ⟨rfl, (New.refl w).alloc _⟩
def end29 (s : BitVec 32) (tl : List (BitVec 8)) (long : BitVec 64) : BitVec 32 := fmix32 (in29 s ((rd tl 0 4).setWidth 32) ^^^ long.setWidth 32)
set_option maxRecDepth 100000 in
set_option maxHeartbeats 1000000 in
theorem finish_29 (s : BitVec 32) (a : Option Addr) (n c : Nat) (tl : List (BitVec 8)) (lg : BitVec 64) (w : World) (h : BRow w a n c tl) :
    Calls Try.prog 90 #[.agg #[.int .u32 3432918353, .int .u32 461845907, .int .u32 3864292196], .int .u32 (W32 s), .slice a n c, .int .u64 (W64 lg)] w fun e w' => e = .returned (.int .u32 (W32 (end29 s tl lg))) ∧ New w w' := by
  have hlen := h.len_eq
  have HT := Lib.hid (fun w' (hn : New w w') => tail_any a n c tl w' (h.stay hn))
  have ht := tail29 tl n hlen
  have hz : n = 0 → (rd tl 0 4).setWidth 32 = 0#32 := by
    intro h0
    rw [← ht, h0]; rfl
  have hw0 : in29 s 0#32 = s := by
    unfold in29 word29
    have : ((0#32 * 3432918353#32).rotateLeft 15 * 461845907#32) = 0#32 := by decide
    rw [this]; simp
  unfold end29
  generalize (rd tl 0 4).setWidth 32 = k at *
  generalize num (fun i => tl.getD i 0) (min n 8) = kk at *
  have HI := Lib.hid (in_29 s k)
  have HNI := Lib.hid (show n = 0 → in29 s k = s from fun h0 => by rw [hz h0]; exact hw0)
  clear hz hw0 h hlen
  obtain ⟨ii, hii⟩ : ∃ z, in29 s k = z := ⟨_, rfl⟩
  rw [hii] at HI HNI ⊢
  clear hii
  have HF := Lib.hid (fmix32_n (ii ^^^ lg.setWidth 32))
  obtain ⟨ff, hff⟩ : ∃ z, fmix32 (ii ^^^ lg.setWidth 32) = z := ⟨_, rfl⟩
  rw [hff] at HF ⊢
  clear hff
  have HZ := Lib.hid (heap_alloc_new w (.cells #[.int .u32 3432918353, .int .u32 461845907, .int .u32 3864292196] 91))
  by_cases hn0 : (n : Int) > 0
  · have hn0' : (0 : Int) < (n : Int) := hn0
    go_enter Try.func90, Try.ntmps90
    go_wp2_with fail
    refine Gro3.wp_region_gro3S (fun w' => w'.heap[w.heap.size]? = some (.cells #[.int .u32 3432918353, .int .u32 461845907, .int .u32 3864292196] 91 (0, 0)) ∧ New (w.alloc (.cells #[.int .u32 3432918353, .int .u32 461845907, .int .u32 3864292196] 91)) w') (fun w' => w'.heap[w.heap.size]? = some (.cells #[.int .u32 3432918353, .int .u32 461845907, .int .u32 3864292196] 91 (0, 0)) ∧ New (w.alloc (.cells #[.int .u32 3432918353, .int .u32 461845907, .int .u32 3864292196] 91)) w') [1, 0, 0, 2, 0, 2, 0] New (fun _ _ _ => True) (by kernel_rfl) (by kernel_rfl) (by kernel_rfl) (fun _ _ _ _ _ _ => trivial) (fun w' hw' => hw') (⟨HZ.out, (New.refl _).drew⟩) ?_
    intro I J _ _ f g hfa hba hgb hbb
    have HFA := Lib.hid hfa
    have HBA := Lib.hid hba
    have HGB := Lib.hid hgb
    have HBB := Lib.hid hbb
    have s0 := fun n => cell_of_row _ _ 0 _ _ _ (hgb n).1
    have s1 := fun n => cell_of_row _ _ 1 _ _ _ (hgb n).1
    have s2 := fun n => cell_of_row _ _ 2 _ _ _ (hgb n).1
    clear hfa hba hgb hbb
    refine Gro3.take1 1 (by kernel_rfl) ?_
    simp only [List.take, List.drop, List.length]
    repeat (go_big_quiet_step (fail))
    refine wpQuiet_nil ?_
    refine Gro3.take0 2 (by kernel_rfl) ?_
    simp only [List.take, List.drop, List.length]
    repeat (go_big_quiet_step (fail))
    refine wpQuiet_nil ?_
    refine Gro3.callt (fun v => v = .int .u64 (W64 kk)) (fun _ _ => True) rfl rfl (⟨_, rfl⟩) (fun _ _ _ _ _ => trivial) (fun w1 hB hG => ?_) (fun v1 A1 hv1 hA => ?_)
    · obtain ⟨nq, rfl⟩ := hB
      clear s0 s1 s2
      go_simp
      refine (HT.out _ (((New.refl w).alloc _).trans (HGB.out nq).2)).mono ?_
      rintro e w2 ⟨rfl, rfl⟩
      have hn := New.refl (g nq)
      have HX := HBB.out _ ⟨(hn.block _ (lt_of_block (HGB.out nq).1)).trans (HGB.out nq).1, (HGB.out nq).2.trans hn⟩
      first | exact ⟨_, rfl, HX, hn, rfl⟩ | exact ⟨_, rfl, HX, hn, rfl, trivial⟩ | exact ⟨rfl, HX, hn⟩ | exact ⟨HX, hn, rfl⟩ | exact ⟨HX, hn⟩
    simp [Act.put] at hA
    subst hA
    obtain rfl := hv1
    refine Gro3.take0 1 (by kernel_rfl) ?_
    simp only [List.take, List.drop, List.length]
    repeat (go_big_quiet_step (fail))
    refine wpQuiet_nil ?_
    refine Gro3.callt (fun v => v = .int .u32 (W32 ii)) (fun _ _ => True) rfl rfl (⟨_, rfl⟩) (fun _ _ _ _ _ => trivial) (fun w1 hB hG => ?_) (fun v2 A2 hv2 hA => ?_)
    · obtain ⟨nq, rfl⟩ := hB
      clear s0 s1 s2
      go_simp
      refine (HI.out _).mono ?_
      rintro e w2 ⟨rfl, hn⟩
      have HX := HBB.out _ ⟨(hn.block _ (lt_of_block (HGB.out nq).1)).trans (HGB.out nq).1, (HGB.out nq).2.trans hn⟩
      first | exact ⟨_, rfl, HX, hn, rfl⟩ | exact ⟨_, rfl, HX, hn, rfl, trivial⟩ | exact ⟨rfl, HX, hn⟩ | exact ⟨HX, hn, rfl⟩ | exact ⟨HX, hn⟩
    simp [Act.put] at hA
    subst hA
    obtain rfl := hv2
    refine Gro3.take0 1 (by kernel_rfl) ?_
    simp only [List.take, List.drop, List.length]
    repeat (go_big_quiet_step (fail))
    refine wpQuiet_nil ?_
    refine Gro3.nil ?_
    rintro w9 ⟨n9, rfl⟩ hG
    have hn := (HGB.out n9).2
    clear HFA HBA HGB HBB s0 s1 s2
    have HN := Lib.hid (((New.refl w).alloc _).trans hn)
    clear hn hG
    generalize g n9 = w9 at *
    go_wp2_with fail
    refine (HF.out _).mono ?_
    rintro e w10 ⟨rfl, hn⟩
    have HN2 := Lib.hid (HN.out.trans hn)
    clear hn
    go_wp2
    go_ret
    exact ⟨rfl, HN2.out⟩
  · obtain rfl : n = 0 := by omega
    obtain rfl := HNI.out rfl
    go_enter Try.func90, Try.ntmps90
    go_wp2_with fail
    refine (HF.out _).mono ?_
    rintro e w10 ⟨rfl, hn⟩
    have HN2 := Lib.hid (((New.refl w).alloc _).trans hn)
    clear hn
    go_wp2
    go_ret
    exact ⟨rfl, HN2.out⟩
end Go.Proofs.Ytegibnffingciaa
