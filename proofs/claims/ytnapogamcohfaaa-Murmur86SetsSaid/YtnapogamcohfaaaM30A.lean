/- Layer 30: what is mixed in, start. -/
import Derived.Test.YtnapogamcohfaaaBlkX
import Derived.Test.YtnapogamcohfaaaTurn
import Derived.Test.YtnapogamcohfaaaGro3
import Derived.Test.YtnapogamcohfaaaLoadB
import Derived.Test.YtnapogamcohfaaaMixC
import Derived.Defers
import Derived.Recover
import Derived.Laws.Pointers
import Derived.Handy
import Derived.Laws.EntriesVeiled
import Derived.LoopN
namespace Go.Proofs.Ytnapogamcohfaaa
open Go.RowKit Go.Bv
set_option linter.unusedVariables false
def sa30 (k : BitVec 32) : BitVec 32 := (k * 597399067#32).rotateLeft 15 * 2869860233#32
def sb30 (k : BitVec 32) : BitVec 32 := (k * 2869860233#32).rotateLeft 16 * 951274213#32
def sc30 (k : BitVec 32) : BitVec 32 := (k * 951274213#32).rotateLeft 17 * 2716044179#32
def sd30 (k : BitVec 32) : BitVec 32 := (k * 2716044179#32).rotateLeft 18 * 597399067#32
/-- a word of the state -/
def ml30 (h nx : BitVec 32) (t : Nat) (p : BitVec 32) : BitVec 32 := (h.rotateLeft t + nx) * 5#32 + p
def stw30 (s : BitVec 32 × BitVec 32 × BitVec 32 × BitVec 32) (k0 k1 k2 k3 : BitVec 32) : BitVec 32 × BitVec 32 × BitVec 32 × BitVec 32 :=
  (ml30 (s.1 ^^^ sa30 k0) s.2.1 19 1444728091#32, ml30 (s.2.1 ^^^ sb30 k1) s.2.2.1 17 197830471#32, ml30 (s.2.2.1 ^^^ sc30 k2) s.2.2.2 15 2530024501#32, ml30 (s.2.2.2 ^^^ sd30 k3) (ml30 (s.1 ^^^ sa30 k0) s.2.1 19 1444728091#32) 13 850148119#32)
/-- a block -/
def stp30 (s : BitVec 32 × BitVec 32 × BitVec 32 × BitVec 32) (l : List (BitVec 8)) : BitVec 32 × BitVec 32 × BitVec 32 × BitVec 32 := stw30 s ((rd l 0 4).setWidth 32) ((rd l 4 4).setWidth 32) ((rd l 8 4).setWidth 32) ((rd l 12 4).setWidth 32)
def start30 (sd : BitVec 32) : BitVec 32 × BitVec 32 × BitVec 32 × BitVec 32 := (sd, sd, sd, sd)
/-- all are added to the first one, and that to each -/
def join30 (s : BitVec 32 × BitVec 32 × BitVec 32 × BitVec 32) : BitVec 32 × BitVec 32 × BitVec 32 × BitVec 32 := (s.1 + s.2.1 + s.2.2.1 + s.2.2.2, s.2.1 + (s.1 + s.2.1 + s.2.2.1 + s.2.2.2), s.2.2.1 + (s.1 + s.2.1 + s.2.2.1 + s.2.2.2), s.2.2.2 + (s.1 + s.2.1 + s.2.2.1 + s.2.2.2))
def xw30 (s : BitVec 32 × BitVec 32 × BitVec 32 × BitVec 32) (k0 k1 k2 k3 : BitVec 32) : BitVec 32 × BitVec 32 × BitVec 32 × BitVec 32 := (s.1 ^^^ sa30 k0, s.2.1 ^^^ sb30 k1, s.2.2.1 ^^^ sc30 k2, s.2.2.2 ^^^ sd30 k3)
def xl30 (s : BitVec 32 × BitVec 32 × BitVec 32 × BitVec 32) (g : BitVec 32) : BitVec 32 × BitVec 32 × BitVec 32 × BitVec 32 := (s.1 ^^^ g, s.2.1 ^^^ g, s.2.2.1 ^^^ g, s.2.2.2 ^^^ g)
def fm30 (s : BitVec 32 × BitVec 32 × BitVec 32 × BitVec 32) : BitVec 32 × BitVec 32 × BitVec 32 × BitVec 32 := (fmix32 s.1, fmix32 s.2.1, fmix32 s.2.2.1, fmix32 s.2.2.2)
def out30 (s : BitVec 32 × BitVec 32 × BitVec 32 × BitVec 32) : BitVec 64 × BitVec 64 := (s.1.setWidth 64 ||| s.2.1.setWidth 64 <<< 32, s.2.2.1.setWidth 64 ||| s.2.2.2.setWidth 64 <<< 32)
def endw30 (s : BitVec 32 × BitVec 32 × BitVec 32 × BitVec 32) (k0 k1 k2 k3 : BitVec 32) (lg : BitVec 64) : BitVec 64 × BitVec 64 := out30 (join30 (fm30 (join30 (xl30 (xw30 s k0 k1 k2 k3) (lg.setWidth 32)))))
/-- what comes at the end: the lower word and the upper one -/
def end30 (s : BitVec 32 × BitVec 32 × BitVec 32 × BitVec 32) (tl : List (BitVec 8)) (lg : BitVec 64) : BitVec 64 × BitVec 64 := endw30 s ((rd tl 0 4).setWidth 32) ((rd tl 4 4).setWidth 32) ((rd tl 8 4).setWidth 32) ((rd tl 12 4).setWidth 32) lg
/-- the hash -/
def hash30 (sd : BitVec 32) (l : List (BitVec 8)) : BitVec 64 × BitVec 64 := end30 (bState 16 stp30 (start30 sd) l) (bTail 16 l) (BitVec.ofNat 64 l.length)
/-- the two boxes of a block's function -/
def Fun30 (w : World) (kd : Nat × Nat) : Prop := w.heap[kd.1]? = some (.cells #[.int .i64 19, .int .i64 17, .int .i64 15, .int .i64 13] 77 (0, 0)) ∧ w.heap[kd.2]? = some (.cells #[.int .u32 1444728091, .int .u32 197830471, .int .u32 2530024501, .int .u32 850148119] 51 (0, 0))
theorem Fun30.stay {w w' : World} {kd : Nat × Nat} (h : Fun30 w kd) (hn : New w w') : Fun30 w' kd := ⟨(hn.block _ (lt_of_block h.1)).trans h.1, (hn.block _ (lt_of_block h.2)).trans h.2⟩
theorem rot32_n (y : BitVec 32) (n : Nat) (hn : n < 32) (w : World) : Calls Try.prog 47 #[.int .u32 (W32 y), .int .i64 n] w fun e w' => e = .returned (.int .u32 (W32 (y.rotateLeft n))) ∧ w' = w := by
  have h := rot32_any (W32 y) (b32 _) n w
  rw [ofInt_W32, show ((n : Int) % 32).toNat = n by omega] at h
  exact h
theorem rot32r_n (y : BitVec 32) (n : Nat) (hn : n < 32) (w : World) : Calls Try.prog 53 #[.int .u32 (W32 y), .int .i64 n] w fun e w' => e = .returned (.int .u32 (W32 (y.rotateLeft n))) ∧ w' = w := by
  have h := rot32_ref (W32 y) (b32 _) n (by omega) w
  rw [ofInt_W32, show ((n : Int) % 32).toNat = n by omega] at h
  exact h
set_option maxRecDepth 100000 in
set_option maxHeartbeats 2000000 in
theorem scr0_p (k : BitVec 32) (w : World) : Calls Try.prog 48 #[.int .i64 0, .int .u32 (W32 k)] w fun e w' => e = .returned (.int .u32 (W32 (sa30 k))) ∧ New w w' := by
  unfold sa30
  have HR := Lib.hid (rot32_n (k * 597399067#32) 15 (by decide))
  obtain ⟨r, hr⟩ : ∃ z, (k * 597399067#32).rotateLeft 15 = z := ⟨_, rfl⟩
  rw [hr] at HR
  rw [hr]
  clear hr
  have HZ := Lib.hid (heap_alloc_new w (.cells #[.int .u32 597399067, .int .u32 2869860233, .int .u32 951274213, .int .u32 2716044179] 51))
  have HN := Lib.hid ((New.refl w).alloc (.cells #[.int .u32 597399067, .int .u32 2869860233, .int .u32 951274213, .int .u32 2716044179] 51))
  go_enter Try.func48, Try.ntmps48
  go_wp2_with fail
  refine Gro3.wp_region_gro3S (fun w' => w'.heap[w.heap.size]? = some (.cells #[.int .u32 597399067, .int .u32 2869860233, .int .u32 951274213, .int .u32 2716044179] 51 (0, 0)) ∧ New (w.alloc (.cells #[.int .u32 597399067, .int .u32 2869860233, .int .u32 951274213, .int .u32 2716044179] 51)) w') (fun w' => w'.heap[w.heap.size]? = some (.cells #[.int .u32 597399067, .int .u32 2869860233, .int .u32 951274213, .int .u32 2716044179] 51 (0, 0)) ∧ New (w.alloc (.cells #[.int .u32 597399067, .int .u32 2869860233, .int .u32 951274213, .int .u32 2716044179] 51)) w') [0, 0, 0, 1, 0, 0, 0, 2, 0, 0, 0, 0, 1, 0, 0] New (fun _ _ _ => True) (by kernel_rfl) (by kernel_rfl) (by kernel_rfl) (fun _ _ _ _ _ _ => trivial) (fun w' hw' => hw') (⟨HZ.out, (New.refl _).drew⟩) ?_
  intro I J _ _ f g hfa hba hgb hbb
  have HFA := Lib.hid hfa
  have HBA := Lib.hid hba
  have HGB := Lib.hid hgb
  have HBB := Lib.hid hbb
  have s0 := fun n => cell_of_row _ _ 0 _ _ _ (hgb n).1
  have s1 := fun n => cell_of_row _ _ 1 _ _ _ (hgb n).1
  have s2 := fun n => cell_of_row _ _ 2 _ _ _ (hgb n).1
  have s3 := fun n => cell_of_row _ _ 3 _ _ _ (hgb n).1
  clear hfa hba hgb hbb
  refine Gro3.take0 3 (by kernel_rfl) ?_
  simp only [List.take, List.drop, List.length]
  repeat (go_big_quiet_step (fail))
  refine wpQuiet_nil ?_
  refine Gro3.take1 1 (by kernel_rfl) ?_
  simp only [List.take, List.drop, List.length]
  repeat (go_big_quiet_step (fail))
  refine wpQuiet_nil ?_
  refine Gro3.take0 3 (by kernel_rfl) ?_
  simp only [List.take, List.drop, List.length]
  repeat (go_big_quiet_step (fail))
  refine wpQuiet_nil ?_
  refine Gro3.callt (fun v => v = .int .u32 (W32 r)) (fun _ _ => True) rfl rfl (⟨_, rfl⟩) (fun _ _ _ _ _ => trivial) (fun w1 hB hG => ?_) (fun v1 A1 hv1 hA => ?_)
  · obtain ⟨nq, rfl⟩ := hB
    clear s0 s1 s2 s3
    go_simp
    refine (HR.out _).mono ?_
    rintro e w2 ⟨rfl, rfl⟩
    have hn := New.refl (g nq)
    have HX := HBB.out _ ⟨(hn.block _ (lt_of_block (HGB.out nq).1)).trans (HGB.out nq).1, (HGB.out nq).2.trans hn⟩
    first | exact ⟨_, rfl, HX, hn, rfl⟩ | exact ⟨_, rfl, HX, hn, rfl, trivial⟩ | exact ⟨rfl, HX, hn⟩ | exact ⟨HX, hn, rfl⟩ | exact ⟨HX, hn⟩
  simp [Act.put] at hA
  subst hA
  obtain rfl := hv1
  refine Gro3.take0 4 (by kernel_rfl) ?_
  simp only [List.take, List.drop, List.length]
  repeat (go_big_quiet_step (fail))
  refine wpQuiet_nil ?_
  refine Gro3.take1 1 (by kernel_rfl) ?_
  simp only [List.take, List.drop, List.length]
  repeat (go_big_quiet_step (fail))
  refine wpQuiet_nil ?_
  refine Gro3.take0 2 (by kernel_rfl) ?_
  simp only [List.take, List.drop, List.length]
  repeat (go_big_quiet_step (fail))
  refine wpQuiet_nil ?_
  refine Gro3.nil ?_
  rintro w9 ⟨n9, rfl⟩ hG
  have hn := (HGB.out n9).2
  clear HFA HBA HGB HBB s0 s1 s2 s3
  replace HN := Lib.hid (HN.out.trans hn)
  clear hn hG HZ HR
  generalize g n9 = w9 at *
  go_wp2
  go_ret
  exact ⟨rfl, HN.out⟩
set_option maxRecDepth 100000 in
set_option maxHeartbeats 2000000 in
theorem scr1_p (k : BitVec 32) (w : World) : Calls Try.prog 48 #[.int .i64 1, .int .u32 (W32 k)] w fun e w' => e = .returned (.int .u32 (W32 (sb30 k))) ∧ New w w' := by
  unfold sb30
  have HR := Lib.hid (rot32_n (k * 2869860233#32) 16 (by decide))
  obtain ⟨r, hr⟩ : ∃ z, (k * 2869860233#32).rotateLeft 16 = z := ⟨_, rfl⟩
  rw [hr] at HR
  rw [hr]
  clear hr
  have HZ := Lib.hid (heap_alloc_new w (.cells #[.int .u32 597399067, .int .u32 2869860233, .int .u32 951274213, .int .u32 2716044179] 51))
  have HN := Lib.hid ((New.refl w).alloc (.cells #[.int .u32 597399067, .int .u32 2869860233, .int .u32 951274213, .int .u32 2716044179] 51))
  go_enter Try.func48, Try.ntmps48
  go_wp2_with fail
  refine Gro3.wp_region_gro3S (fun w' => w'.heap[w.heap.size]? = some (.cells #[.int .u32 597399067, .int .u32 2869860233, .int .u32 951274213, .int .u32 2716044179] 51 (0, 0)) ∧ New (w.alloc (.cells #[.int .u32 597399067, .int .u32 2869860233, .int .u32 951274213, .int .u32 2716044179] 51)) w') (fun w' => w'.heap[w.heap.size]? = some (.cells #[.int .u32 597399067, .int .u32 2869860233, .int .u32 951274213, .int .u32 2716044179] 51 (0, 0)) ∧ New (w.alloc (.cells #[.int .u32 597399067, .int .u32 2869860233, .int .u32 951274213, .int .u32 2716044179] 51)) w') [0, 0, 0, 1, 0, 0, 0, 2, 0, 0, 0, 0, 1, 0, 0] New (fun _ _ _ => True) (by kernel_rfl) (by kernel_rfl) (by kernel_rfl) (fun _ _ _ _ _ _ => trivial) (fun w' hw' => hw') (⟨HZ.out, (New.refl _).drew⟩) ?_
  intro I J _ _ f g hfa hba hgb hbb
  have HFA := Lib.hid hfa
  have HBA := Lib.hid hba
  have HGB := Lib.hid hgb
  have HBB := Lib.hid hbb
  have s0 := fun n => cell_of_row _ _ 0 _ _ _ (hgb n).1
  have s1 := fun n => cell_of_row _ _ 1 _ _ _ (hgb n).1
  have s2 := fun n => cell_of_row _ _ 2 _ _ _ (hgb n).1
  have s3 := fun n => cell_of_row _ _ 3 _ _ _ (hgb n).1
  clear hfa hba hgb hbb
  refine Gro3.take0 3 (by kernel_rfl) ?_
  simp only [List.take, List.drop, List.length]
  repeat (go_big_quiet_step (fail))
  refine wpQuiet_nil ?_
  refine Gro3.take1 1 (by kernel_rfl) ?_
  simp only [List.take, List.drop, List.length]
  repeat (go_big_quiet_step (fail))
  refine wpQuiet_nil ?_
  refine Gro3.take0 3 (by kernel_rfl) ?_
  simp only [List.take, List.drop, List.length]
  repeat (go_big_quiet_step (fail))
  refine wpQuiet_nil ?_
  refine Gro3.callt (fun v => v = .int .u32 (W32 r)) (fun _ _ => True) rfl rfl (⟨_, rfl⟩) (fun _ _ _ _ _ => trivial) (fun w1 hB hG => ?_) (fun v1 A1 hv1 hA => ?_)
  · obtain ⟨nq, rfl⟩ := hB
    clear s0 s1 s2 s3
    go_simp
    refine (HR.out _).mono ?_
    rintro e w2 ⟨rfl, rfl⟩
    have hn := New.refl (g nq)
    have HX := HBB.out _ ⟨(hn.block _ (lt_of_block (HGB.out nq).1)).trans (HGB.out nq).1, (HGB.out nq).2.trans hn⟩
    first | exact ⟨_, rfl, HX, hn, rfl⟩ | exact ⟨_, rfl, HX, hn, rfl, trivial⟩ | exact ⟨rfl, HX, hn⟩ | exact ⟨HX, hn, rfl⟩ | exact ⟨HX, hn⟩
  simp [Act.put] at hA
  subst hA
  obtain rfl := hv1
  refine Gro3.take0 4 (by kernel_rfl) ?_
  simp only [List.take, List.drop, List.length]
  repeat (go_big_quiet_step (fail))
  refine wpQuiet_nil ?_
  refine Gro3.take1 1 (by kernel_rfl) ?_
  simp only [List.take, List.drop, List.length]
  repeat (go_big_quiet_step (fail))
  refine wpQuiet_nil ?_
  refine Gro3.take0 2 (by kernel_rfl) ?_
  simp only [List.take, List.drop, List.length]
  repeat (go_big_quiet_step (fail))
  refine wpQuiet_nil ?_
  refine Gro3.nil ?_
  rintro w9 ⟨n9, rfl⟩ hG
  have hn := (HGB.out n9).2
  clear HFA HBA HGB HBB s0 s1 s2 s3
  replace HN := Lib.hid (HN.out.trans hn)
  clear hn hG HZ HR
  generalize g n9 = w9 at *
  go_wp2
  go_ret
  exact ⟨rfl, HN.out⟩
set_option maxRecDepth 100000 in
set_option maxHeartbeats 2000000 in
theorem scr2_p (k : BitVec 32) (w : World) : Calls Try.prog 48 #[.int .i64 2, .int .u32 (W32 k)] w fun e w' => e = .returned (.int .u32 (W32 (sc30 k))) ∧ New w w' := by
  unfold sc30
  have HR := Lib.hid (rot32_n (k * 951274213#32) 17 (by decide))
  obtain ⟨r, hr⟩ : ∃ z, (k * 951274213#32).rotateLeft 17 = z := ⟨_, rfl⟩
  rw [hr] at HR
  rw [hr]
  clear hr
  have HZ := Lib.hid (heap_alloc_new w (.cells #[.int .u32 597399067, .int .u32 2869860233, .int .u32 951274213, .int .u32 2716044179] 51))
  have HN := Lib.hid ((New.refl w).alloc (.cells #[.int .u32 597399067, .int .u32 2869860233, .int .u32 951274213, .int .u32 2716044179] 51))
  go_enter Try.func48, Try.ntmps48
  go_wp2_with fail
  refine Gro3.wp_region_gro3S (fun w' => w'.heap[w.heap.size]? = some (.cells #[.int .u32 597399067, .int .u32 2869860233, .int .u32 951274213, .int .u32 2716044179] 51 (0, 0)) ∧ New (w.alloc (.cells #[.int .u32 597399067, .int .u32 2869860233, .int .u32 951274213, .int .u32 2716044179] 51)) w') (fun w' => w'.heap[w.heap.size]? = some (.cells #[.int .u32 597399067, .int .u32 2869860233, .int .u32 951274213, .int .u32 2716044179] 51 (0, 0)) ∧ New (w.alloc (.cells #[.int .u32 597399067, .int .u32 2869860233, .int .u32 951274213, .int .u32 2716044179] 51)) w') [0, 0, 0, 1, 0, 0, 0, 2, 0, 0, 0, 0, 1, 0, 0] New (fun _ _ _ => True) (by kernel_rfl) (by kernel_rfl) (by kernel_rfl) (fun _ _ _ _ _ _ => trivial) (fun w' hw' => hw') (⟨HZ.out, (New.refl _).drew⟩) ?_
  intro I J _ _ f g hfa hba hgb hbb
  have HFA := Lib.hid hfa
  have HBA := Lib.hid hba
  have HGB := Lib.hid hgb
  have HBB := Lib.hid hbb
  have s0 := fun n => cell_of_row _ _ 0 _ _ _ (hgb n).1
  have s1 := fun n => cell_of_row _ _ 1 _ _ _ (hgb n).1
  have s2 := fun n => cell_of_row _ _ 2 _ _ _ (hgb n).1
  have s3 := fun n => cell_of_row _ _ 3 _ _ _ (hgb n).1
  clear hfa hba hgb hbb
  refine Gro3.take0 3 (by kernel_rfl) ?_
  simp only [List.take, List.drop, List.length]
  repeat (go_big_quiet_step (fail))
  refine wpQuiet_nil ?_
  refine Gro3.take1 1 (by kernel_rfl) ?_
  simp only [List.take, List.drop, List.length]
  repeat (go_big_quiet_step (fail))
  refine wpQuiet_nil ?_
  refine Gro3.take0 3 (by kernel_rfl) ?_
  simp only [List.take, List.drop, List.length]
  repeat (go_big_quiet_step (fail))
  refine wpQuiet_nil ?_
  refine Gro3.callt (fun v => v = .int .u32 (W32 r)) (fun _ _ => True) rfl rfl (⟨_, rfl⟩) (fun _ _ _ _ _ => trivial) (fun w1 hB hG => ?_) (fun v1 A1 hv1 hA => ?_)
  · obtain ⟨nq, rfl⟩ := hB
    clear s0 s1 s2 s3
    go_simp
    refine (HR.out _).mono ?_
    rintro e w2 ⟨rfl, rfl⟩
    have hn := New.refl (g nq)
    have HX := HBB.out _ ⟨(hn.block _ (lt_of_block (HGB.out nq).1)).trans (HGB.out nq).1, (HGB.out nq).2.trans hn⟩
    first | exact ⟨_, rfl, HX, hn, rfl⟩ | exact ⟨_, rfl, HX, hn, rfl, trivial⟩ | exact ⟨rfl, HX, hn⟩ | exact ⟨HX, hn, rfl⟩ | exact ⟨HX, hn⟩
  simp [Act.put] at hA
  subst hA
  obtain rfl := hv1
  refine Gro3.take0 4 (by kernel_rfl) ?_
  simp only [List.take, List.drop, List.length]
  repeat (go_big_quiet_step (fail))
  refine wpQuiet_nil ?_
  refine Gro3.take1 1 (by kernel_rfl) ?_
  simp only [List.take, List.drop, List.length]
  repeat (go_big_quiet_step (fail))
  refine wpQuiet_nil ?_
  refine Gro3.take0 2 (by kernel_rfl) ?_
  simp only [List.take, List.drop, List.length]
  repeat (go_big_quiet_step (fail))
  refine wpQuiet_nil ?_
  refine Gro3.nil ?_
  rintro w9 ⟨n9, rfl⟩ hG
  have hn := (HGB.out n9).2
  clear HFA HBA HGB HBB s0 s1 s2 s3
  replace HN := Lib.hid (HN.out.trans hn)
  clear hn hG HZ HR
  generalize g n9 = w9 at *
  go_wp2
  go_ret
  exact ⟨rfl, HN.out⟩
set_option maxRecDepth 100000 in
set_option maxHeartbeats 2000000 in
theorem scr3_p (k : BitVec 32) (w : World) : Calls Try.prog 48 #[.int .i64 3, .int .u32 (W32 k)] w fun e w' => e = .returned (.int .u32 (W32 (sd30 k))) ∧ New w w' := by
  unfold sd30
  have HR := Lib.hid (rot32_n (k * 2716044179#32) 18 (by decide))
  obtain ⟨r, hr⟩ : ∃ z, (k * 2716044179#32).rotateLeft 18 = z := ⟨_, rfl⟩
  rw [hr] at HR
  rw [hr]
  clear hr
  have HZ := Lib.hid (heap_alloc_new w (.cells #[.int .u32 597399067, .int .u32 2869860233, .int .u32 951274213, .int .u32 2716044179] 51))
  have HN := Lib.hid ((New.refl w).alloc (.cells #[.int .u32 597399067, .int .u32 2869860233, .int .u32 951274213, .int .u32 2716044179] 51))
  go_enter Try.func48, Try.ntmps48
  go_wp2_with fail
  refine Gro3.wp_region_gro3S (fun w' => w'.heap[w.heap.size]? = some (.cells #[.int .u32 597399067, .int .u32 2869860233, .int .u32 951274213, .int .u32 2716044179] 51 (0, 0)) ∧ New (w.alloc (.cells #[.int .u32 597399067, .int .u32 2869860233, .int .u32 951274213, .int .u32 2716044179] 51)) w') (fun w' => w'.heap[w.heap.size]? = some (.cells #[.int .u32 597399067, .int .u32 2869860233, .int .u32 951274213, .int .u32 2716044179] 51 (0, 0)) ∧ New (w.alloc (.cells #[.int .u32 597399067, .int .u32 2869860233, .int .u32 951274213, .int .u32 2716044179] 51)) w') [0, 0, 0, 1, 0, 0, 0, 2, 0, 0, 0, 0, 1, 0, 0] New (fun _ _ _ => True) (by kernel_rfl) (by kernel_rfl) (by kernel_rfl) (fun _ _ _ _ _ _ => trivial) (fun w' hw' => hw') (⟨HZ.out, (New.refl _).drew⟩) ?_
  intro I J _ _ f g hfa hba hgb hbb
  have HFA := Lib.hid hfa
  have HBA := Lib.hid hba
  have HGB := Lib.hid hgb
  have HBB := Lib.hid hbb
  have s0 := fun n => cell_of_row _ _ 0 _ _ _ (hgb n).1
  have s1 := fun n => cell_of_row _ _ 1 _ _ _ (hgb n).1
  have s2 := fun n => cell_of_row _ _ 2 _ _ _ (hgb n).1
  have s3 := fun n => cell_of_row _ _ 3 _ _ _ (hgb n).1
  clear hfa hba hgb hbb
  refine Gro3.take0 3 (by kernel_rfl) ?_
  simp only [List.take, List.drop, List.length]
  repeat (go_big_quiet_step (fail))
  refine wpQuiet_nil ?_
  refine Gro3.take1 1 (by kernel_rfl) ?_
  simp only [List.take, List.drop, List.length]
  repeat (go_big_quiet_step (fail))
  refine wpQuiet_nil ?_
  refine Gro3.take0 3 (by kernel_rfl) ?_
  simp only [List.take, List.drop, List.length]
  repeat (go_big_quiet_step (fail))
  refine wpQuiet_nil ?_
  refine Gro3.callt (fun v => v = .int .u32 (W32 r)) (fun _ _ => True) rfl rfl (⟨_, rfl⟩) (fun _ _ _ _ _ => trivial) (fun w1 hB hG => ?_) (fun v1 A1 hv1 hA => ?_)
  · obtain ⟨nq, rfl⟩ := hB
    clear s0 s1 s2 s3
    go_simp
    refine (HR.out _).mono ?_
    rintro e w2 ⟨rfl, rfl⟩
    have hn := New.refl (g nq)
    have HX := HBB.out _ ⟨(hn.block _ (lt_of_block (HGB.out nq).1)).trans (HGB.out nq).1, (HGB.out nq).2.trans hn⟩
    first | exact ⟨_, rfl, HX, hn, rfl⟩ | exact ⟨_, rfl, HX, hn, rfl, trivial⟩ | exact ⟨rfl, HX, hn⟩ | exact ⟨HX, hn, rfl⟩ | exact ⟨HX, hn⟩
  simp [Act.put] at hA
  subst hA
  obtain rfl := hv1
  refine Gro3.take0 4 (by kernel_rfl) ?_
  simp only [List.take, List.drop, List.length]
  repeat (go_big_quiet_step (fail))
  refine wpQuiet_nil ?_
  refine Gro3.take1 1 (by kernel_rfl) ?_
  simp only [List.take, List.drop, List.length]
  repeat (go_big_quiet_step (fail))
  refine wpQuiet_nil ?_
  refine Gro3.take0 2 (by kernel_rfl) ?_
  simp only [List.take, List.drop, List.length]
  repeat (go_big_quiet_step (fail))
  refine wpQuiet_nil ?_
  refine Gro3.nil ?_
  rintro w9 ⟨n9, rfl⟩ hG
  have hn := (HGB.out n9).2
  clear HFA HBA HGB HBB s0 s1 s2 s3
  replace HN := Lib.hid (HN.out.trans hn)
  clear hn hG HZ HR
  generalize g n9 = w9 at *
  go_wp2
  go_ret
  exact ⟨rfl, HN.out⟩
theorem start_30s (sd : BitVec 32) (w : World) : Calls Try.prog 24 #[.int .u32 (W32 sd)] w fun e w' => e = .returned (.agg #[.int .u32 (W32 ((start30 sd).1)), .int .u32 (W32 ((start30 sd).2.1)), .int .u32 (W32 ((start30 sd).2.2.1)), .int .u32 (W32 ((start30 sd).2.2.2))]) ∧ New w w' := by
  unfold start30
  go_enter Try.func24, Try.ntmps24
  go_wp2
  go_returns
  exact ⟨rfl, (New.refl w).alloc _⟩
theorem process_30s (w : World) : Calls Try.prog 25 #[] w fun e w' => ∃ kd : Nat × Nat, e = .returned (.func (Fn.func 45) #[] #[.pointer (some ⟨kd.1, 0, none⟩), .pointer (some ⟨kd.2, 0, none⟩)]) ∧ Fun30 w' kd ∧ New w w' := by
  have hmf : ∀ (fn : Fn) (first cap : Array Value) (w : World), (Instr.makeFunc fn first cap).run Try.prog w = .ok (.func fn first cap) w := fun _ _ _ _ => rfl
  have HZ := Lib.hid (two_blocks w (.cells #[.int .i64 19, .int .i64 17, .int .i64 15, .int .i64 13] 77) (.cells #[.int .u32 1444728091, .int .u32 197830471, .int .u32 2530024501, .int .u32 850148119] 51))
  go_enter Try.func25, Try.ntmps25
  go_wp2
  go_ret
  exact ⟨(w.heap.size, w.heap.size + 1), by simp, ⟨HZ.out.1, HZ.out.2.1⟩, HZ.out.2.2⟩
end Go.Proofs.Ytnapogamcohfaaa
