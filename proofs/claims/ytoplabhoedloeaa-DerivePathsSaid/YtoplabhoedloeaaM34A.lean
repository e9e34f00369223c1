/- Layer 34: rounds. -/
import Derived.Test.YtoplabhoedloeaaBlkX
import Derived.Test.YtoplabhoedloeaaTurn
import Derived.Test.YtoplabhoedloeaaGro3
import Derived.Test.YtoplabhoedloeaaLoadB
import Derived.Defers
import Derived.Recover
import Derived.Laws.Pointers
import Derived.Handy
import Derived.Laws.EntriesVeiled
import Derived.LoopN
namespace Go.Proofs.Ytoplabhoedloeaa
open Go.RowKit Go.Bv
set_option linter.unusedVariables false
/-- one round -/
def one34 (s : BitVec 64 × BitVec 64 × BitVec 64 × BitVec 64) : BitVec 64 × BitVec 64 × BitVec 64 × BitVec 64 :=
  (((s.1 + s.2.1).rotateLeft 32 + (s.2.2.2.rotateLeft 16 ^^^ (s.2.2.1 + s.2.2.2))),
   (s.2.1.rotateLeft 13 ^^^ (s.1 + s.2.1)).rotateLeft 17 ^^^ (s.2.2.1 + s.2.2.2 + (s.2.1.rotateLeft 13 ^^^ (s.1 + s.2.1))),
   (s.2.2.1 + s.2.2.2 + (s.2.1.rotateLeft 13 ^^^ (s.1 + s.2.1))).rotateLeft 32,
   (s.2.2.2.rotateLeft 16 ^^^ (s.2.2.1 + s.2.2.2)).rotateLeft 21 ^^^ ((s.1 + s.2.1).rotateLeft 32 + (s.2.2.2.rotateLeft 16 ^^^ (s.2.2.1 + s.2.2.2))))
def itr34 : Nat → BitVec 64 × BitVec 64 × BitVec 64 × BitVec 64 → BitVec 64 × BitVec 64 × BitVec 64 × BitVec 64
  | 0, s => s
  | n + 1, s => one34 (itr34 n s)
def fst34 (s : BitVec 64 × BitVec 64 × BitVec 64 × BitVec 64) (m : BitVec 64) : BitVec 64 × BitVec 64 × BitVec 64 × BitVec 64 := (s.1 ^^^ m, s.2.1, s.2.2.1, s.2.2.2)
def snd34 (s : BitVec 64 × BitVec 64 × BitVec 64 × BitVec 64) (m : BitVec 64) : BitVec 64 × BitVec 64 × BitVec 64 × BitVec 64 := (s.1, s.2.1 ^^^ m, s.2.2.1, s.2.2.2)
def thd34 (s : BitVec 64 × BitVec 64 × BitVec 64 × BitVec 64) (m : BitVec 64) : BitVec 64 × BitVec 64 × BitVec 64 × BitVec 64 := (s.1, s.2.1, s.2.2.1 ^^^ m, s.2.2.2)
def lst34 (s : BitVec 64 × BitVec 64 × BitVec 64 × BitVec 64) (m : BitVec 64) : BitVec 64 × BitVec 64 × BitVec 64 × BitVec 64 := (s.1, s.2.1, s.2.2.1, s.2.2.2 ^^^ m)
def word34 (r : Nat) (s : BitVec 64 × BitVec 64 × BitVec 64 × BitVec 64) (m : BitVec 64) : BitVec 64 × BitVec 64 × BitVec 64 × BitVec 64 := fst34 (itr34 r (lst34 s m)) m
/-- a block -/
def stp34 (kd : Nat × Nat × Bool) (s : BitVec 64 × BitVec 64 × BitVec 64 × BitVec 64) (l : List (BitVec 8)) : BitVec 64 × BitVec 64 × BitVec 64 × BitVec 64 := word34 kd.1 s (rd l 0 8)
def base34 (hi lo : BitVec 64) : BitVec 64 × BitVec 64 × BitVec 64 × BitVec 64 := (lo ^^^ 8317987319222330741#64, hi ^^^ 7237128888997146477#64, lo ^^^ 7816392313619706465#64, hi ^^^ 8387220255154660723#64)
def start34 (kd : Nat × Nat × Bool) (key : BitVec 64 × BitVec 64) : BitVec 64 × BitVec 64 × BitVec 64 × BitVec 64 := if kd.2.2 then snd34 (base34 key.1 key.2) 238#64 else base34 key.1 key.2
def xor34 (s : BitVec 64 × BitVec 64 × BitVec 64 × BitVec 64) : BitVec 64 := s.1 ^^^ s.2.1 ^^^ s.2.2.1 ^^^ s.2.2.2
/-- what comes at the end: the lower word and the upper one -/
def tell34 (kd : Nat × Nat × Bool) (s : BitVec 64 × BitVec 64 × BitVec 64 × BitVec 64) : BitVec 64 × BitVec 64 :=
  if kd.2.2 then (xor34 (itr34 kd.2.1 (thd34 s 238#64)), xor34 (itr34 kd.2.1 (snd34 (itr34 kd.2.1 (thd34 s 238#64)) 221#64)))
  else (xor34 (itr34 kd.2.1 (thd34 s 255#64)), 0#64)
def end34 (kd : Nat × Nat × Bool) (s : BitVec 64 × BitVec 64 × BitVec 64 × BitVec 64) (tl : List (BitVec 8)) (lg : BitVec 64) : BitVec 64 × BitVec 64 := tell34 kd (word34 kd.1 s (rd tl 0 8 ||| lg <<< 56))
/-- the hash -/
def hash34 (kd : Nat × Nat × Bool) (key : BitVec 64 × BitVec 64) (l : List (BitVec 8)) : BitVec 64 × BitVec 64 := end34 kd (bState 8 (stp34 kd) (start34 kd key) l) (bTail 8 l) (BitVec.ofNat 64 l.length)
/-- the kinds -/
def KD (kind : Int) (kd : Nat × Nat × Bool) : Prop := (kind = 6 ∧ kd = (2, 4, false)) ∨ (kind = 7 ∧ kd = (1, 3, false)) ∨ (kind = 8 ∧ kd = (2, 4, true))
def lenOf34 : Value → Nat
  | .slice _ n _ => n
  | _ => 0
theorem rot64_n (y : BitVec 64) (n : Nat) (hn : n < 64) (w : World) : Calls Try.prog 49 #[.int .u64 (W64 y), .int .i64 n] w fun e w' => e = .returned (.int .u64 (W64 (y.rotateLeft n))) ∧ w' = w := by
  have h := rot64_any (W64 y) (b64 _) n w
  rw [ofInt_W64, show ((n : Int) % 64).toNat = n by omega] at h
  exact h
theorem rot64r_n (y : BitVec 64) (n : Nat) (hn : n < 64) (w : World) : Calls Try.prog 50 #[.int .u64 (W64 y), .int .i64 n] w fun e w' => e = .returned (.int .u64 (W64 (y.rotateLeft n))) ∧ w' = w := by
  have h := rot64_ref (W64 y) (b64 _) n (by omega) w
  rw [ofInt_W64, show ((n : Int) % 64).toNat = n by omega] at h
  exact h
set_option maxRecDepth 100000 in
set_option maxHeartbeats 8000000 in
theorem rounds_34s (s : BitVec 64 × BitVec 64 × BitVec 64 × BitVec 64) (n : Nat) (hn : n ≤ 100) (w : World) : Calls Try.prog 42 #[.agg #[.int .u64 (W64 (s.1)), .int .u64 (W64 (s.2.1)), .int .u64 (W64 (s.2.2.1)), .int .u64 (W64 (s.2.2.2))], .int .i64 (n : Int)] w fun e w' => e = .returned (.agg #[.int .u64 (W64 ((itr34 n s).1)), .int .u64 (W64 ((itr34 n s).2.1)), .int .u64 (W64 ((itr34 n s).2.2.1)), .int .u64 (W64 ((itr34 n s).2.2.2))]) ∧ New w w' := by
  have HZ := Lib.hid (two_blocks w (.cells #[.int .u64 (W64 (s.1)), .int .u64 (W64 (s.2.1)), .int .u64 (W64 (s.2.2.1)), .int .u64 (W64 (s.2.2.2))] 58) (.cells #[.int .u64 0, .int .u64 0, .int .u64 0, .int .u64 0] 58))
  go_enter Try.func42, Try.ntmps42
  go_wp2_with fail
  go_loopw [6] (fun i wr => ∃ k : Nat, k ≤ n ∧ i = .int .i64 (k : Int) ∧ wr.heap[w.heap.size]? = some (.cells #[.int .u64 (W64 ((itr34 k s).1)), .int .u64 (W64 ((itr34 k s).2.1)), .int .u64 (W64 ((itr34 k s).2.2.1)), .int .u64 (W64 ((itr34 k s).2.2.2))] 58 (0, 0)) ∧ wr.heap[w.heap.size + 1]? = some (.cells #[.int .u64 0, .int .u64 0, .int .u64 0, .int .u64 0] 58 (0, 0)) ∧ New w wr) (fun i _ => n - (intOf i).toNat)
  case atStart => exact ⟨0, Nat.zero_le _, rfl, HZ.out.1, HZ.out.2.1, HZ.out.2.2⟩
  case round =>
    clear HZ
    obtain ⟨k, hk, rfl, ha, ho, hnw⟩ := hrel
    have HA := Lib.hid ha
    have HO := Lib.hid ho
    have HN := Lib.hid hnw
    clear ha ho hnw
    have hsu : itr34 (k + 1) s = one34 (itr34 k s) := rfl
    have HSU := Lib.hid hsu
    clear hsu
    obtain ⟨cur, hcur⟩ : ∃ z, itr34 k s = z := ⟨_, rfl⟩
    rw [hcur] at HA HSU
    have HCUR := Lib.hid hcur
    clear hcur
    obtain ⟨a0, a1, a2, a3⟩ := cur
    obtain ⟨w0, hw0⟩ : ∃ z, wr = z := ⟨_, rfl⟩
    subst hw0
    by_cases hlt : (k : Int) < (n : Int)
    · have hone := HSU.out
      unfold one34 at hone
      simp only at hone
      obtain ⟨p0, hnm⟩ : ∃ z, a0 + a1 = z := ⟨_, rfl⟩
      rw [hnm] at hone
      have HP0 := Lib.hid hnm
      clear hnm
      have HR1 := Lib.hid (rot64_n a1 13 (by decide))
      obtain ⟨r1, hnm⟩ : ∃ z, a1.rotateLeft 13 = z := ⟨_, rfl⟩
      rw [hnm] at HR1 hone
      clear hnm
      obtain ⟨p1, hnm⟩ : ∃ z, r1 ^^^ p0 = z := ⟨_, rfl⟩
      rw [hnm] at hone
      have HP1 := Lib.hid hnm
      clear hnm
      have HR2 := Lib.hid (rot64_n p0 32 (by decide))
      obtain ⟨q0, hnm⟩ : ∃ z, p0.rotateLeft 32 = z := ⟨_, rfl⟩
      rw [hnm] at HR2 hone
      clear hnm
      obtain ⟨p2, hnm⟩ : ∃ z, a2 + a3 = z := ⟨_, rfl⟩
      rw [hnm] at hone
      have HP2 := Lib.hid hnm
      clear hnm
      have HR3 := Lib.hid (rot64_n a3 16 (by decide))
      obtain ⟨r3, hnm⟩ : ∃ z, a3.rotateLeft 16 = z := ⟨_, rfl⟩
      rw [hnm] at HR3 hone
      clear hnm
      obtain ⟨p3, hnm⟩ : ∃ z, r3 ^^^ p2 = z := ⟨_, rfl⟩
      rw [hnm] at hone
      have HP3 := Lib.hid hnm
      clear hnm
      obtain ⟨e0, hnm⟩ : ∃ z, q0 + p3 = z := ⟨_, rfl⟩
      rw [hnm] at hone
      have HE0 := Lib.hid hnm
      clear hnm
      have HR4 := Lib.hid (rot64_n p3 21 (by decide))
      obtain ⟨r4, hnm⟩ : ∃ z, p3.rotateLeft 21 = z := ⟨_, rfl⟩
      rw [hnm] at HR4 hone
      clear hnm
      obtain ⟨e3, hnm⟩ : ∃ z, r4 ^^^ e0 = z := ⟨_, rfl⟩
      rw [hnm] at hone
      have HE3 := Lib.hid hnm
      clear hnm
      obtain ⟨f2, hnm⟩ : ∃ z, p2 + p1 = z := ⟨_, rfl⟩
      rw [hnm] at hone
      have HF2 := Lib.hid hnm
      clear hnm
      have HR5 := Lib.hid (rot64_n p1 17 (by decide))
      obtain ⟨r5, hnm⟩ : ∃ z, p1.rotateLeft 17 = z := ⟨_, rfl⟩
      rw [hnm] at HR5 hone
      clear hnm
      obtain ⟨e1, hnm⟩ : ∃ z, r5 ^^^ f2 = z := ⟨_, rfl⟩
      rw [hnm] at hone
      have HE1 := Lib.hid hnm
      clear hnm
      have HR6 := Lib.hid (rot64_n f2 32 (by decide))
      obtain ⟨e2, hnm⟩ : ∃ z, f2.rotateLeft 32 = z := ⟨_, rfl⟩
      rw [hnm] at HR6 hone
      clear hnm
      have HONE := Lib.hid hone
      clear hone HSU
      have c0 := cell_of_row _ _ 0 _ _ _ HA.out
      have c1 := cell_of_row _ _ 1 _ _ _ HA.out
      have c2 := cell_of_row _ _ 2 _ _ _ HA.out
      have c3 := cell_of_row _ _ 3 _ _ _ HA.out
      have cf := fun i => frozen_of_row _ _ i _ _ HA.out
      have hv := HP0.out
      go_wp2_with fail
      clear hv c0 c1 c2 c3 cf HP0
      have hs0 := heap_setCell_same wr w.heap.size 0 _ _ (.int .u64 (W64 p0)) HA.out
      have ho0 := heap_setCell_other wr ⟨w.heap.size, 0, none⟩ (w.heap.size + 1) (.int .u64 (W64 p0)) (by show w.heap.size + 1 ≠ w.heap.size; omega)
      have hn0 := HN.out.setCell (p := ⟨w.heap.size, 0, none⟩) (Nat.le_refl _) (.int .u64 (W64 p0))
      replace HO := Lib.hid (ho0.trans HO.out)
      clear HA HN ho0 
      generalize hw : (World.setCell wr ⟨w.heap.size, 0, none⟩ (.int .u64 (W64 p0))) = w1 at *
      have HA := Lib.hid (show w1.heap[w.heap.size]? = some (.cells #[.int .u64 (W64 p0), .int .u64 (W64 a1), .int .u64 (W64 a2), .int .u64 (W64 a3)] 58 (0, 0)) from hs0)
      have HN := Lib.hid hn0
      clear hs0 hn0 hw
      refine Gro3.wp_region_gro3S (fun w' => (∃ u0 u1 u2 u3 : Value, w'.heap[w.heap.size]? = some (.cells #[u0, u1, u2, u3] 58 (0, 0))) ∧ w'.heap[w.heap.size + 1]? = some (.cells #[.int .u64 0, .int .u64 0, .int .u64 0, .int .u64 0] 58 (0, 0)) ∧ New w w') (fun w' => w'.heap[w.heap.size]? = some (.cells #[.int .u64 (W64 p0), .int .u64 (W64 a1), .int .u64 (W64 a2), .int .u64 (W64 a3)] 58 (0, 0)) ∧ w'.heap[w.heap.size + 1]? = some (.cells #[.int .u64 0, .int .u64 0, .int .u64 0, .int .u64 0] 58 (0, 0)) ∧ New w w') [0,1,2,0,1,0,0,3] New (fun _ _ _ => True) (by kernel_rfl) (by kernel_rfl) (by kernel_rfl) (fun _ _ _ _ _ _ => trivial) (fun w' hw' => ⟨⟨_, _, _, _, hw'.1⟩, hw'.2⟩) (⟨HA.out, HO.out, HN.out.drew⟩) ?_
      intro I J _ _ f g hfa hba hgb hbb
      have HFA := Lib.hid hfa
      have HBA := Lib.hid hba
      have HGB := Lib.hid hgb
      have HBB := Lib.hid hbb
      have fa := fun n => cell_of_row _ _ 1 _ _ _ (hgb n).1
      have fb := fun n => cell_of_row _ _ 0 _ _ _ (hgb n).1
      clear hfa hba hgb hbb
      refine Gro3.take0 1 (by kernel_rfl) ?_
      simp only [List.take, List.drop, List.length]
      repeat (go_big_quiet_step (fail))
      refine wpQuiet_nil ?_
      refine Gro3.take1 1 (by kernel_rfl) ?_
      simp only [List.take, List.drop, List.length]
      repeat (go_big_quiet_step (fail))
      refine wpQuiet_nil ?_
      refine Gro3.callt (fun v => v = .int .u64 (W64 r1)) (fun _ _ => True) rfl rfl (⟨_, rfl⟩) (fun _ _ _ _ _ => trivial) (fun w1 hB hG => ?_) (fun v1 A1 hv1 hA => ?_)
      · obtain ⟨nq, rfl⟩ := hB
        clear fa fb
        go_simp
        refine (HR1.out _).mono ?_
        rintro e w2 ⟨rfl, rfl⟩
        first | exact ⟨_, rfl, ⟨nq, rfl⟩, New.refl _, rfl⟩ | exact ⟨_, rfl, ⟨nq, rfl⟩, New.refl _, rfl, trivial⟩ | exact ⟨⟨nq, rfl⟩, New.refl _⟩
      simp [Act.put] at hA
      subst hA
      obtain rfl := hv1
      refine Gro3.take0 1 (by kernel_rfl) ?_
      simp only [List.take, List.drop, List.length]
      repeat (go_big_quiet_step (fail))
      refine wpQuiet_nil ?_
      refine Gro3.take1 1 (by kernel_rfl) ?_
      simp only [List.take, List.drop, List.length]
      repeat (go_big_quiet_step (fail))
      refine wpQuiet_nil ?_
      have hv := HP1.out
      refine Gro3.take0 2 (by kernel_rfl) ?_
      simp only [List.take, List.drop, List.length]
      repeat (go_big_quiet_step (fail))
      refine wpQuiet_nil ?_
      clear hv
      refine Gro3.turn (fun v => v = undef) (fun _ w9 => Lies w9 w.heap.size (.cells #[.int .u64 (W64 p0), .int .u64 (W64 p1), .int .u64 (W64 a2), .int .u64 (W64 a3)] 58 (0, 0))) rfl rfl ⟨_, rfl⟩ (fun w1 hB hG => ?_) (fun v2 A2 hv2 hA => ?_)
      · obtain ⟨nq, rfl⟩ : ∃ nq, w1 = g nq := hB
        have HX := Lib.hid (HGB.out nq)
        have c0 := cell_of_row _ _ 1 _ _ _ HX.out.1
        have cf := fun i => frozen_of_row _ _ i _ _ HX.out.1
        have h0 := heap_setCell_same _ w.heap.size 1 _ _ (.int .u64 (W64 p1)) HX.out.1
        have HLI := Lib.hid (show Lies _ _ _ from h0)
        have HOT := Lib.hid (heap_setCell_other (g nq) ⟨w.heap.size, 1, none⟩ (w.heap.size + 1) (.int .u64 (W64 p1)) (by show w.heap.size + 1 ≠ w.heap.size; omega))
        clear h0 fa fb
        go_simp
        exact ⟨HBA.out _ ⟨⟨_, _, _, _, HLI.out⟩, HOT.out.trans HX.out.2.1, HX.out.2.2.setCell (Nat.le_refl _) _⟩, HLI.out⟩
      simp [Act.put] at hA
      subst hA
      refine Gro3.nil ?_
      rintro w11 ⟨n9, rfl⟩ hG
      have hF := HFA.out n9
      replace HA := Lib.hid (show (f n9).heap[w.heap.size]? = _ from hG)
      replace HO := Lib.hid hF.2.1
      replace HN := Lib.hid hF.2.2
      clear HFA HBA HGB HBB hG hF fa fb HP1 HR1
      generalize f n9 = w2 at *
      have c0 := cell_of_row _ _ 0 _ _ _ HA.out
      have c1 := cell_of_row _ _ 1 _ _ _ HA.out
      have c2 := cell_of_row _ _ 2 _ _ _ HA.out
      have c3 := cell_of_row _ _ 3 _ _ _ HA.out
      have cf := fun i => frozen_of_row _ _ i _ _ HA.out
      go_wp2_with fail
      refine (HR2.out _).mono ?_
      rintro e w9 ⟨rfl, hw9⟩
      replace hw9 := hw9.symm
      subst hw9
      have hv := HP2.out
      go_wp2_with fail
      clear hv c0 c1 c2 c3 cf HP2 HR2
      have hs0 := heap_setCell_same w2 w.heap.size 0 _ _ (.int .u64 (W64 q0)) HA.out
      have ho0 := heap_setCell_other w2 ⟨w.heap.size, 0, none⟩ (w.heap.size + 1) (.int .u64 (W64 q0)) (by show w.heap.size + 1 ≠ w.heap.size; omega)
      have hn0 := HN.out.setCell (p := ⟨w.heap.size, 0, none⟩) (Nat.le_refl _) (.int .u64 (W64 q0))
      have hs1 := heap_setCell_same _ w.heap.size 2 _ _ (.int .u64 (W64 p2)) hs0
      have ho1 := heap_setCell_other (World.setCell w2 ⟨w.heap.size, 0, none⟩ (.int .u64 (W64 q0))) ⟨w.heap.size, 2, none⟩ (w.heap.size + 1) (.int .u64 (W64 p2)) (by show w.heap.size + 1 ≠ w.heap.size; omega)
      have hn1 := hn0.setCell (p := ⟨w.heap.size, 2, none⟩) (Nat.le_refl _) (.int .u64 (W64 p2))
      replace HO := Lib.hid (ho1.trans (ho0.trans HO.out))
      clear HA HN ho0 ho1 hs0 hn0
      generalize hw : (World.setCell (World.setCell w2 ⟨w.heap.size, 0, none⟩ (.int .u64 (W64 q0))) ⟨w.heap.size, 2, none⟩ (.int .u64 (W64 p2))) = w3 at *
      have HA := Lib.hid (show w3.heap[w.heap.size]? = some (.cells #[.int .u64 (W64 q0), .int .u64 (W64 p1), .int .u64 (W64 p2), .int .u64 (W64 a3)] 58 (0, 0)) from hs1)
      have HN := Lib.hid hn1
      clear hs1 hn1 hw
      refine Gro3.wp_region_gro3S (fun w' => (∃ u0 u1 u2 u3 : Value, w'.heap[w.heap.size]? = some (.cells #[u0, u1, u2, u3] 58 (0, 0))) ∧ w'.heap[w.heap.size + 1]? = some (.cells #[.int .u64 0, .int .u64 0, .int .u64 0, .int .u64 0] 58 (0, 0)) ∧ New w w') (fun w' => w'.heap[w.heap.size]? = some (.cells #[.int .u64 (W64 q0), .int .u64 (W64 p1), .int .u64 (W64 p2), .int .u64 (W64 a3)] 58 (0, 0)) ∧ w'.heap[w.heap.size + 1]? = some (.cells #[.int .u64 0, .int .u64 0, .int .u64 0, .int .u64 0] 58 (0, 0)) ∧ New w w') [0,1,2,0,1,0,0,3] New (fun _ _ _ => True) (by kernel_rfl) (by kernel_rfl) (by kernel_rfl) (fun _ _ _ _ _ _ => trivial) (fun w' hw' => ⟨⟨_, _, _, _, hw'.1⟩, hw'.2⟩) (⟨HA.out, HO.out, HN.out.drew⟩) ?_
      intro I J _ _ f g hfa hba hgb hbb
      have HFA := Lib.hid hfa
      have HBA := Lib.hid hba
      have HGB := Lib.hid hgb
      have HBB := Lib.hid hbb
      have fa := fun n => cell_of_row _ _ 3 _ _ _ (hgb n).1
      have fb := fun n => cell_of_row _ _ 2 _ _ _ (hgb n).1
      clear hfa hba hgb hbb
      refine Gro3.take0 1 (by kernel_rfl) ?_
      simp only [List.take, List.drop, List.length]
      repeat (go_big_quiet_step (fail))
      refine wpQuiet_nil ?_
      refine Gro3.take1 1 (by kernel_rfl) ?_
      simp only [List.take, List.drop, List.length]
      repeat (go_big_quiet_step (fail))
      refine wpQuiet_nil ?_
      refine Gro3.callt (fun v => v = .int .u64 (W64 r3)) (fun _ _ => True) rfl rfl (⟨_, rfl⟩) (fun _ _ _ _ _ => trivial) (fun w1 hB hG => ?_) (fun v1 A1 hv1 hA => ?_)
      · obtain ⟨nq, rfl⟩ := hB
        clear fa fb
        go_simp
        refine (HR3.out _).mono ?_
        rintro e w2 ⟨rfl, rfl⟩
        first | exact ⟨_, rfl, ⟨nq, rfl⟩, New.refl _, rfl⟩ | exact ⟨_, rfl, ⟨nq, rfl⟩, New.refl _, rfl, trivial⟩ | exact ⟨⟨nq, rfl⟩, New.refl _⟩
      simp [Act.put] at hA
      subst hA
      obtain rfl := hv1
      refine Gro3.take0 1 (by kernel_rfl) ?_
      simp only [List.take, List.drop, List.length]
      repeat (go_big_quiet_step (fail))
      refine wpQuiet_nil ?_
      refine Gro3.take1 1 (by kernel_rfl) ?_
      simp only [List.take, List.drop, List.length]
      repeat (go_big_quiet_step (fail))
      refine wpQuiet_nil ?_
      have hv := HP3.out
      refine Gro3.take0 2 (by kernel_rfl) ?_
      simp only [List.take, List.drop, List.length]
      repeat (go_big_quiet_step (fail))
      refine wpQuiet_nil ?_
      clear hv
      refine Gro3.turn (fun v => v = undef) (fun _ w9 => Lies w9 w.heap.size (.cells #[.int .u64 (W64 q0), .int .u64 (W64 p1), .int .u64 (W64 p2), .int .u64 (W64 p3)] 58 (0, 0))) rfl rfl ⟨_, rfl⟩ (fun w1 hB hG => ?_) (fun v2 A2 hv2 hA => ?_)
      · obtain ⟨nq, rfl⟩ : ∃ nq, w1 = g nq := hB
        have HX := Lib.hid (HGB.out nq)
        have c0 := cell_of_row _ _ 3 _ _ _ HX.out.1
        have cf := fun i => frozen_of_row _ _ i _ _ HX.out.1
        have h0 := heap_setCell_same _ w.heap.size 3 _ _ (.int .u64 (W64 p3)) HX.out.1
        have HLI := Lib.hid (show Lies _ _ _ from h0)
        have HOT := Lib.hid (heap_setCell_other (g nq) ⟨w.heap.size, 3, none⟩ (w.heap.size + 1) (.int .u64 (W64 p3)) (by show w.heap.size + 1 ≠ w.heap.size; omega))
        clear h0 fa fb
        go_simp
        exact ⟨HBA.out _ ⟨⟨_, _, _, _, HLI.out⟩, HOT.out.trans HX.out.2.1, HX.out.2.2.setCell (Nat.le_refl _) _⟩, HLI.out⟩
      simp [Act.put] at hA
      subst hA
      refine Gro3.nil ?_
      rintro w11 ⟨n9, rfl⟩ hG
      have hF := HFA.out n9
      replace HA := Lib.hid (show (f n9).heap[w.heap.size]? = _ from hG)
      replace HO := Lib.hid hF.2.1
      replace HN := Lib.hid hF.2.2
      clear HFA HBA HGB HBB hG hF fa fb HP3 HR3
      generalize f n9 = w4 at *
      have c0 := cell_of_row _ _ 0 _ _ _ HA.out
      have c1 := cell_of_row _ _ 1 _ _ _ HA.out
      have c2 := cell_of_row _ _ 2 _ _ _ HA.out
      have c3 := cell_of_row _ _ 3 _ _ _ HA.out
      have cf := fun i => frozen_of_row _ _ i _ _ HA.out
      have hv := HE0.out
      go_wp2_with fail
      clear hv c0 c1 c2 c3 cf HE0
      have hs0 := heap_setCell_same w4 w.heap.size 0 _ _ (.int .u64 (W64 e0)) HA.out
      have ho0 := heap_setCell_other w4 ⟨w.heap.size, 0, none⟩ (w.heap.size + 1) (.int .u64 (W64 e0)) (by show w.heap.size + 1 ≠ w.heap.size; omega)
      have hn0 := HN.out.setCell (p := ⟨w.heap.size, 0, none⟩) (Nat.le_refl _) (.int .u64 (W64 e0))
      replace HO := Lib.hid (ho0.trans HO.out)
      clear HA HN ho0 
      generalize hw : (World.setCell w4 ⟨w.heap.size, 0, none⟩ (.int .u64 (W64 e0))) = w5 at *
      have HA := Lib.hid (show w5.heap[w.heap.size]? = some (.cells #[.int .u64 (W64 e0), .int .u64 (W64 p1), .int .u64 (W64 p2), .int .u64 (W64 p3)] 58 (0, 0)) from hs0)
      have HN := Lib.hid hn0
      clear hs0 hn0 hw
      refine Gro3.wp_region_gro3S (fun w' => (∃ u0 u1 u2 u3 : Value, w'.heap[w.heap.size]? = some (.cells #[u0, u1, u2, u3] 58 (0, 0))) ∧ w'.heap[w.heap.size + 1]? = some (.cells #[.int .u64 0, .int .u64 0, .int .u64 0, .int .u64 0] 58 (0, 0)) ∧ New w w') (fun w' => w'.heap[w.heap.size]? = some (.cells #[.int .u64 (W64 e0), .int .u64 (W64 p1), .int .u64 (W64 p2), .int .u64 (W64 p3)] 58 (0, 0)) ∧ w'.heap[w.heap.size + 1]? = some (.cells #[.int .u64 0, .int .u64 0, .int .u64 0, .int .u64 0] 58 (0, 0)) ∧ New w w') [0,1,2,0,1,0,0,3] New (fun _ _ _ => True) (by kernel_rfl) (by kernel_rfl) (by kernel_rfl) (fun _ _ _ _ _ _ => trivial) (fun w' hw' => ⟨⟨_, _, _, _, hw'.1⟩, hw'.2⟩) (⟨HA.out, HO.out, HN.out.drew⟩) ?_
      intro I J _ _ f g hfa hba hgb hbb
      have HFA := Lib.hid hfa
      have HBA := Lib.hid hba
      have HGB := Lib.hid hgb
      have HBB := Lib.hid hbb
      have fa := fun n => cell_of_row _ _ 3 _ _ _ (hgb n).1
      have fb := fun n => cell_of_row _ _ 0 _ _ _ (hgb n).1
      clear hfa hba hgb hbb
      refine Gro3.take0 1 (by kernel_rfl) ?_
      simp only [List.take, List.drop, List.length]
      repeat (go_big_quiet_step (fail))
      refine wpQuiet_nil ?_
      refine Gro3.take1 1 (by kernel_rfl) ?_
      simp only [List.take, List.drop, List.length]
      repeat (go_big_quiet_step (fail))
      refine wpQuiet_nil ?_
      refine Gro3.callt (fun v => v = .int .u64 (W64 r4)) (fun _ _ => True) rfl rfl (⟨_, rfl⟩) (fun _ _ _ _ _ => trivial) (fun w1 hB hG => ?_) (fun v1 A1 hv1 hA => ?_)
      · obtain ⟨nq, rfl⟩ := hB
        clear fa fb
        go_simp
        refine (HR4.out _).mono ?_
        rintro e w2 ⟨rfl, rfl⟩
        first | exact ⟨_, rfl, ⟨nq, rfl⟩, New.refl _, rfl⟩ | exact ⟨_, rfl, ⟨nq, rfl⟩, New.refl _, rfl, trivial⟩ | exact ⟨⟨nq, rfl⟩, New.refl _⟩
      simp [Act.put] at hA
      subst hA
      obtain rfl := hv1
      refine Gro3.take0 1 (by kernel_rfl) ?_
      simp only [List.take, List.drop, List.length]
      repeat (go_big_quiet_step (fail))
      refine wpQuiet_nil ?_
      refine Gro3.take1 1 (by kernel_rfl) ?_
      simp only [List.take, List.drop, List.length]
      repeat (go_big_quiet_step (fail))
      refine wpQuiet_nil ?_
      have hv := HE3.out
      refine Gro3.take0 2 (by kernel_rfl) ?_
      simp only [List.take, List.drop, List.length]
      repeat (go_big_quiet_step (fail))
      refine wpQuiet_nil ?_
      clear hv
      refine Gro3.turn (fun v => v = undef) (fun _ w9 => Lies w9 w.heap.size (.cells #[.int .u64 (W64 e0), .int .u64 (W64 p1), .int .u64 (W64 p2), .int .u64 (W64 e3)] 58 (0, 0))) rfl rfl ⟨_, rfl⟩ (fun w1 hB hG => ?_) (fun v2 A2 hv2 hA => ?_)
      · obtain ⟨nq, rfl⟩ : ∃ nq, w1 = g nq := hB
        have HX := Lib.hid (HGB.out nq)
        have c0 := cell_of_row _ _ 3 _ _ _ HX.out.1
        have cf := fun i => frozen_of_row _ _ i _ _ HX.out.1
        have h0 := heap_setCell_same _ w.heap.size 3 _ _ (.int .u64 (W64 e3)) HX.out.1
        have HLI := Lib.hid (show Lies _ _ _ from h0)
        have HOT := Lib.hid (heap_setCell_other (g nq) ⟨w.heap.size, 3, none⟩ (w.heap.size + 1) (.int .u64 (W64 e3)) (by show w.heap.size + 1 ≠ w.heap.size; omega))
        clear h0 fa fb
        go_simp
        exact ⟨HBA.out _ ⟨⟨_, _, _, _, HLI.out⟩, HOT.out.trans HX.out.2.1, HX.out.2.2.setCell (Nat.le_refl _) _⟩, HLI.out⟩
      simp [Act.put] at hA
      subst hA
      refine Gro3.nil ?_
      rintro w11 ⟨n9, rfl⟩ hG
      have hF := HFA.out n9
      replace HA := Lib.hid (show (f n9).heap[w.heap.size]? = _ from hG)
      replace HO := Lib.hid hF.2.1
      replace HN := Lib.hid hF.2.2
      clear HFA HBA HGB HBB hG hF fa fb HE3 HR4
      generalize f n9 = w6 at *
      have c0 := cell_of_row _ _ 0 _ _ _ HA.out
      have c1 := cell_of_row _ _ 1 _ _ _ HA.out
      have c2 := cell_of_row _ _ 2 _ _ _ HA.out
      have c3 := cell_of_row _ _ 3 _ _ _ HA.out
      have cf := fun i => frozen_of_row _ _ i _ _ HA.out
      have hv := HF2.out
      go_wp2_with fail
      clear hv c0 c1 c2 c3 cf HF2
      have hs0 := heap_setCell_same w6 w.heap.size 2 _ _ (.int .u64 (W64 f2)) HA.out
      have ho0 := heap_setCell_other w6 ⟨w.heap.size, 2, none⟩ (w.heap.size + 1) (.int .u64 (W64 f2)) (by show w.heap.size + 1 ≠ w.heap.size; omega)
      have hn0 := HN.out.setCell (p := ⟨w.heap.size, 2, none⟩) (Nat.le_refl _) (.int .u64 (W64 f2))
      replace HO := Lib.hid (ho0.trans HO.out)
      clear HA HN ho0 
      generalize hw : (World.setCell w6 ⟨w.heap.size, 2, none⟩ (.int .u64 (W64 f2))) = w7 at *
      have HA := Lib.hid (show w7.heap[w.heap.size]? = some (.cells #[.int .u64 (W64 e0), .int .u64 (W64 p1), .int .u64 (W64 f2), .int .u64 (W64 e3)] 58 (0, 0)) from hs0)
      have HN := Lib.hid hn0
      clear hs0 hn0 hw
      refine Gro3.wp_region_gro3S (fun w' => (∃ u0 u1 u2 u3 : Value, w'.heap[w.heap.size]? = some (.cells #[u0, u1, u2, u3] 58 (0, 0))) ∧ w'.heap[w.heap.size + 1]? = some (.cells #[.int .u64 0, .int .u64 0, .int .u64 0, .int .u64 0] 58 (0, 0)) ∧ New w w') (fun w' => w'.heap[w.heap.size]? = some (.cells #[.int .u64 (W64 e0), .int .u64 (W64 p1), .int .u64 (W64 f2), .int .u64 (W64 e3)] 58 (0, 0)) ∧ w'.heap[w.heap.size + 1]? = some (.cells #[.int .u64 0, .int .u64 0, .int .u64 0, .int .u64 0] 58 (0, 0)) ∧ New w w') [0,1,2,0,1,0,0,3] New (fun _ _ _ => True) (by kernel_rfl) (by kernel_rfl) (by kernel_rfl) (fun _ _ _ _ _ _ => trivial) (fun w' hw' => ⟨⟨_, _, _, _, hw'.1⟩, hw'.2⟩) (⟨HA.out, HO.out, HN.out.drew⟩) ?_
      intro I J _ _ f g hfa hba hgb hbb
      have HFA := Lib.hid hfa
      have HBA := Lib.hid hba
      have HGB := Lib.hid hgb
      have HBB := Lib.hid hbb
      have fa := fun n => cell_of_row _ _ 1 _ _ _ (hgb n).1
      have fb := fun n => cell_of_row _ _ 2 _ _ _ (hgb n).1
      clear hfa hba hgb hbb
      refine Gro3.take0 1 (by kernel_rfl) ?_
      simp only [List.take, List.drop, List.length]
      repeat (go_big_quiet_step (fail))
      refine wpQuiet_nil ?_
      refine Gro3.take1 1 (by kernel_rfl) ?_
      simp only [List.take, List.drop, List.length]
      repeat (go_big_quiet_step (fail))
      refine wpQuiet_nil ?_
      refine Gro3.callt (fun v => v = .int .u64 (W64 r5)) (fun _ _ => True) rfl rfl (⟨_, rfl⟩) (fun _ _ _ _ _ => trivial) (fun w1 hB hG => ?_) (fun v1 A1 hv1 hA => ?_)
      · obtain ⟨nq, rfl⟩ := hB
        clear fa fb
        go_simp
        refine (HR5.out _).mono ?_
        rintro e w2 ⟨rfl, rfl⟩
        first | exact ⟨_, rfl, ⟨nq, rfl⟩, New.refl _, rfl⟩ | exact ⟨_, rfl, ⟨nq, rfl⟩, New.refl _, rfl, trivial⟩ | exact ⟨⟨nq, rfl⟩, New.refl _⟩
      simp [Act.put] at hA
      subst hA
      obtain rfl := hv1
      refine Gro3.take0 1 (by kernel_rfl) ?_
      simp only [List.take, List.drop, List.length]
      repeat (go_big_quiet_step (fail))
      refine wpQuiet_nil ?_
      refine Gro3.take1 1 (by kernel_rfl) ?_
      simp only [List.take, List.drop, List.length]
      repeat (go_big_quiet_step (fail))
      refine wpQuiet_nil ?_
      have hv := HE1.out
      refine Gro3.take0 2 (by kernel_rfl) ?_
      simp only [List.take, List.drop, List.length]
      repeat (go_big_quiet_step (fail))
      refine wpQuiet_nil ?_
      clear hv
      refine Gro3.turn (fun v => v = undef) (fun _ w9 => Lies w9 w.heap.size (.cells #[.int .u64 (W64 e0), .int .u64 (W64 e1), .int .u64 (W64 f2), .int .u64 (W64 e3)] 58 (0, 0))) rfl rfl ⟨_, rfl⟩ (fun w1 hB hG => ?_) (fun v2 A2 hv2 hA => ?_)
      · obtain ⟨nq, rfl⟩ : ∃ nq, w1 = g nq := hB
        have HX := Lib.hid (HGB.out nq)
        have c0 := cell_of_row _ _ 1 _ _ _ HX.out.1
        have cf := fun i => frozen_of_row _ _ i _ _ HX.out.1
        have h0 := heap_setCell_same _ w.heap.size 1 _ _ (.int .u64 (W64 e1)) HX.out.1
        have HLI := Lib.hid (show Lies _ _ _ from h0)
        have HOT := Lib.hid (heap_setCell_other (g nq) ⟨w.heap.size, 1, none⟩ (w.heap.size + 1) (.int .u64 (W64 e1)) (by show w.heap.size + 1 ≠ w.heap.size; omega))
        clear h0 fa fb
        go_simp
        exact ⟨HBA.out _ ⟨⟨_, _, _, _, HLI.out⟩, HOT.out.trans HX.out.2.1, HX.out.2.2.setCell (Nat.le_refl _) _⟩, HLI.out⟩
      simp [Act.put] at hA
      subst hA
      refine Gro3.nil ?_
      rintro w11 ⟨n9, rfl⟩ hG
      have hF := HFA.out n9
      replace HA := Lib.hid (show (f n9).heap[w.heap.size]? = _ from hG)
      replace HO := Lib.hid hF.2.1
      replace HN := Lib.hid hF.2.2
      clear HFA HBA HGB HBB hG hF fa fb HE1 HR5
      generalize f n9 = w8 at *
      have c0 := cell_of_row _ _ 0 _ _ _ HA.out
      have c1 := cell_of_row _ _ 1 _ _ _ HA.out
      have c2 := cell_of_row _ _ 2 _ _ _ HA.out
      have c3 := cell_of_row _ _ 3 _ _ _ HA.out
      have cf := fun i => frozen_of_row _ _ i _ _ HA.out
      go_wp2_with fail
      refine (HR6.out _).mono ?_
      rintro e w9 ⟨rfl, hw9⟩
      replace hw9 := hw9.symm
      subst hw9
      go_wp2
      refine ⟨⟨k + 1, by omega, by go_num, ?_, ?_, HN.out.setCell (Nat.le_refl _) _⟩, by simp [intOf]; omega⟩
      · rw [HONE.out]; exact heap_setCell_same _ w.heap.size 2 _ _ (.int .u64 (W64 e2)) HA.out
      · rw [heap_setCell_other _ _ _ _ (by show w.heap.size + 1 ≠ w.heap.size; omega)]; exact HO.out
    · obtain rfl : k = n := by omega
      clear HSU
      have z0 := cell_of_row _ _ 0 _ _ _ HO.out
      have z1 := cell_of_row _ _ 1 _ _ _ HO.out
      have z2 := cell_of_row _ _ 2 _ _ _ HO.out
      have z3 := cell_of_row _ _ 3 _ _ _ HO.out
      have c0 := cell_of_row _ _ 0 _ _ _ HA.out
      have c1 := cell_of_row _ _ 1 _ _ _ HA.out
      have c2 := cell_of_row _ _ 2 _ _ _ HA.out
      have c3 := cell_of_row _ _ 3 _ _ _ HA.out
      have zf := fun i => frozen_of_row _ _ i _ _ HO.out
      go_wp2
      refine bodyPost_ret (by simp [results, Try.results42, go_sem, z0, z1, z2, z3]; try rfl) rfl ?_
      rw [HCUR.out]
      exact ⟨rfl, ((((HN.out.setCell (by show w.heap.size ≤ w.heap.size + 1; omega) _).setCell (by show w.heap.size ≤ w.heap.size + 1; omega) _).setCell (by show w.heap.size ≤ w.heap.size + 1; omega) _).setCell (by show w.heap.size ≤ w.heap.size + 1; omega) _)⟩
end Go.Proofs.Ytoplabhoedloeaa
