/- Contracts of load.Tail, load.Le32, load.Le64 and of the document's own Num and There: what each call returns, for all bytes. -/
import Derived.Test.YtjmnhooenampkaaGreatDoorProg
import Derived.Test.YtjmnhooenampkaaGreatDoorRow
namespace Go.Proofs.YtjmnhooenampkaaGreatDoor
open Go.RowKit Go.Bv
set_option linter.unusedVariables false
theorem num_eq1 (f : Nat → BitVec 8) : num f 1 = ((f 0).setWidth 64) := by
  simp [num_or, num_zero]
theorem num_eq2 (f : Nat → BitVec 8) : num f 2 = (((f 1).setWidth 64 <<< 8) ||| (f 0).setWidth 64) := by
  simp only [num_or, num_zero, BitVec.shiftLeft_or_distrib, ← BitVec.shiftLeft_add]
  simp
theorem num_eq3 (f : Nat → BitVec 8) : num f 3 = ((((f 2).setWidth 64 <<< 16) ||| (f 1).setWidth 64 <<< 8) ||| (f 0).setWidth 64) := by
  simp only [num_or, num_zero, BitVec.shiftLeft_or_distrib, ← BitVec.shiftLeft_add]
  simp
theorem num_eq4 (f : Nat → BitVec 8) : num f 4 = (((((f 3).setWidth 64 <<< 24) ||| (f 2).setWidth 64 <<< 16) ||| (f 1).setWidth 64 <<< 8) ||| (f 0).setWidth 64) := by
  simp only [num_or, num_zero, BitVec.shiftLeft_or_distrib, ← BitVec.shiftLeft_add]
  simp
theorem num_eq5 (f : Nat → BitVec 8) : num f 5 = ((((((f 4).setWidth 64 <<< 32) ||| (f 3).setWidth 64 <<< 24) ||| (f 2).setWidth 64 <<< 16) ||| (f 1).setWidth 64 <<< 8) ||| (f 0).setWidth 64) := by
  simp only [num_or, num_zero, BitVec.shiftLeft_or_distrib, ← BitVec.shiftLeft_add]
  simp
theorem num_eq6 (f : Nat → BitVec 8) : num f 6 = (((((((f 5).setWidth 64 <<< 40) ||| (f 4).setWidth 64 <<< 32) ||| (f 3).setWidth 64 <<< 24) ||| (f 2).setWidth 64 <<< 16) ||| (f 1).setWidth 64 <<< 8) ||| (f 0).setWidth 64) := by
  simp only [num_or, num_zero, BitVec.shiftLeft_or_distrib, ← BitVec.shiftLeft_add]
  simp
theorem num_eq7 (f : Nat → BitVec 8) : num f 7 = ((((((((f 6).setWidth 64 <<< 48) ||| (f 5).setWidth 64 <<< 40) ||| (f 4).setWidth 64 <<< 32) ||| (f 3).setWidth 64 <<< 24) ||| (f 2).setWidth 64 <<< 16) ||| (f 1).setWidth 64 <<< 8) ||| (f 0).setWidth 64) := by
  simp only [num_or, num_zero, BitVec.shiftLeft_or_distrib, ← BitVec.shiftLeft_add]
  simp
theorem num_eq8 (f : Nat → BitVec 8) : num f 8 = (((((((((f 7).setWidth 64 <<< 56) ||| (f 6).setWidth 64 <<< 48) ||| (f 5).setWidth 64 <<< 40) ||| (f 4).setWidth 64 <<< 32) ||| (f 3).setWidth 64 <<< 24) ||| (f 2).setWidth 64 <<< 16) ||| (f 1).setWidth 64 <<< 8) ||| (f 0).setWidth 64) := by
  simp only [num_or, num_zero, BitVec.shiftLeft_or_distrib, ← BitVec.shiftLeft_add]
  simp
set_option maxHeartbeats 1000000 in
theorem tail_1 (b off cap : Nat) (x0 : BitVec 8) (w : World) (c0 : w.cell? ⟨b, off, none⟩ = some (.int .u8 (W8 x0))) :
    Calls Tryz.prog 49 #[.slice (some ⟨b, off, none⟩) 1 cap] w fun e w' => e = .returned (.int .u64 (W64 ((x0).setWidth 64))) ∧ w' = w := by
  go_enter Tryz.func49, Tryz.ntmps49
  go_wp2
  go_ret
  exact ⟨ret64 rfl, rfl⟩
set_option maxHeartbeats 1000000 in
theorem tail_2 (b off cap : Nat) (x0 x1 : BitVec 8) (w : World) (c0 : w.cell? ⟨b, off, none⟩ = some (.int .u8 (W8 x0))) (c1 : w.cell? ⟨b, off + 1, none⟩ = some (.int .u8 (W8 x1))) :
    Calls Tryz.prog 49 #[.slice (some ⟨b, off, none⟩) 2 cap] w fun e w' => e = .returned (.int .u64 (W64 (((x1).setWidth 64 <<< 8) ||| (x0).setWidth 64))) ∧ w' = w := by
  go_enter Tryz.func49, Tryz.ntmps49
  go_wp2
  go_ret
  exact ⟨ret64 rfl, rfl⟩
set_option maxHeartbeats 1000000 in
theorem tail_3 (b off cap : Nat) (x0 x1 x2 : BitVec 8) (w : World) (c0 : w.cell? ⟨b, off, none⟩ = some (.int .u8 (W8 x0))) (c1 : w.cell? ⟨b, off + 1, none⟩ = some (.int .u8 (W8 x1))) (c2 : w.cell? ⟨b, off + 2, none⟩ = some (.int .u8 (W8 x2))) :
    Calls Tryz.prog 49 #[.slice (some ⟨b, off, none⟩) 3 cap] w fun e w' => e = .returned (.int .u64 (W64 ((((x2).setWidth 64 <<< 16) ||| (x1).setWidth 64 <<< 8) ||| (x0).setWidth 64))) ∧ w' = w := by
  go_enter Tryz.func49, Tryz.ntmps49
  go_wp2
  go_ret
  exact ⟨ret64 rfl, rfl⟩
set_option maxHeartbeats 1000000 in
theorem tail_4 (b off cap : Nat) (x0 x1 x2 x3 : BitVec 8) (w : World) (c0 : w.cell? ⟨b, off, none⟩ = some (.int .u8 (W8 x0))) (c1 : w.cell? ⟨b, off + 1, none⟩ = some (.int .u8 (W8 x1))) (c2 : w.cell? ⟨b, off + 2, none⟩ = some (.int .u8 (W8 x2))) (c3 : w.cell? ⟨b, off + 3, none⟩ = some (.int .u8 (W8 x3))) :
    Calls Tryz.prog 49 #[.slice (some ⟨b, off, none⟩) 4 cap] w fun e w' => e = .returned (.int .u64 (W64 (((((x3).setWidth 64 <<< 24) ||| (x2).setWidth 64 <<< 16) ||| (x1).setWidth 64 <<< 8) ||| (x0).setWidth 64))) ∧ w' = w := by
  go_enter Tryz.func49, Tryz.ntmps49
  go_wp2
  go_ret
  exact ⟨ret64 rfl, rfl⟩
set_option maxHeartbeats 1000000 in
theorem tail_5 (b off cap : Nat) (x0 x1 x2 x3 x4 : BitVec 8) (w : World) (c0 : w.cell? ⟨b, off, none⟩ = some (.int .u8 (W8 x0))) (c1 : w.cell? ⟨b, off + 1, none⟩ = some (.int .u8 (W8 x1))) (c2 : w.cell? ⟨b, off + 2, none⟩ = some (.int .u8 (W8 x2))) (c3 : w.cell? ⟨b, off + 3, none⟩ = some (.int .u8 (W8 x3))) (c4 : w.cell? ⟨b, off + 4, none⟩ = some (.int .u8 (W8 x4))) :
    Calls Tryz.prog 49 #[.slice (some ⟨b, off, none⟩) 5 cap] w fun e w' => e = .returned (.int .u64 (W64 ((((((x4).setWidth 64 <<< 32) ||| (x3).setWidth 64 <<< 24) ||| (x2).setWidth 64 <<< 16) ||| (x1).setWidth 64 <<< 8) ||| (x0).setWidth 64))) ∧ w' = w := by
  go_enter Tryz.func49, Tryz.ntmps49
  go_wp2
  go_ret
  exact ⟨ret64 rfl, rfl⟩
set_option maxHeartbeats 1000000 in
theorem tail_6 (b off cap : Nat) (x0 x1 x2 x3 x4 x5 : BitVec 8) (w : World) (c0 : w.cell? ⟨b, off, none⟩ = some (.int .u8 (W8 x0))) (c1 : w.cell? ⟨b, off + 1, none⟩ = some (.int .u8 (W8 x1))) (c2 : w.cell? ⟨b, off + 2, none⟩ = some (.int .u8 (W8 x2))) (c3 : w.cell? ⟨b, off + 3, none⟩ = some (.int .u8 (W8 x3))) (c4 : w.cell? ⟨b, off + 4, none⟩ = some (.int .u8 (W8 x4))) (c5 : w.cell? ⟨b, off + 5, none⟩ = some (.int .u8 (W8 x5))) :
    Calls Tryz.prog 49 #[.slice (some ⟨b, off, none⟩) 6 cap] w fun e w' => e = .returned (.int .u64 (W64 (((((((x5).setWidth 64 <<< 40) ||| (x4).setWidth 64 <<< 32) ||| (x3).setWidth 64 <<< 24) ||| (x2).setWidth 64 <<< 16) ||| (x1).setWidth 64 <<< 8) ||| (x0).setWidth 64))) ∧ w' = w := by
  go_enter Tryz.func49, Tryz.ntmps49
  go_wp2
  go_ret
  exact ⟨ret64 rfl, rfl⟩
set_option maxHeartbeats 1000000 in
theorem tail_7 (b off cap : Nat) (x0 x1 x2 x3 x4 x5 x6 : BitVec 8) (w : World) (c0 : w.cell? ⟨b, off, none⟩ = some (.int .u8 (W8 x0))) (c1 : w.cell? ⟨b, off + 1, none⟩ = some (.int .u8 (W8 x1))) (c2 : w.cell? ⟨b, off + 2, none⟩ = some (.int .u8 (W8 x2))) (c3 : w.cell? ⟨b, off + 3, none⟩ = some (.int .u8 (W8 x3))) (c4 : w.cell? ⟨b, off + 4, none⟩ = some (.int .u8 (W8 x4))) (c5 : w.cell? ⟨b, off + 5, none⟩ = some (.int .u8 (W8 x5))) (c6 : w.cell? ⟨b, off + 6, none⟩ = some (.int .u8 (W8 x6))) :
    Calls Tryz.prog 49 #[.slice (some ⟨b, off, none⟩) 7 cap] w fun e w' => e = .returned (.int .u64 (W64 ((((((((x6).setWidth 64 <<< 48) ||| (x5).setWidth 64 <<< 40) ||| (x4).setWidth 64 <<< 32) ||| (x3).setWidth 64 <<< 24) ||| (x2).setWidth 64 <<< 16) ||| (x1).setWidth 64 <<< 8) ||| (x0).setWidth 64))) ∧ w' = w := by
  go_enter Tryz.func49, Tryz.ntmps49
  go_wp2
  go_ret
  exact ⟨ret64 rfl, rfl⟩
set_option maxHeartbeats 1000000 in
theorem tail_8 (b off cap : Nat) (x0 x1 x2 x3 x4 x5 x6 x7 : BitVec 8) (w : World) (c0 : w.cell? ⟨b, off, none⟩ = some (.int .u8 (W8 x0))) (c1 : w.cell? ⟨b, off + 1, none⟩ = some (.int .u8 (W8 x1))) (c2 : w.cell? ⟨b, off + 2, none⟩ = some (.int .u8 (W8 x2))) (c3 : w.cell? ⟨b, off + 3, none⟩ = some (.int .u8 (W8 x3))) (c4 : w.cell? ⟨b, off + 4, none⟩ = some (.int .u8 (W8 x4))) (c5 : w.cell? ⟨b, off + 5, none⟩ = some (.int .u8 (W8 x5))) (c6 : w.cell? ⟨b, off + 6, none⟩ = some (.int .u8 (W8 x6))) (c7 : w.cell? ⟨b, off + 7, none⟩ = some (.int .u8 (W8 x7))) :
    Calls Tryz.prog 49 #[.slice (some ⟨b, off, none⟩) 8 cap] w fun e w' => e = .returned (.int .u64 (W64 (((((((((x7).setWidth 64 <<< 56) ||| (x6).setWidth 64 <<< 48) ||| (x5).setWidth 64 <<< 40) ||| (x4).setWidth 64 <<< 32) ||| (x3).setWidth 64 <<< 24) ||| (x2).setWidth 64 <<< 16) ||| (x1).setWidth 64 <<< 8) ||| (x0).setWidth 64))) ∧ w' = w := by
  go_enter Tryz.func49, Tryz.ntmps49
  go_wp2
  go_ret
  exact ⟨ret64 rfl, rfl⟩
set_option maxHeartbeats 1000000 in
theorem tail_9 (b off len cap : Nat) (x0 x1 x2 x3 x4 x5 x6 x7 : BitVec 8) (w : World) (hl : 9 ≤ len) (hm : len ≤ 140737488355328) (c0 : w.cell? ⟨b, off, none⟩ = some (.int .u8 (W8 x0))) (c1 : w.cell? ⟨b, off + 1, none⟩ = some (.int .u8 (W8 x1))) (c2 : w.cell? ⟨b, off + 2, none⟩ = some (.int .u8 (W8 x2))) (c3 : w.cell? ⟨b, off + 3, none⟩ = some (.int .u8 (W8 x3))) (c4 : w.cell? ⟨b, off + 4, none⟩ = some (.int .u8 (W8 x4))) (c5 : w.cell? ⟨b, off + 5, none⟩ = some (.int .u8 (W8 x5))) (c6 : w.cell? ⟨b, off + 6, none⟩ = some (.int .u8 (W8 x6))) (c7 : w.cell? ⟨b, off + 7, none⟩ = some (.int .u8 (W8 x7))) :
    Calls Tryz.prog 49 #[.slice (some ⟨b, off, none⟩) len cap] w fun e w' => e = .returned (.int .u64 (W64 (((((((((x7).setWidth 64 <<< 56) ||| (x6).setWidth 64 <<< 48) ||| (x5).setWidth 64 <<< 40) ||| (x4).setWidth 64 <<< 32) ||| (x3).setWidth 64 <<< 24) ||| (x2).setWidth 64 <<< 16) ||| (x1).setWidth 64 <<< 8) ||| (x0).setWidth 64))) ∧ w' = w := by
  have hp : (8 : Int) < (len : Int) := by omega
  go_enter Tryz.func49, Tryz.ntmps49
  go_wp2
  go_ret
  exact ⟨ret64 rfl, rfl⟩
set_option maxHeartbeats 1000000 in
theorem tail_0 (a : Option Addr) (cap : Nat) (w : World) :
    Calls Tryz.prog 49 #[.slice a 0 cap] w fun e w' => e = .returned (.int .u64 (W64 0#64)) ∧ w' = w := by
  go_enter Tryz.func49, Tryz.ntmps49
  go_wp2
  go_ret
  exact ⟨rfl, rfl⟩
theorem tail_any (a : Option Addr) (len cap : Nat) (l : List (BitVec 8)) (w : World) (h : BRow w a len cap l) :
    Calls Tryz.prog 49 #[.slice a len cap] w fun e w' => e = .returned (.int .u64 (W64 (num (fun i => l.getD i 0) (min len 8)))) ∧ w' = w := by
  have hm := h.most
  have hl := h.le
  by_cases h0 : len = 0
  · subst h0; exact tail_0 a cap w
  obtain ⟨b, off, rfl, hc⟩ := h.addr (by omega)
  by_cases h1 : len = 1
  · subst h1
    rw [show min 1 8 = 1 from rfl, num_eq1]
    exact tail_1 b off cap _ w (hc 0 (by omega))
  by_cases h2 : len = 2
  · subst h2
    rw [show min 2 8 = 2 from rfl, num_eq2]
    exact tail_2 b off cap _ _ w (hc 0 (by omega)) (hc 1 (by omega))
  by_cases h3 : len = 3
  · subst h3
    rw [show min 3 8 = 3 from rfl, num_eq3]
    exact tail_3 b off cap _ _ _ w (hc 0 (by omega)) (hc 1 (by omega)) (hc 2 (by omega))
  by_cases h4 : len = 4
  · subst h4
    rw [show min 4 8 = 4 from rfl, num_eq4]
    exact tail_4 b off cap _ _ _ _ w (hc 0 (by omega)) (hc 1 (by omega)) (hc 2 (by omega)) (hc 3 (by omega))
  by_cases h5 : len = 5
  · subst h5
    rw [show min 5 8 = 5 from rfl, num_eq5]
    exact tail_5 b off cap _ _ _ _ _ w (hc 0 (by omega)) (hc 1 (by omega)) (hc 2 (by omega)) (hc 3 (by omega)) (hc 4 (by omega))
  by_cases h6 : len = 6
  · subst h6
    rw [show min 6 8 = 6 from rfl, num_eq6]
    exact tail_6 b off cap _ _ _ _ _ _ w (hc 0 (by omega)) (hc 1 (by omega)) (hc 2 (by omega)) (hc 3 (by omega)) (hc 4 (by omega)) (hc 5 (by omega))
  by_cases h7 : len = 7
  · subst h7
    rw [show min 7 8 = 7 from rfl, num_eq7]
    exact tail_7 b off cap _ _ _ _ _ _ _ w (hc 0 (by omega)) (hc 1 (by omega)) (hc 2 (by omega)) (hc 3 (by omega)) (hc 4 (by omega)) (hc 5 (by omega)) (hc 6 (by omega))
  by_cases h8 : len = 8
  · subst h8
    rw [show min 8 8 = 8 from rfl, num_eq8]
    exact tail_8 b off cap _ _ _ _ _ _ _ _ w (hc 0 (by omega)) (hc 1 (by omega)) (hc 2 (by omega)) (hc 3 (by omega)) (hc 4 (by omega)) (hc 5 (by omega)) (hc 6 (by omega)) (hc 7 (by omega))
  rw [show min len 8 = 8 by omega, num_eq8]
  exact tail_9 b off len cap _ _ _ _ _ _ _ _ w (by omega) (by omega) (hc 0 (by omega)) (hc 1 (by omega)) (hc 2 (by omega)) (hc 3 (by omega)) (hc 4 (by omega)) (hc 5 (by omega)) (hc 6 (by omega)) (hc 7 (by omega))
end Go.Proofs.YtjmnhooenampkaaGreatDoor
