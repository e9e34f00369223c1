/- Contracts of load.Le32, load.Le64 and of the document's own Num, There and Left, Rot32, Rot64, Swap: what each call returns. -/
import Derived.Test.YthcolfmjjfjmiaaDoorLoadA
namespace Go.Proofs.YthcolfmjjfjmiaaDoor
open Go.RowKit Go.Bv
set_option linter.unusedVariables false
theorem BRow_sub {w : World} {b off len cap k n : Nat} {l : List (BitVec 8)} (h : BRow w (some ⟨b, off, none⟩) len cap l) (hk : k + n ≤ len) :
    BRow w (some ⟨b, off + k, none⟩) n n ((l.drop k).take n) where
  len_eq := by have := h.len_eq; simp; omega
  le := Nat.le_refl _
  most := by have := h.most; omega
  room := by have := h.most; omega
  none := by intro e; cases e
  cell := by
    intro b' off' e i hi
    cases e
    have := h.cell b off rfl (k + i) (by omega)
    rw [Nat.add_assoc, this]
    have e2 : ((l.drop k).take n).getD i 0 = l.getD (k + i) 0 := by
      simp [List.getD_eq_getElem?_getD, hi, List.getElem?_drop]
    rw [e2]
  spot := by intro x e _; cases e; rfl
  old := by intro x e h0; cases e; exact h.old ⟨b, off, Option.none⟩ rfl (by omega)
theorem num_sub (l : List (BitVec 8)) (k n : Nat) : num (fun i => ((l.drop k).take n).getD i 0) n = num (fun i => l.getD (k + i) 0) n :=
  num_congr n (fun i hi => by simp [List.getD_eq_getElem?_getD, hi, List.getElem?_drop])
set_option maxHeartbeats 1000000 in
theorem cut_yes (b off len cap k n : Nat) (l : List (BitVec 8)) (w : World) (h : BRow w (some ⟨b, off, none⟩) len cap l) (hn : 0 < n ∧ n ≤ 8) (hk : k + n ≤ len) :
    Calls Tryd.prog 29 #[.slice (some ⟨b, off, none⟩) len cap, .int .i64 k, .int .i64 n] w fun e w' =>
      e = .returned (.tuple #[.slice (some ⟨b, off + k, none⟩) n n, .bool true]) ∧ w' = w := by
  have hm := h.most
  have hl := h.le
  have h1 : ¬ ((k : Int) < 0) := by omega
  have h2 : ¬ ((len : Int) - n < (k : Int)) := by omega
  go_enter Tryd.func29, Tryd.ntmps29
  go_wp2
  go_ret2
  exact ⟨rfl, rfl⟩
set_option maxHeartbeats 1000000 in
theorem cut_no (a : Option Addr) (len cap n : Nat) (k : Int) (w : World) (hn : 0 < n ∧ n ≤ 8) (hm : len ≤ 140737488355328) (hk : k < 0 ∨ (len : Int) < k + n) (hk2 : -9223372036854775808 ≤ k ∧ k ≤ 9223372036854775807) :
    Calls Tryd.prog 29 #[.slice a len cap, .int .i64 k, .int .i64 n] w fun e w' =>
      e = .returned (.tuple #[.slice none 0 0, .bool false]) ∧ w' = w := by
  by_cases h0 : k < 0
  · go_enter Tryd.func29, Tryd.ntmps29
    go_wp2
    go_ret2
    exact ⟨rfl, rfl⟩
  · have h2 : (len : Int) - n < k := by omega
    go_enter Tryd.func29, Tryd.ntmps29
    go_wp2
    go_ret2
    exact ⟨rfl, rfl⟩
def rd (l : List (BitVec 8)) (k n : Nat) : BitVec 64 := num (fun i => l.getD (k + i) 0) n
set_option maxHeartbeats 1000000 in
theorem le32_yes (b off len cap k : Nat) (l : List (BitVec 8)) (w : World) (h : BRow w (some ⟨b, off, none⟩) len cap l) (hk : k + 4 ≤ len) :
    Calls Tryd.prog 20 #[.slice (some ⟨b, off, none⟩) len cap, .int .i64 k] w fun e w' =>
      e = .returned (.tuple #[.int .u32 (W32 ((rd l k 4).setWidth 32)), .bool true]) ∧ w' = w := by
  have h2 := BRow_sub (n := 4) h hk
  go_enter Tryd.func20, Tryd.ntmps20
  go_wp2_with fail
  refine (cut_yes b off len cap k 4 l w h (by omega) hk).mono ?_
  rintro e w' ⟨rfl, rfl⟩
  go_wp2_with fail
  refine (tail_any _ _ _ _ _ h2).mono ?_
  rintro e w' ⟨rfl, rfl⟩
  rw [show min 4 8 = 4 from rfl, num_sub]
  go_wp2
  go_ret2
  exact ⟨rfl, rfl⟩
set_option maxHeartbeats 1000000 in
theorem le32_no (a : Option Addr) (len cap : Nat) (k : Int) (w : World) (hm : len ≤ 140737488355328) (hk : k < 0 ∨ (len : Int) < k + 4) (hk2 : -9223372036854775808 ≤ k ∧ k ≤ 9223372036854775807) :
    Calls Tryd.prog 20 #[.slice a len cap, .int .i64 k] w fun e w' =>
      e = .returned (.tuple #[.int .u32 (W32 0#32), .bool false]) ∧ w' = w := by
  go_enter Tryd.func20, Tryd.ntmps20
  go_wp2_with fail
  refine (cut_no a len cap 4 k w (by omega) hm hk hk2).mono ?_
  rintro e w' ⟨rfl, rfl⟩
  go_wp2_with fail
  refine (tail_0 none 0 w').mono ?_
  rintro e w' ⟨rfl, rfl⟩
  go_wp2
  go_ret2
  exact ⟨rfl, rfl⟩
end Go.Proofs.YthcolfmjjfjmiaaDoor
