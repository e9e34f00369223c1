/- Contracts of load.Le32, load.Le64 and of the document's own Num, There and Left, Rot32, Rot64, Swap: what each call returns. -/
import Derived.Test.YtjmnhooenampkaaGreatDoorLoadA
namespace Go.Proofs.YtjmnhooenampkaaGreatDoor
open Go.RowKit Go.Bv
set_option linter.unusedVariables false
theorem BRow_sub {w : World} {b off len cap k n : Nat} {l : List (BitVec 8)} (h : BRow w (some ⟨b, off, none⟩) len cap l) (hk : k + n ≤ len) :
    BRow w (some ⟨b, off + k, none⟩) n n ((l.drop k).take n) where
  len_eq := by have := h.len_eq; simp; omega
  le := Nat.le_refl _
  most := by have := h.most; omega
  room := by have := h.most; omega
  none := by intro e; cases e
  cell := by
    intro b' off' e i hi
    cases e
    have := h.cell b off rfl (k + i) (by omega)
    rw [Nat.add_assoc, this]
    have e2 : ((l.drop k).take n).getD i 0 = l.getD (k + i) 0 := by
      simp [List.getD_eq_getElem?_getD, hi, List.getElem?_drop]
    rw [e2]
  spot := by intro x e _; cases e; rfl
  old := by intro x e h0; cases e; exact h.old ⟨b, off, Option.none⟩ rfl (by omega)
theorem num_sub (l : List (BitVec 8)) (k n : Nat) : num (fun i => ((l.drop k).take n).getD i 0) n = num (fun i => l.getD (k + i) 0) n :=
  num_congr n (fun i hi => by simp [List.getD_eq_getElem?_getD, hi, List.getElem?_drop])
set_option maxHeartbeats 1000000 in
theorem cut_yes (b off len cap k n : Nat) (l : List (BitVec 8)) (w : World) (h : BRow w (some ⟨b, off, none⟩) len cap l) (hn : 0 < n ∧ n ≤ 8) (hk : k + n ≤ len) :
    Calls Tryz.prog 48 #[.slice (some ⟨b, off, none⟩) len cap, .int .i64 k, .int .i64 n] w fun e w' =>
      e = .returned (.tuple #[.slice (some ⟨b, off + k, none⟩) n n, .bool true]) ∧ w' = w := by
  have hm := h.most
  have hl := h.le
  have h1 : ¬ ((k : Int) < 0) := by omega
  have h2 : ¬ ((len : Int) - n < (k : Int)) := by omega
  go_enter Tryz.func48, Tryz.ntmps48
  go_wp2
  go_ret2
  exact ⟨rfl, rfl⟩
set_option maxHeartbeats 1000000 in
theorem cut_no (a : Option Addr) (len cap n : Nat) (k : Int) (w : World) (hn : 0 < n ∧ n ≤ 8) (hm : len ≤ 140737488355328) (hk : k < 0 ∨ (len : Int) < k + n) (hk2 : -9223372036854775808 ≤ k ∧ k ≤ 9223372036854775807) :
    Calls Tryz.prog 48 #[.slice a len cap, .int .i64 k, .int .i64 n] w fun e w' =>
      e = .returned (.tuple #[.slice none 0 0, .bool false]) ∧ w' = w := by
  by_cases h0 : k < 0
  · go_enter Tryz.func48, Tryz.ntmps48
    go_wp2
    go_ret2
    exact ⟨rfl, rfl⟩
  · have h2 : (len : Int) - n < k := by omega
    go_enter Tryz.func48, Tryz.ntmps48
    go_wp2
    go_ret2
    exact ⟨rfl, rfl⟩
def rd (l : List (BitVec 8)) (k n : Nat) : BitVec 64 := num (fun i => l.getD (k + i) 0) n
set_option maxHeartbeats 1000000 in
theorem le32_yes (b off len cap k : Nat) (l : List (BitVec 8)) (w : World) (h : BRow w (some ⟨b, off, none⟩) len cap l) (hk : k + 4 ≤ len) :
    Calls Tryz.prog 47 #[.slice (some ⟨b, off, none⟩) len cap, .int .i64 k] w fun e w' =>
      e = .returned (.tuple #[.int .u32 (W32 ((rd l k 4).setWidth 32)), .bool true]) ∧ w' = w := by
  have h2 := BRow_sub (n := 4) h hk
  go_enter Tryz.func47, Tryz.ntmps47
  go_wp2_with fail
  refine (cut_yes b off len cap k 4 l w h (by omega) hk).mono ?_
  rintro e w' ⟨rfl, rfl⟩
  go_wp2_with fail
  refine (tail_any _ _ _ _ _ h2).mono ?_
  rintro e w' ⟨rfl, rfl⟩
  rw [show min 4 8 = 4 from rfl, num_sub]
  go_wp2
  go_ret2
  exact ⟨rfl, rfl⟩
set_option maxHeartbeats 1000000 in
theorem le32_no (a : Option Addr) (len cap : Nat) (k : Int) (w : World) (hm : len ≤ 140737488355328) (hk : k < 0 ∨ (len : Int) < k + 4) (hk2 : -9223372036854775808 ≤ k ∧ k ≤ 9223372036854775807) :
    Calls Tryz.prog 47 #[.slice a len cap, .int .i64 k] w fun e w' =>
      e = .returned (.tuple #[.int .u32 (W32 0#32), .bool false]) ∧ w' = w := by
  go_enter Tryz.func47, Tryz.ntmps47
  go_wp2_with fail
  refine (cut_no a len cap 4 k w (by omega) hm hk hk2).mono ?_
  rintro e w' ⟨rfl, rfl⟩
  go_wp2_with fail
  refine (tail_0 none 0 w').mono ?_
  rintro e w' ⟨rfl, rfl⟩
  go_wp2
  go_ret2
  exact ⟨rfl, rfl⟩
set_option maxHeartbeats 1000000 in
theorem le64_yes (b off len cap k : Nat) (l : List (BitVec 8)) (w : World) (h : BRow w (some ⟨b, off, none⟩) len cap l) (hk : k + 8 ≤ len) :
    Calls Tryz.prog 34 #[.slice (some ⟨b, off, none⟩) len cap, .int .i64 k] w fun e w' =>
      e = .returned (.tuple #[.int .u64 (W64 (rd l k 8)), .bool true]) ∧ w' = w := by
  have h2 := BRow_sub (n := 8) h hk
  go_enter Tryz.func34, Tryz.ntmps34
  go_wp2_with fail
  refine (cut_yes b off len cap k 8 l w h (by omega) hk).mono ?_
  rintro e w' ⟨rfl, rfl⟩
  go_wp2_with fail
  refine (tail_any _ _ _ _ _ h2).mono ?_
  rintro e w' ⟨rfl, rfl⟩
  rw [show min 8 8 = 8 from rfl, num_sub]
  go_wp2
  go_ret2
  exact ⟨rfl, rfl⟩
set_option maxHeartbeats 1000000 in
theorem le64_no (a : Option Addr) (len cap : Nat) (k : Int) (w : World) (hm : len ≤ 140737488355328) (hk : k < 0 ∨ (len : Int) < k + 8) (hk2 : -9223372036854775808 ≤ k ∧ k ≤ 9223372036854775807) :
    Calls Tryz.prog 34 #[.slice a len cap, .int .i64 k] w fun e w' =>
      e = .returned (.tuple #[.int .u64 (W64 0#64), .bool false]) ∧ w' = w := by
  go_enter Tryz.func34, Tryz.ntmps34
  go_wp2_with fail
  refine (cut_no a len cap 8 k w (by omega) hm hk hk2).mono ?_
  rintro e w' ⟨rfl, rfl⟩
  go_wp2_with fail
  refine (tail_0 none 0 w').mono ?_
  rintro e w' ⟨rfl, rfl⟩
  go_wp2
  go_ret2
  exact ⟨rfl, rfl⟩
set_option maxHeartbeats 1000000 in
theorem num_ref (a : Option Addr) (len cap : Nat) (l : List (BitVec 8)) (k n : Nat) (w : World) (h : BRow w a len cap l) (hk : k ≤ 140737488355328) (hn : n ≤ 100) :
    Calls Tryz.prog 19 #[.slice a len cap, .int .i64 k, .int .i64 n] w fun e w' => e = .returned (.int .u64 (W64 (rd l k n))) ∧ w' = w := by
  have hm := h.most
  have hl := h.le
  have hll := h.len_eq
  have Hll := Lib.hid hll
  clear hll
  go_enter Tryz.func19, Tryz.ntmps19
  go_wp2
  go_loop [7, 8] (fun t i => ∃ j : Nat, j ≤ n ∧ i = .int .i64 ((j : Int) - 1) ∧ t = .int .u64 (W64 (rd l (k + j) (n - j)))) (fun _ i => (intOf i + 1).toNat)
  case atStart => exact ⟨n, Nat.le_refl _, rfl, by rw [Nat.sub_self]; rfl⟩
  case round =>
    obtain ⟨j, hj, rfl, rfl⟩ := hrel
    by_cases h0 : j = 0
    · subst h0
      go_wp2
      go_ret
      exact ⟨ret64 (by simp), rfl⟩
    · obtain ⟨i, rfl⟩ : ∃ i, j = i + 1 := ⟨j - 1, by omega⟩
      have hstep : rd l (k + i) (n - i) = rd l (k + (i + 1)) (n - (i + 1)) * 256#64 + (l.getD (k + i) 0).setWidth 64 := by
        unfold rd
        rw [show n - i = (n - (i + 1)) + 1 by omega]
        simp only [num]
        congr 2
        exact num_congr _ (fun q _ => by rw [show k + i + (q + 1) = k + (i + 1) + q by omega])
      have HS := Lib.hid hstep
      clear hstep
      by_cases hin : k + i < len
      · obtain ⟨b, off, rfl, hc⟩ := h.addr (by omega)
        have hci := hc (k + i) hin
        clear hc
        have hin2 : (k : Int) + i < len := by omega
        go_wp2
        exact ⟨⟨i, by omega, rfl, by rw [HS.out, List.getD_eq_getElem?_getD]; rfl⟩, by simp [intOf]⟩
      · have hin2 : ¬ (k : Int) + i < len := by omega
        have hz : l.getD (k + i) 0 = 0 := by
          rw [List.getD_eq_getElem?_getD, List.getElem?_eq_none (by rw [Hll.out]; omega)]; rfl
        go_wp2
        exact ⟨⟨i, by omega, rfl, by rw [HS.out, hz]; simp⟩, by simp [intOf]⟩
end Go.Proofs.YtjmnhooenampkaaGreatDoor
