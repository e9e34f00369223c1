import Derived.Test.YthkmcnlciefnfaaGreatZ5PolM
import Derived.Test.YthkmcnlciefnfaaGreatZ5RowQ
/- Contracts of poly.coefficient and its closures, of poly.Check, and of the document's own at, Minus, Value, Check: for all lists. -/
namespace Go.Proofs.YthkmcnlciefnfaaGreat
open Go.RowKit Go.Bv
set_option linter.unusedVariables false
/-- what is added to a number to make 0 -/
def mn (x : BitVec 64) : BitVec 64 := (2305843009213693951#64 - x % 2305843009213693951#64) % 2305843009213693951#64
/-- what is wrong with coefficients -/
def chkC (l : List (BitVec 64)) : Int := if l.length < 1 ∨ 64 < l.length then 1 else if ∀ j, j < l.length → (l.getD j 0).toNat < PP then 0 else 2
set_option maxHeartbeats 1000000 in
theorem check_q (a : Option Addr) (n c : Nat) (l : List (BitVec 64)) (w : World) (h : QRow w a n c l) :
    Calls Tryz.prog 193 #[.slice a n c] w fun e w' => e = .returned (.int .i64 (chkC l)) ∧ w' = w := by
  have hm := h.most
  have hle := h.len_eq
  by_cases h1 : (n : Int) = 0
  · have HE : Hid (chkC l = 1) := Lib.hid (by unfold chkC; rw [if_pos (by omega)])
    clear hle
    go_enter Tryz.func193, Tryz.ntmps193
    go_wp2
    go_ret
    rw [HE.out]; exact ⟨rfl, rfl⟩
  by_cases h2 : 64 < (n : Int)
  · have HE : Hid (chkC l = 1) := Lib.hid (by unfold chkC; rw [if_pos (by omega)])
    clear hle
    go_enter Tryz.func193, Tryz.ntmps193
    go_wp2
    go_ret
    rw [HE.out]; exact ⟨rfl, rfl⟩
  have HC : Hid (chkC l = if ∀ j, j < n → (l.getD j 0).toNat < PP then 0 else 2) := Lib.hid (by unfold chkC; rw [if_neg (by omega), hle])
  have HH := Lib.hid h
  clear hle h
  go_enter Tryz.func193, Tryz.ntmps193
  go_wp2
  go_loop [15] (fun i => ∃ k : Nat, k ≤ n ∧ i = .int .i64 (k : Int) ∧ Hid (∀ j, j < k → (l.getD j 0).toNat < PP)) (fun i => n - (intOf i).toNat)
  case atStart => exact ⟨0, Nat.zero_le _, rfl, Lib.hid (fun j hj => by omega)⟩
  case round =>
    obtain ⟨k, hk, rfl, H⟩ := hrel
    by_cases hlt : (k : Int) < (n : Int)
    · obtain ⟨b, off, rfl, hc⟩ := HH.out.addr (by omega)
      have c1 := hc k (by omega)
      clear hc
      have hk0 : (0 : Int) ≤ (k : Int) := by omega
      by_cases hp : (l.getD k 0).toNat < PP
      · have HP : Hid ((l.getD k 0).toNat < PP) := Lib.hid hp
        have hg : decide (2305843009213693951 ≤ W64 (l.getD k 0)) = false := decide_eq_false (by unfold PP at hp; unfold W64; omega)
        clear hp
        obtain ⟨y, hy⟩ : ∃ z, l.getD k 0 = z := ⟨_, rfl⟩
        rw [hy] at c1 hg
        clear hy
        go_wp2
        refine ⟨⟨k + 1, by omega, by go_num, Lib.hid (fun j hj => ?_)⟩, by simp [intOf]; omega⟩
        by_cases e : j = k
        · subst e; exact HP.out
        · exact H.out j (by omega)
      · have HE : Hid (chkC l = 2) := Lib.hid (by rw [HC.out, if_neg (fun hh => hp (hh k (by omega)))])
        have hg : decide (2305843009213693951 ≤ W64 (l.getD k 0)) = true := decide_eq_true (by unfold PP at hp; unfold W64; omega)
        clear hp
        obtain ⟨y, hy⟩ : ∃ z, l.getD k 0 = z := ⟨_, rfl⟩
        rw [hy] at c1 hg
        clear hy
        go_wp2
        go_ret
        rw [HE.out]; exact ⟨rfl, rfl⟩
    · obtain rfl : k = n := by omega
      have HE : Hid (chkC l = 0) := Lib.hid (by rw [HC.out, if_pos H.out])
      clear H HC
      go_wp2
      go_ret
      rw [HE.out]; exact ⟨rfl, rfl⟩
set_option maxHeartbeats 1000000 in
theorem rcheck_q (a : Option Addr) (n c : Nat) (l : List (BitVec 64)) (w : World) (h : QRow w a n c l) :
    Calls Tryz.prog 41 #[.slice a n c] w fun e w' => e = .returned (.int .i64 (chkC l)) ∧ w' = w := by
  have hm := h.most
  have hle := h.len_eq
  by_cases h1 : (n : Int) < 1
  · have HE : Hid (chkC l = 1) := Lib.hid (by unfold chkC; rw [if_pos (by omega)])
    clear hle
    go_enter Tryz.func41, Tryz.ntmps41
    go_wp2
    go_ret
    rw [HE.out]; exact ⟨rfl, rfl⟩
  by_cases h2 : 64 < (n : Int)
  · have HE : Hid (chkC l = 1) := Lib.hid (by unfold chkC; rw [if_pos (by omega)])
    clear hle
    go_enter Tryz.func41, Tryz.ntmps41
    go_wp2
    go_ret
    rw [HE.out]; exact ⟨rfl, rfl⟩
  have HC : Hid (chkC l = if ∀ j, j < n → (l.getD j 0).toNat < PP then 0 else 2) := Lib.hid (by unfold chkC; rw [if_neg (by omega), hle])
  have HH := Lib.hid h
  clear hle h
  go_enter Tryz.func41, Tryz.ntmps41
  go_wp2
  go_loop [15] (fun i => ∃ k : Nat, k ≤ n ∧ i = .int .i64 (k : Int) ∧ Hid (∀ j, j < k → (l.getD j 0).toNat < PP)) (fun i => n - (intOf i).toNat)
  case atStart => exact ⟨0, Nat.zero_le _, rfl, Lib.hid (fun j hj => by omega)⟩
  case round =>
    obtain ⟨k, hk, rfl, H⟩ := hrel
    by_cases hlt : (k : Int) < (n : Int)
    · obtain ⟨b, off, rfl, hc⟩ := HH.out.addr (by omega)
      have c1 := hc k (by omega)
      clear hc
      have hk0 : (0 : Int) ≤ (k : Int) := by omega
      by_cases hp : (l.getD k 0).toNat < PP
      · have HP : Hid ((l.getD k 0).toNat < PP) := Lib.hid hp
        have hg : decide (2305843009213693951 ≤ W64 (l.getD k 0)) = false := decide_eq_false (by unfold PP at hp; unfold W64; omega)
        clear hp
        obtain ⟨y, hy⟩ : ∃ z, l.getD k 0 = z := ⟨_, rfl⟩
        rw [hy] at c1 hg
        clear hy
        go_wp2
        refine ⟨⟨k + 1, by omega, by go_num, Lib.hid (fun j hj => ?_)⟩, by simp [intOf]; omega⟩
        by_cases e : j = k
        · subst e; exact HP.out
        · exact H.out j (by omega)
      · have HE : Hid (chkC l = 2) := Lib.hid (by rw [HC.out, if_neg (fun hh => hp (hh k (by omega)))])
        have hg : decide (2305843009213693951 ≤ W64 (l.getD k 0)) = true := decide_eq_true (by unfold PP at hp; unfold W64; omega)
        clear hp
        obtain ⟨y, hy⟩ : ∃ z, l.getD k 0 = z := ⟨_, rfl⟩
        rw [hy] at c1 hg
        clear hy
        go_wp2
        go_ret
        rw [HE.out]; exact ⟨rfl, rfl⟩
    · obtain rfl : k = n := by omega
      have HE : Hid (chkC l = 0) := Lib.hid (by rw [HC.out, if_pos H.out])
      clear H HC
      go_wp2
      go_ret
      rw [HE.out]; exact ⟨rfl, rfl⟩
end Go.Proofs.YthkmcnlciefnfaaGreat
