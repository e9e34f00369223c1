/- Contracts of poly.coefficient and its closures, of poly.Check, and of the document's own at, Minus, Value, Check: for all lists. -/
import Derived.Test.YtdjlbpgjbgepdaaGreatPolM
import Derived.Test.YtdjlbpgjbgepdaaGreatMerA
import Derived.Test.YtdjlbpgjbgepdaaGreatRowQ
namespace Go.Proofs.YtdjlbpgjbgepdaaGreat
open Go.RowKit Go.Bv
set_option linter.unusedVariables false
set_option maxHeartbeats 1000000 in
theorem coef_q (a : Option Addr) (n c : Nat) (l : List (BitVec 64)) (i : Nat) (w : World) (h : QRow w a n c l) :
    Calls Tryz.prog 157 #[.slice a n c, .int .i64 (i : Int)] w fun e w' => e = .returned (.int .u64 (W64 (cm l i))) ∧ w' = w := by
  have hm := h.most
  by_cases hlt : (i : Int) < (n : Int)
  · obtain ⟨b, off, rfl, hc⟩ := h.addr (by omega)
    have c1 := hc i (by omega)
    clear hc
    have HC : Hid (l.getD i 0 % 2305843009213693951#64 = cm l i) := Lib.hid (mod_mp _)
    obtain ⟨y, hy⟩ : ∃ z, l.getD i 0 = z := ⟨_, rfl⟩
    rw [hy] at c1 HC
    clear hy
    have hi0 : (0 : Int) ≤ (i : Int) := by omega
    go_enter Tryz.func157, Tryz.ntmps157
    go_wp2
    go_ret
    exact ⟨ret64 HC.out, rfl⟩
  · have HC : Hid (cm l i = 0#64) := Lib.hid (cm_far l i (by rw [h.len_eq]; omega))
    have h2 : (n : Int) ≤ (i : Int) := by omega
    go_enter Tryz.func157, Tryz.ntmps157
    go_wp2
    go_ret
    rw [HC.out, lo_zero]
    exact ⟨rfl, rfl⟩
set_option maxHeartbeats 1000000 in
theorem tk_T (p : Nat) (a : Option Addr) (n c : Nat) (l : List (BitVec 64)) (i : Nat) (w : World) (hp : w.heap[p]? = some (.cells #[.slice a n c] 28 (0, 0))) (h : QRow w a n c l) :
    Calls Tryz.prog 179 #[.int .i64 (i : Int), .pointer (some ⟨p, 0, none⟩)] w fun e w' => e = .returned (.int .u64 (W64 (cm l i))) ∧ w' = w := by
  have HC := Lib.hid (coef_q a n c l i w h)
  have k0 := cell_of_row _ _ 0 _ _ _ hp
  clear h
  go_enter Tryz.func179, Tryz.ntmps179
  go_wp2_with fail
  refine (HC.out).mono ?_
  rintro e w' ⟨rfl, hw⟩
  subst hw
  go_wp2
  go_ret
  exact ⟨rfl, rfl⟩
set_option maxHeartbeats 1000000 in
theorem tk_D (p : Nat) (a : Option Addr) (n c : Nat) (l : List (BitVec 64)) (i : Nat) (w : World) (hp : w.heap[p]? = some (.cells #[.slice a n c] 28 (0, 0))) (h : QRow w a n c l) :
    Calls Tryz.prog 156 #[.int .i64 (i : Int), .pointer (some ⟨p, 0, none⟩)] w fun e w' => e = .returned (.int .u64 (W64 (cm l i))) ∧ w' = w := by
  have HC := Lib.hid (coef_q a n c l i w h)
  have k0 := cell_of_row _ _ 0 _ _ _ hp
  clear h
  go_enter Tryz.func156, Tryz.ntmps156
  go_wp2_with fail
  refine (HC.out).mono ?_
  rintro e w' ⟨rfl, hw⟩
  subst hw
  go_wp2
  go_ret
  exact ⟨rfl, rfl⟩
/-- what is added to a number to make 0 -/
def mn (x : BitVec 64) : BitVec 64 := (2305843009213693951#64 - x % 2305843009213693951#64) % 2305843009213693951#64
theorem madd_p (a b : BitVec 64) (w : World) : Calls Tryz.prog 133 #[.int .i64 61, .int .u64 (W64 a), .int .u64 (W64 b)] w fun e w' => e = .returned (.int .u64 (W64 (mp (a.toNat + b.toNat)))) ∧ New w w' := by
  have h := meradd_any 61 a b w
  rw [pM61, md_mp] at h
  exact h
theorem mmul_p (a b : BitVec 64) (w : World) : Calls Tryz.prog 158 #[.int .i64 61, .int .u64 (W64 a), .int .u64 (W64 b)] w fun e w' => e = .returned (.int .u64 (W64 (mp (a.toNat * b.toNat)))) ∧ New w w' := by
  have h := mermul_any 61 a b w
  rw [pM61, md_mp] at h
  exact h
/-- what is wrong with coefficients -/
def chkC (l : List (BitVec 64)) : Int := if l.length < 1 ∨ 64 < l.length then 1 else if ∀ j, j < l.length → (l.getD j 0).toNat < PP then 0 else 2
set_option maxHeartbeats 1000000 in
theorem check_q (a : Option Addr) (n c : Nat) (l : List (BitVec 64)) (w : World) (h : QRow w a n c l) :
    Calls Tryz.prog 82 #[.slice a n c] w fun e w' => e = .returned (.int .i64 (chkC l)) ∧ w' = w := by
  have hm := h.most
  have hle := h.len_eq
  by_cases h1 : (n : Int) = 0
  · have HE : Hid (chkC l = 1) := Lib.hid (by unfold chkC; rw [if_pos (by omega)])
    clear hle
    go_enter Tryz.func82, Tryz.ntmps82
    go_wp2
    go_ret
    rw [HE.out]; exact ⟨rfl, rfl⟩
  by_cases h2 : 64 < (n : Int)
  · have HE : Hid (chkC l = 1) := Lib.hid (by unfold chkC; rw [if_pos (by omega)])
    clear hle
    go_enter Tryz.func82, Tryz.ntmps82
    go_wp2
    go_ret
    rw [HE.out]; exact ⟨rfl, rfl⟩
  have HC : Hid (chkC l = if ∀ j, j < n → (l.getD j 0).toNat < PP then 0 else 2) := Lib.hid (by unfold chkC; rw [if_neg (by omega), hle])
  have HH := Lib.hid h
  clear hle h
  go_enter Tryz.func82, Tryz.ntmps82
  go_wp2
  go_loop [15] (fun i => ∃ k : Nat, k ≤ n ∧ i = .int .i64 (k : Int) ∧ Hid (∀ j, j < k → (l.getD j 0).toNat < PP)) (fun i => n - (intOf i).toNat)
  case atStart => exact ⟨0, Nat.zero_le _, rfl, Lib.hid (fun j hj => by omega)⟩
  case round =>
    obtain ⟨k, hk, rfl, H⟩ := hrel
    by_cases hlt : (k : Int) < (n : Int)
    · obtain ⟨b, off, rfl, hc⟩ := HH.out.addr (by omega)
      have c1 := hc k (by omega)
      clear hc
      have hk0 : (0 : Int) ≤ (k : Int) := by omega
      by_cases hp : (l.getD k 0).toNat < PP
      · have HP : Hid ((l.getD k 0).toNat < PP) := Lib.hid hp
        have hg : decide (2305843009213693951 ≤ W64 (l.getD k 0)) = false := decide_eq_false (by unfold PP at hp; unfold W64; omega)
        clear hp
        obtain ⟨y, hy⟩ : ∃ z, l.getD k 0 = z := ⟨_, rfl⟩
        rw [hy] at c1 hg
        clear hy
        go_wp2
        refine ⟨⟨k + 1, by omega, by go_num, Lib.hid (fun j hj => ?_)⟩, by simp [intOf]; omega⟩
        by_cases e : j = k
        · subst e; exact HP.out
        · exact H.out j (by omega)
      · have HE : Hid (chkC l = 2) := Lib.hid (by rw [HC.out, if_neg (fun hh => hp (hh k (by omega)))])
        have hg : decide (2305843009213693951 ≤ W64 (l.getD k 0)) = true := decide_eq_true (by unfold PP at hp; unfold W64; omega)
        clear hp
        obtain ⟨y, hy⟩ : ∃ z, l.getD k 0 = z := ⟨_, rfl⟩
        rw [hy] at c1 hg
        clear hy
        go_wp2
        go_ret
        rw [HE.out]; exact ⟨rfl, rfl⟩
    · obtain rfl : k = n := by omega
      have HE : Hid (chkC l = 0) := Lib.hid (by rw [HC.out, if_pos H.out])
      clear H HC
      go_wp2
      go_ret
      rw [HE.out]; exact ⟨rfl, rfl⟩
set_option maxHeartbeats 1000000 in
theorem rcheck_q (a : Option Addr) (n c : Nat) (l : List (BitVec 64)) (w : World) (h : QRow w a n c l) :
    Calls Tryz.prog 33 #[.slice a n c] w fun e w' => e = .returned (.int .i64 (chkC l)) ∧ w' = w := by
  have hm := h.most
  have hle := h.len_eq
  by_cases h1 : (n : Int) < 1
  · have HE : Hid (chkC l = 1) := Lib.hid (by unfold chkC; rw [if_pos (by omega)])
    clear hle
    go_enter Tryz.func33, Tryz.ntmps33
    go_wp2
    go_ret
    rw [HE.out]; exact ⟨rfl, rfl⟩
  by_cases h2 : 64 < (n : Int)
  · have HE : Hid (chkC l = 1) := Lib.hid (by unfold chkC; rw [if_pos (by omega)])
    clear hle
    go_enter Tryz.func33, Tryz.ntmps33
    go_wp2
    go_ret
    rw [HE.out]; exact ⟨rfl, rfl⟩
  have HC : Hid (chkC l = if ∀ j, j < n → (l.getD j 0).toNat < PP then 0 else 2) := Lib.hid (by unfold chkC; rw [if_neg (by omega), hle])
  have HH := Lib.hid h
  clear hle h
  go_enter Tryz.func33, Tryz.ntmps33
  go_wp2
  go_loop [15] (fun i => ∃ k : Nat, k ≤ n ∧ i = .int .i64 (k : Int) ∧ Hid (∀ j, j < k → (l.getD j 0).toNat < PP)) (fun i => n - (intOf i).toNat)
  case atStart => exact ⟨0, Nat.zero_le _, rfl, Lib.hid (fun j hj => by omega)⟩
  case round =>
    obtain ⟨k, hk, rfl, H⟩ := hrel
    by_cases hlt : (k : Int) < (n : Int)
    · obtain ⟨b, off, rfl, hc⟩ := HH.out.addr (by omega)
      have c1 := hc k (by omega)
      clear hc
      have hk0 : (0 : Int) ≤ (k : Int) := by omega
      by_cases hp : (l.getD k 0).toNat < PP
      · have HP : Hid ((l.getD k 0).toNat < PP) := Lib.hid hp
        have hg : decide (2305843009213693951 ≤ W64 (l.getD k 0)) = false := decide_eq_false (by unfold PP at hp; unfold W64; omega)
        clear hp
        obtain ⟨y, hy⟩ : ∃ z, l.getD k 0 = z := ⟨_, rfl⟩
        rw [hy] at c1 hg
        clear hy
        go_wp2
        refine ⟨⟨k + 1, by omega, by go_num, Lib.hid (fun j hj => ?_)⟩, by simp [intOf]; omega⟩
        by_cases e : j = k
        · subst e; exact HP.out
        · exact H.out j (by omega)
      · have HE : Hid (chkC l = 2) := Lib.hid (by rw [HC.out, if_neg (fun hh => hp (hh k (by omega)))])
        have hg : decide (2305843009213693951 ≤ W64 (l.getD k 0)) = true := decide_eq_true (by unfold PP at hp; unfold W64; omega)
        clear hp
        obtain ⟨y, hy⟩ : ∃ z, l.getD k 0 = z := ⟨_, rfl⟩
        rw [hy] at c1 hg
        clear hy
        go_wp2
        go_ret
        rw [HE.out]; exact ⟨rfl, rfl⟩
    · obtain rfl : k = n := by omega
      have HE : Hid (chkC l = 0) := Lib.hid (by rw [HC.out, if_pos H.out])
      clear H HC
      go_wp2
      go_ret
      rw [HE.out]; exact ⟨rfl, rfl⟩
end Go.Proofs.YtdjlbpgjbgepdaaGreat
