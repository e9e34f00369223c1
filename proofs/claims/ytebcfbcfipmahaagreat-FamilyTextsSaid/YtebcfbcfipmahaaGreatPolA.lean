/- Contracts of poly.coefficient and its closures, of poly.Check, and of the document's own at, Minus, Value, Check: for all lists. -/
import Derived.Test.YtebcfbcfipmahaaGreatPolM
import Derived.Test.YtebcfbcfipmahaaGreatMerA
import Derived.Test.YtebcfbcfipmahaaGreatRowQ
namespace Go.Proofs.YtebcfbcfipmahaaGreat
open Go.RowKit Go.Bv
set_option linter.unusedVariables false
set_option maxHeartbeats 1000000 in
theorem coef_q (a : Option Addr) (n c : Nat) (l : List (BitVec 64)) (i : Nat) (w : World) (h : QRow w a n c l) :
    Calls Tryz.prog 146 #[.slice a n c, .int .i64 (i : Int)] w fun e w' => e = .returned (.int .u64 (W64 (cm l i))) ∧ w' = w := by
  have hm := h.most
  by_cases hlt : (i : Int) < (n : Int)
  · obtain ⟨b, off, rfl, hc⟩ := h.addr (by omega)
    have c1 := hc i (by omega)
    clear hc
    have HC : Hid (l.getD i 0 % 2305843009213693951#64 = cm l i) := Lib.hid (mod_mp _)
    obtain ⟨y, hy⟩ : ∃ z, l.getD i 0 = z := ⟨_, rfl⟩
    rw [hy] at c1 HC
    clear hy
    have hi0 : (0 : Int) ≤ (i : Int) := by omega
    go_enter Tryz.func146, Tryz.ntmps146
    go_wp2
    go_ret
    exact ⟨ret64 HC.out, rfl⟩
  · have HC : Hid (cm l i = 0#64) := Lib.hid (cm_far l i (by rw [h.len_eq]; omega))
    have h2 : (n : Int) ≤ (i : Int) := by omega
    go_enter Tryz.func146, Tryz.ntmps146
    go_wp2
    go_ret
    rw [HC.out, lo_zero]
    exact ⟨rfl, rfl⟩
set_option maxHeartbeats 1000000 in
theorem tk_T (p : Nat) (a : Option Addr) (n c : Nat) (l : List (BitVec 64)) (i : Nat) (w : World) (hp : w.heap[p]? = some (.cells #[.slice a n c] 28 (0, 0))) (h : QRow w a n c l) :
    Calls Tryz.prog 165 #[.int .i64 (i : Int), .pointer (some ⟨p, 0, none⟩)] w fun e w' => e = .returned (.int .u64 (W64 (cm l i))) ∧ w' = w := by
  have HC := Lib.hid (coef_q a n c l i w h)
  have k0 := cell_of_row _ _ 0 _ _ _ hp
  clear h
  go_enter Tryz.func165, Tryz.ntmps165
  go_wp2_with fail
  refine (HC.out).mono ?_
  rintro e w' ⟨rfl, hw⟩
  subst hw
  go_wp2
  go_ret
  exact ⟨rfl, rfl⟩
set_option maxHeartbeats 1000000 in
theorem tk_D (p : Nat) (a : Option Addr) (n c : Nat) (l : List (BitVec 64)) (i : Nat) (w : World) (hp : w.heap[p]? = some (.cells #[.slice a n c] 28 (0, 0))) (h : QRow w a n c l) :
    Calls Tryz.prog 145 #[.int .i64 (i : Int), .pointer (some ⟨p, 0, none⟩)] w fun e w' => e = .returned (.int .u64 (W64 (cm l i))) ∧ w' = w := by
  have HC := Lib.hid (coef_q a n c l i w h)
  have k0 := cell_of_row _ _ 0 _ _ _ hp
  clear h
  go_enter Tryz.func145, Tryz.ntmps145
  go_wp2_with fail
  refine (HC.out).mono ?_
  rintro e w' ⟨rfl, hw⟩
  subst hw
  go_wp2
  go_ret
  exact ⟨rfl, rfl⟩
/-- what is added to a number to make 0 -/
def mn (x : BitVec 64) : BitVec 64 := (2305843009213693951#64 - x % 2305843009213693951#64) % 2305843009213693951#64
theorem radd_p (a b : BitVec 64) (w : World) : Calls Tryz.prog 55 #[.int .u64 (W64 a), .int .u64 (W64 b), .int .u64 2305843009213693951] w fun e w' => e = .returned (.int .u64 (W64 (mp (a.toNat + b.toNat)))) ∧ w' = w := by
  have h := radd_any a b 2305843009213693951#64 w
  rw [md_mp, show W64 2305843009213693951#64 = 2305843009213693951 by decide] at h
  exact h
theorem rmul_p (a b : BitVec 64) (w : World) : Calls Tryz.prog 56 #[.int .u64 (W64 a), .int .u64 (W64 b), .int .u64 2305843009213693951] w fun e w' => e = .returned (.int .u64 (W64 (mp (a.toNat * b.toNat)))) ∧ w' = w := by
  have h := rmul_any a b 2305843009213693951#64 w
  rw [md_mp, show W64 2305843009213693951#64 = 2305843009213693951 by decide] at h
  exact h
theorem madd_p (a b : BitVec 64) (w : World) : Calls Tryz.prog 115 #[.int .i64 61, .int .u64 (W64 a), .int .u64 (W64 b)] w fun e w' => e = .returned (.int .u64 (W64 (mp (a.toNat + b.toNat)))) ∧ New w w' := by
  have h := meradd_any 61 a b w
  rw [pM61, md_mp] at h
  exact h
theorem mmul_p (a b : BitVec 64) (w : World) : Calls Tryz.prog 116 #[.int .i64 61, .int .u64 (W64 a), .int .u64 (W64 b)] w fun e w' => e = .returned (.int .u64 (W64 (mp (a.toNat * b.toNat)))) ∧ New w w' := by
  have h := mermul_any 61 a b w
  rw [pM61, md_mp] at h
  exact h
set_option maxHeartbeats 1000000 in
theorem value_q (a : Option Addr) (n c : Nat) (l : List (BitVec 64)) (x : BitVec 64) (w : World) (h : QRow w a n c l) :
    Calls Tryz.prog 30 #[.slice a n c, .int .u64 (W64 x)] w fun e w' => e = .returned (.int .u64 (W64 (mp (nv l x)))) ∧ w' = w := by
  have hm := h.most
  have HL := Lib.hid h.len_eq
  have HS : Hid ((0 : Int) = W64 (mp (pv (fun i => (l.getD i 0).toNat) x.toNat 0))) := Lib.hid (by show (0 : Int) = W64 (mp 0); rw [mp_zero, lo_zero])
  have HP : Hid ((1 : Int) = W64 (mp (x.toNat ^ 0))) := Lib.hid (by rw [Nat.pow_zero]; decide)
  go_enter Tryz.func30, Tryz.ntmps30
  go_wp2
  go_loop [5, 6, 11] (fun s p i => ∃ k : Nat, k ≤ n ∧ i = .int .i64 (k : Int) ∧ s = .int .u64 (W64 (mp (pv (fun i => (l.getD i 0).toNat) x.toNat k))) ∧ p = .int .u64 (W64 (mp (x.toNat ^ k)))) (fun _ _ i => n - (intOf i).toNat)
  case atStart => exact ⟨0, Nat.zero_le _, rfl, by rw [HS.out], by rw [HP.out]⟩
  case round =>
    obtain ⟨k, hk, rfl, rfl, rfl⟩ := hrel
    by_cases hlt : (k : Int) < (n : Int)
    · obtain ⟨b, off, rfl, hc⟩ := h.addr (by omega)
      have c1 := hc k (by omega)
      clear hc
      have e1 : mp ((mp (pv (fun i => (l.getD i 0).toNat) x.toNat k)).toNat + (mp ((l.getD k 0).toNat * (mp (x.toNat ^ k)).toNat)).toNat) = mp (pv (fun i => (l.getD i 0).toNat) x.toNat (k + 1)) := by
        rw [mp_mul2, mp_add]; rfl
      have e2 : mp ((mp (x.toNat ^ k)).toNat * x.toNat) = mp (x.toNat ^ (k + 1)) := by rw [mp_mul1, Nat.pow_succ]
      have E1 := Lib.hid e1
      have E2 := Lib.hid e2
      clear e1 e2
      obtain ⟨y, hy⟩ : ∃ z, l.getD k 0 = z := ⟨_, rfl⟩
      rw [hy] at c1 E1
      clear hy
      obtain ⟨s, hs⟩ : ∃ z, mp (pv (fun i => (l.getD i 0).toNat) x.toNat k) = z := ⟨_, rfl⟩
      obtain ⟨p, hp⟩ : ∃ z, mp (x.toNat ^ k) = z := ⟨_, rfl⟩
      rw [hs, hp] at E1
      rw [hp] at E2
      rw [hs, hp]
      clear hs hp
      have hk0 : (0 : Int) ≤ (k : Int) := by omega
      go_wp2_with fail
      refine (rmul_p y p _).mono ?_
      rintro e w' ⟨rfl, rfl⟩
      go_wp2_with fail
      refine (radd_p s _ _).mono ?_
      rintro e w' ⟨rfl, rfl⟩
      go_wp2_with fail
      refine (rmul_p p x _).mono ?_
      rintro e w' ⟨rfl, rfl⟩
      go_wp2
      exact ⟨⟨k + 1, by omega, by go_num, by rw [E1.out], by rw [E2.out]⟩, by simp [intOf]; omega⟩
    · obtain rfl : k = n := by omega
      have HV : Hid (mp (nv l x) = mp (pv (fun i => (l.getD i 0).toNat) x.toNat k)) := Lib.hid (by unfold nv; rw [HL.out])
      obtain ⟨s, hs⟩ : ∃ z, mp (pv (fun i => (l.getD i 0).toNat) x.toNat k) = z := ⟨_, rfl⟩
      rw [hs] at HV ⊢
      clear hs
      go_wp2
      go_ret
      rw [HV.out]
      exact ⟨rfl, rfl⟩
/-- what is wrong with coefficients -/
def chkC (l : List (BitVec 64)) : Int := if l.length < 1 ∨ 64 < l.length then 1 else if ∀ j, j < l.length → (l.getD j 0).toNat < PP then 0 else 2
set_option maxHeartbeats 1000000 in
theorem check_q (a : Option Addr) (n c : Nat) (l : List (BitVec 64)) (w : World) (h : QRow w a n c l) :
    Calls Tryz.prog 71 #[.slice a n c] w fun e w' => e = .returned (.int .i64 (chkC l)) ∧ w' = w := by
  have hm := h.most
  have hle := h.len_eq
  by_cases h1 : (n : Int) = 0
  · have HE : Hid (chkC l = 1) := Lib.hid (by unfold chkC; rw [if_pos (by omega)])
    clear hle
    go_enter Tryz.func71, Tryz.ntmps71
    go_wp2
    go_ret
    rw [HE.out]; exact ⟨rfl, rfl⟩
  by_cases h2 : 64 < (n : Int)
  · have HE : Hid (chkC l = 1) := Lib.hid (by unfold chkC; rw [if_pos (by omega)])
    clear hle
    go_enter Tryz.func71, Tryz.ntmps71
    go_wp2
    go_ret
    rw [HE.out]; exact ⟨rfl, rfl⟩
  have HC : Hid (chkC l = if ∀ j, j < n → (l.getD j 0).toNat < PP then 0 else 2) := Lib.hid (by unfold chkC; rw [if_neg (by omega), hle])
  have HH := Lib.hid h
  clear hle h
  go_enter Tryz.func71, Tryz.ntmps71
  go_wp2
  go_loop [15] (fun i => ∃ k : Nat, k ≤ n ∧ i = .int .i64 (k : Int) ∧ Hid (∀ j, j < k → (l.getD j 0).toNat < PP)) (fun i => n - (intOf i).toNat)
  case atStart => exact ⟨0, Nat.zero_le _, rfl, Lib.hid (fun j hj => by omega)⟩
  case round =>
    obtain ⟨k, hk, rfl, H⟩ := hrel
    by_cases hlt : (k : Int) < (n : Int)
    · obtain ⟨b, off, rfl, hc⟩ := HH.out.addr (by omega)
      have c1 := hc k (by omega)
      clear hc
      have hk0 : (0 : Int) ≤ (k : Int) := by omega
      by_cases hp : (l.getD k 0).toNat < PP
      · have HP : Hid ((l.getD k 0).toNat < PP) := Lib.hid hp
        have hg : decide (2305843009213693951 ≤ W64 (l.getD k 0)) = false := decide_eq_false (by unfold PP at hp; unfold W64; omega)
        clear hp
        obtain ⟨y, hy⟩ : ∃ z, l.getD k 0 = z := ⟨_, rfl⟩
        rw [hy] at c1 hg
        clear hy
        go_wp2
        refine ⟨⟨k + 1, by omega, by go_num, Lib.hid (fun j hj => ?_)⟩, by simp [intOf]; omega⟩
        by_cases e : j = k
        · subst e; exact HP.out
        · exact H.out j (by omega)
      · have HE : Hid (chkC l = 2) := Lib.hid (by rw [HC.out, if_neg (fun hh => hp (hh k (by omega)))])
        have hg : decide (2305843009213693951 ≤ W64 (l.getD k 0)) = true := decide_eq_true (by unfold PP at hp; unfold W64; omega)
        clear hp
        obtain ⟨y, hy⟩ : ∃ z, l.getD k 0 = z := ⟨_, rfl⟩
        rw [hy] at c1 hg
        clear hy
        go_wp2
        go_ret
        rw [HE.out]; exact ⟨rfl, rfl⟩
    · obtain rfl : k = n := by omega
      have HE : Hid (chkC l = 0) := Lib.hid (by rw [HC.out, if_pos H.out])
      clear H HC
      go_wp2
      go_ret
      rw [HE.out]; exact ⟨rfl, rfl⟩
set_option maxHeartbeats 1000000 in
theorem rcheck_q (a : Option Addr) (n c : Nat) (l : List (BitVec 64)) (w : World) (h : QRow w a n c l) :
    Calls Tryz.prog 39 #[.slice a n c] w fun e w' => e = .returned (.int .i64 (chkC l)) ∧ w' = w := by
  have hm := h.most
  have hle := h.len_eq
  by_cases h1 : (n : Int) < 1
  · have HE : Hid (chkC l = 1) := Lib.hid (by unfold chkC; rw [if_pos (by omega)])
    clear hle
    go_enter Tryz.func39, Tryz.ntmps39
    go_wp2
    go_ret
    rw [HE.out]; exact ⟨rfl, rfl⟩
  by_cases h2 : 64 < (n : Int)
  · have HE : Hid (chkC l = 1) := Lib.hid (by unfold chkC; rw [if_pos (by omega)])
    clear hle
    go_enter Tryz.func39, Tryz.ntmps39
    go_wp2
    go_ret
    rw [HE.out]; exact ⟨rfl, rfl⟩
  have HC : Hid (chkC l = if ∀ j, j < n → (l.getD j 0).toNat < PP then 0 else 2) := Lib.hid (by unfold chkC; rw [if_neg (by omega), hle])
  have HH := Lib.hid h
  clear hle h
  go_enter Tryz.func39, Tryz.ntmps39
  go_wp2
  go_loop [15] (fun i => ∃ k : Nat, k ≤ n ∧ i = .int .i64 (k : Int) ∧ Hid (∀ j, j < k → (l.getD j 0).toNat < PP)) (fun i => n - (intOf i).toNat)
  case atStart => exact ⟨0, Nat.zero_le _, rfl, Lib.hid (fun j hj => by omega)⟩
  case round =>
    obtain ⟨k, hk, rfl, H⟩ := hrel
    by_cases hlt : (k : Int) < (n : Int)
    · obtain ⟨b, off, rfl, hc⟩ := HH.out.addr (by omega)
      have c1 := hc k (by omega)
      clear hc
      have hk0 : (0 : Int) ≤ (k : Int) := by omega
      by_cases hp : (l.getD k 0).toNat < PP
      · have HP : Hid ((l.getD k 0).toNat < PP) := Lib.hid hp
        have hg : decide (2305843009213693951 ≤ W64 (l.getD k 0)) = false := decide_eq_false (by unfold PP at hp; unfold W64; omega)
        clear hp
        obtain ⟨y, hy⟩ : ∃ z, l.getD k 0 = z := ⟨_, rfl⟩
        rw [hy] at c1 hg
        clear hy
        go_wp2
        refine ⟨⟨k + 1, by omega, by go_num, Lib.hid (fun j hj => ?_)⟩, by simp [intOf]; omega⟩
        by_cases e : j = k
        · subst e; exact HP.out
        · exact H.out j (by omega)
      · have HE : Hid (chkC l = 2) := Lib.hid (by rw [HC.out, if_neg (fun hh => hp (hh k (by omega)))])
        have hg : decide (2305843009213693951 ≤ W64 (l.getD k 0)) = true := decide_eq_true (by unfold PP at hp; unfold W64; omega)
        clear hp
        obtain ⟨y, hy⟩ : ∃ z, l.getD k 0 = z := ⟨_, rfl⟩
        rw [hy] at c1 hg
        clear hy
        go_wp2
        go_ret
        rw [HE.out]; exact ⟨rfl, rfl⟩
    · obtain rfl : k = n := by omega
      have HE : Hid (chkC l = 0) := Lib.hid (by rw [HC.out, if_pos H.out])
      clear H HC
      go_wp2
      go_ret
      rw [HE.out]; exact ⟨rfl, rfl⟩
end Go.Proofs.YtebcfbcfipmahaaGreat
