import Derived.Test.YtebcfbcfipmahaaGreatZ3PolM
import Derived.Test.YtebcfbcfipmahaaGreatZ3FamA
import Derived.Test.YtebcfbcfipmahaaGreatZ3ModC
import Derived.Deep.OwnRows
import Derived.WalkMore
import Derived.ScopeJumps
section
/- Contracts of poly.coefficient and its closures, of poly.Check, and of the document's own at, Minus, Value, Check: for all lists. -/
namespace Go.Proofs.YtebcfbcfipmahaaGreat
open Go.RowKit Go.Bv
set_option linter.unusedVariables false
set_option maxHeartbeats 1000000 in
theorem coef_q (a : Option Addr) (n c : Nat) (l : List (BitVec 64)) (i : Nat) (w : World) (h : QRow w a n c l) :
    Calls Tryz.prog 146 #[.slice a n c, .int .i64 (i : Int)] w fun e w' => e = .returned (.int .u64 (W64 (cm l i))) ∧ w' = w := by
  have hm := h.most
  by_cases hlt : (i : Int) < (n : Int)
  · obtain ⟨b, off, rfl, hc⟩ := h.addr (by omega)
    have c1 := hc i (by omega)
    clear hc
    have HC : Hid (l.getD i 0 % 2305843009213693951#64 = cm l i) := Lib.hid (mod_mp _)
    obtain ⟨y, hy⟩ : ∃ z, l.getD i 0 = z := ⟨_, rfl⟩
    rw [hy] at c1 HC
    clear hy
    have hi0 : (0 : Int) ≤ (i : Int) := by omega
    go_enter Tryz.func146, Tryz.ntmps146
    go_wp2
    go_ret
    exact ⟨ret64 HC.out, rfl⟩
  · have HC : Hid (cm l i = 0#64) := Lib.hid (cm_far l i (by rw [h.len_eq]; omega))
    have h2 : (n : Int) ≤ (i : Int) := by omega
    go_enter Tryz.func146, Tryz.ntmps146
    go_wp2
    go_ret
    rw [HC.out, lo_zero]
    exact ⟨rfl, rfl⟩
set_option maxHeartbeats 1000000 in
theorem tk_T (p : Nat) (a : Option Addr) (n c : Nat) (l : List (BitVec 64)) (i : Nat) (w : World) (hp : w.heap[p]? = some (.cells #[.slice a n c] 28 (0, 0))) (h : QRow w a n c l) :
    Calls Tryz.prog 165 #[.int .i64 (i : Int), .pointer (some ⟨p, 0, none⟩)] w fun e w' => e = .returned (.int .u64 (W64 (cm l i))) ∧ w' = w := by
  have HC := Lib.hid (coef_q a n c l i w h)
  have k0 := cell_of_row _ _ 0 _ _ _ hp
  clear h
  go_enter Tryz.func165, Tryz.ntmps165
  go_wp2_with fail
  refine (HC.out).mono ?_
  rintro e w' ⟨rfl, hw⟩
  subst hw
  go_wp2
  go_ret
  exact ⟨rfl, rfl⟩
set_option maxHeartbeats 1000000 in
theorem tk_D (p : Nat) (a : Option Addr) (n c : Nat) (l : List (BitVec 64)) (i : Nat) (w : World) (hp : w.heap[p]? = some (.cells #[.slice a n c] 28 (0, 0))) (h : QRow w a n c l) :
    Calls Tryz.prog 145 #[.int .i64 (i : Int), .pointer (some ⟨p, 0, none⟩)] w fun e w' => e = .returned (.int .u64 (W64 (cm l i))) ∧ w' = w := by
  have HC := Lib.hid (coef_q a n c l i w h)
  have k0 := cell_of_row _ _ 0 _ _ _ hp
  clear h
  go_enter Tryz.func145, Tryz.ntmps145
  go_wp2_with fail
  refine (HC.out).mono ?_
  rintro e w' ⟨rfl, hw⟩
  subst hw
  go_wp2
  go_ret
  exact ⟨rfl, rfl⟩
/-- what is added to a number to make 0 -/
def mn (x : BitVec 64) : BitVec 64 := (2305843009213693951#64 - x % 2305843009213693951#64) % 2305843009213693951#64
theorem radd_p (a b : BitVec 64) (w : World) : Calls Tryz.prog 55 #[.int .u64 (W64 a), .int .u64 (W64 b), .int .u64 2305843009213693951] w fun e w' => e = .returned (.int .u64 (W64 (mp (a.toNat + b.toNat)))) ∧ w' = w := by
  have h := radd_any a b 2305843009213693951#64 w
  rw [md_mp, show W64 2305843009213693951#64 = 2305843009213693951 by decide] at h
  exact h
theorem rmul_p (a b : BitVec 64) (w : World) : Calls Tryz.prog 56 #[.int .u64 (W64 a), .int .u64 (W64 b), .int .u64 2305843009213693951] w fun e w' => e = .returned (.int .u64 (W64 (mp (a.toNat * b.toNat)))) ∧ w' = w := by
  have h := rmul_any a b 2305843009213693951#64 w
  rw [md_mp, show W64 2305843009213693951#64 = 2305843009213693951 by decide] at h
  exact h
theorem madd_p (a b : BitVec 64) (w : World) : Calls Tryz.prog 115 #[.int .i64 61, .int .u64 (W64 a), .int .u64 (W64 b)] w fun e w' => e = .returned (.int .u64 (W64 (mp (a.toNat + b.toNat)))) ∧ New w w' := by
  have h := meradd_any 61 a b w
  rw [pM61, md_mp] at h
  exact h
theorem mmul_p (a b : BitVec 64) (w : World) : Calls Tryz.prog 116 #[.int .i64 61, .int .u64 (W64 a), .int .u64 (W64 b)] w fun e w' => e = .returned (.int .u64 (W64 (mp (a.toNat * b.toNat)))) ∧ New w w' := by
  have h := mermul_any 61 a b w
  rw [pM61, md_mp] at h
  exact h
set_option maxHeartbeats 1000000 in
theorem value_q (a : Option Addr) (n c : Nat) (l : List (BitVec 64)) (x : BitVec 64) (w : World) (h : QRow w a n c l) :
    Calls Tryz.prog 30 #[.slice a n c, .int .u64 (W64 x)] w fun e w' => e = .returned (.int .u64 (W64 (mp (nv l x)))) ∧ w' = w := by
  have hm := h.most
  have HL := Lib.hid h.len_eq
  have HS : Hid ((0 : Int) = W64 (mp (pv (fun i => (l.getD i 0).toNat) x.toNat 0))) := Lib.hid (by show (0 : Int) = W64 (mp 0); rw [mp_zero, lo_zero])
  have HP : Hid ((1 : Int) = W64 (mp (x.toNat ^ 0))) := Lib.hid (by rw [Nat.pow_zero]; decide)
  go_enter Tryz.func30, Tryz.ntmps30
  go_wp2
  go_loop [5, 6, 11] (fun s p i => ∃ k : Nat, k ≤ n ∧ i = .int .i64 (k : Int) ∧ s = .int .u64 (W64 (mp (pv (fun i => (l.getD i 0).toNat) x.toNat k))) ∧ p = .int .u64 (W64 (mp (x.toNat ^ k)))) (fun _ _ i => n - (intOf i).toNat)
  case atStart => exact ⟨0, Nat.zero_le _, rfl, by rw [HS.out], by rw [HP.out]⟩
  case round =>
    obtain ⟨k, hk, rfl, rfl, rfl⟩ := hrel
    by_cases hlt : (k : Int) < (n : Int)
    · obtain ⟨b, off, rfl, hc⟩ := h.addr (by omega)
      have c1 := hc k (by omega)
      clear hc
      have e1 : mp ((mp (pv (fun i => (l.getD i 0).toNat) x.toNat k)).toNat + (mp ((l.getD k 0).toNat * (mp (x.toNat ^ k)).toNat)).toNat) = mp (pv (fun i => (l.getD i 0).toNat) x.toNat (k + 1)) := by
        rw [mp_mul2, mp_add]; rfl
      have e2 : mp ((mp (x.toNat ^ k)).toNat * x.toNat) = mp (x.toNat ^ (k + 1)) := by rw [mp_mul1, Nat.pow_succ]
      have E1 := Lib.hid e1
      have E2 := Lib.hid e2
      clear e1 e2
      obtain ⟨y, hy⟩ : ∃ z, l.getD k 0 = z := ⟨_, rfl⟩
      rw [hy] at c1 E1
      clear hy
      obtain ⟨s, hs⟩ : ∃ z, mp (pv (fun i => (l.getD i 0).toNat) x.toNat k) = z := ⟨_, rfl⟩
      obtain ⟨p, hp⟩ : ∃ z, mp (x.toNat ^ k) = z := ⟨_, rfl⟩
      rw [hs, hp] at E1
      rw [hp] at E2
      rw [hs, hp]
      clear hs hp
      have hk0 : (0 : Int) ≤ (k : Int) := by omega
      go_wp2_with fail
      refine (rmul_p y p _).mono ?_
      rintro e w' ⟨rfl, rfl⟩
      go_wp2_with fail
      refine (radd_p s _ _).mono ?_
      rintro e w' ⟨rfl, rfl⟩
      go_wp2_with fail
      refine (rmul_p p x _).mono ?_
      rintro e w' ⟨rfl, rfl⟩
      go_wp2
      exact ⟨⟨k + 1, by omega, by go_num, by rw [E1.out], by rw [E2.out]⟩, by simp [intOf]; omega⟩
    · obtain rfl : k = n := by omega
      have HV : Hid (mp (nv l x) = mp (pv (fun i => (l.getD i 0).toNat) x.toNat k)) := Lib.hid (by unfold nv; rw [HL.out])
      obtain ⟨s, hs⟩ : ∃ z, mp (pv (fun i => (l.getD i 0).toNat) x.toNat k) = z := ⟨_, rfl⟩
      rw [hs] at HV ⊢
      clear hs
      go_wp2
      go_ret
      rw [HV.out]
      exact ⟨rfl, rfl⟩
/-- what is wrong with coefficients -/
def chkC (l : List (BitVec 64)) : Int := if l.length < 1 ∨ 64 < l.length then 1 else if ∀ j, j < l.length → (l.getD j 0).toNat < PP then 0 else 2
set_option maxHeartbeats 1000000 in
theorem check_q (a : Option Addr) (n c : Nat) (l : List (BitVec 64)) (w : World) (h : QRow w a n c l) :
    Calls Tryz.prog 71 #[.slice a n c] w fun e w' => e = .returned (.int .i64 (chkC l)) ∧ w' = w := by
  have hm := h.most
  have hle := h.len_eq
  by_cases h1 : (n : Int) = 0
  · have HE : Hid (chkC l = 1) := Lib.hid (by unfold chkC; rw [if_pos (by omega)])
    clear hle
    go_enter Tryz.func71, Tryz.ntmps71
    go_wp2
    go_ret
    rw [HE.out]; exact ⟨rfl, rfl⟩
  by_cases h2 : 64 < (n : Int)
  · have HE : Hid (chkC l = 1) := Lib.hid (by unfold chkC; rw [if_pos (by omega)])
    clear hle
    go_enter Tryz.func71, Tryz.ntmps71
    go_wp2
    go_ret
    rw [HE.out]; exact ⟨rfl, rfl⟩
  have HC : Hid (chkC l = if ∀ j, j < n → (l.getD j 0).toNat < PP then 0 else 2) := Lib.hid (by unfold chkC; rw [if_neg (by omega), hle])
  have HH := Lib.hid h
  clear hle h
  go_enter Tryz.func71, Tryz.ntmps71
  go_wp2
  go_loop [15] (fun i => ∃ k : Nat, k ≤ n ∧ i = .int .i64 (k : Int) ∧ Hid (∀ j, j < k → (l.getD j 0).toNat < PP)) (fun i => n - (intOf i).toNat)
  case atStart => exact ⟨0, Nat.zero_le _, rfl, Lib.hid (fun j hj => by omega)⟩
  case round =>
    obtain ⟨k, hk, rfl, H⟩ := hrel
    by_cases hlt : (k : Int) < (n : Int)
    · obtain ⟨b, off, rfl, hc⟩ := HH.out.addr (by omega)
      have c1 := hc k (by omega)
      clear hc
      have hk0 : (0 : Int) ≤ (k : Int) := by omega
      by_cases hp : (l.getD k 0).toNat < PP
      · have HP : Hid ((l.getD k 0).toNat < PP) := Lib.hid hp
        have hg : decide (2305843009213693951 ≤ W64 (l.getD k 0)) = false := decide_eq_false (by unfold PP at hp; unfold W64; omega)
        clear hp
        obtain ⟨y, hy⟩ : ∃ z, l.getD k 0 = z := ⟨_, rfl⟩
        rw [hy] at c1 hg
        clear hy
        go_wp2
        refine ⟨⟨k + 1, by omega, by go_num, Lib.hid (fun j hj => ?_)⟩, by simp [intOf]; omega⟩
        by_cases e : j = k
        · subst e; exact HP.out
        · exact H.out j (by omega)
      · have HE : Hid (chkC l = 2) := Lib.hid (by rw [HC.out, if_neg (fun hh => hp (hh k (by omega)))])
        have hg : decide (2305843009213693951 ≤ W64 (l.getD k 0)) = true := decide_eq_true (by unfold PP at hp; unfold W64; omega)
        clear hp
        obtain ⟨y, hy⟩ : ∃ z, l.getD k 0 = z := ⟨_, rfl⟩
        rw [hy] at c1 hg
        clear hy
        go_wp2
        go_ret
        rw [HE.out]; exact ⟨rfl, rfl⟩
    · obtain rfl : k = n := by omega
      have HE : Hid (chkC l = 0) := Lib.hid (by rw [HC.out, if_pos H.out])
      clear H HC
      go_wp2
      go_ret
      rw [HE.out]; exact ⟨rfl, rfl⟩
set_option maxHeartbeats 1000000 in
theorem rcheck_q (a : Option Addr) (n c : Nat) (l : List (BitVec 64)) (w : World) (h : QRow w a n c l) :
    Calls Tryz.prog 39 #[.slice a n c] w fun e w' => e = .returned (.int .i64 (chkC l)) ∧ w' = w := by
  have hm := h.most
  have hle := h.len_eq
  by_cases h1 : (n : Int) < 1
  · have HE : Hid (chkC l = 1) := Lib.hid (by unfold chkC; rw [if_pos (by omega)])
    clear hle
    go_enter Tryz.func39, Tryz.ntmps39
    go_wp2
    go_ret
    rw [HE.out]; exact ⟨rfl, rfl⟩
  by_cases h2 : 64 < (n : Int)
  · have HE : Hid (chkC l = 1) := Lib.hid (by unfold chkC; rw [if_pos (by omega)])
    clear hle
    go_enter Tryz.func39, Tryz.ntmps39
    go_wp2
    go_ret
    rw [HE.out]; exact ⟨rfl, rfl⟩
  have HC : Hid (chkC l = if ∀ j, j < n → (l.getD j 0).toNat < PP then 0 else 2) := Lib.hid (by unfold chkC; rw [if_neg (by omega), hle])
  have HH := Lib.hid h
  clear hle h
  go_enter Tryz.func39, Tryz.ntmps39
  go_wp2
  go_loop [15] (fun i => ∃ k : Nat, k ≤ n ∧ i = .int .i64 (k : Int) ∧ Hid (∀ j, j < k → (l.getD j 0).toNat < PP)) (fun i => n - (intOf i).toNat)
  case atStart => exact ⟨0, Nat.zero_le _, rfl, Lib.hid (fun j hj => by omega)⟩
  case round =>
    obtain ⟨k, hk, rfl, H⟩ := hrel
    by_cases hlt : (k : Int) < (n : Int)
    · obtain ⟨b, off, rfl, hc⟩ := HH.out.addr (by omega)
      have c1 := hc k (by omega)
      clear hc
      have hk0 : (0 : Int) ≤ (k : Int) := by omega
      by_cases hp : (l.getD k 0).toNat < PP
      · have HP : Hid ((l.getD k 0).toNat < PP) := Lib.hid hp
        have hg : decide (2305843009213693951 ≤ W64 (l.getD k 0)) = false := decide_eq_false (by unfold PP at hp; unfold W64; omega)
        clear hp
        obtain ⟨y, hy⟩ : ∃ z, l.getD k 0 = z := ⟨_, rfl⟩
        rw [hy] at c1 hg
        clear hy
        go_wp2
        refine ⟨⟨k + 1, by omega, by go_num, Lib.hid (fun j hj => ?_)⟩, by simp [intOf]; omega⟩
        by_cases e : j = k
        · subst e; exact HP.out
        · exact H.out j (by omega)
      · have HE : Hid (chkC l = 2) := Lib.hid (by rw [HC.out, if_neg (fun hh => hp (hh k (by omega)))])
        have hg : decide (2305843009213693951 ≤ W64 (l.getD k 0)) = true := decide_eq_true (by unfold PP at hp; unfold W64; omega)
        clear hp
        obtain ⟨y, hy⟩ : ∃ z, l.getD k 0 = z := ⟨_, rfl⟩
        rw [hy] at c1 hg
        clear hy
        go_wp2
        go_ret
        rw [HE.out]; exact ⟨rfl, rfl⟩
    · obtain rfl : k = n := by omega
      have HE : Hid (chkC l = 0) := Lib.hid (by rw [HC.out, if_pos H.out])
      clear H HC
      go_wp2
      go_ret
      rw [HE.out]; exact ⟨rfl, rfl⟩
end Go.Proofs.YtebcfbcfipmahaaGreat
end
section
/- poly.collect with its closures. -/
namespace Go.Proofs.YtebcfbcfipmahaaGreat
open Go.RowKit Go.Bv
set_option linter.unusedVariables false
theorem info_u64q : (Tryz.prog.info? 31).map (fun i => (i.zero, i.size, i.bytes)) = some (some (.int .u64 0), 1, 8) := by kernel_rfl
theorem made_q (m : Nat) (f : Nat → BitVec 64) : (madeCells #[Value.int .u64 0] m).size = m ∧ ∀ j, j < m → (madeCells #[Value.int .u64 0] m)[j]? = some (.int .u64 (W64 (if j < 0 then f j else 0#64))) := by
  refine ⟨size_madeCells _ _, fun j hj => ?_⟩
  rw [if_neg (by omega), ← Array.getElem?_toList, toList_madeCells_one, List.getElem?_replicate, if_pos hj, lo_zero]
set_option maxRecDepth 100000 in
set_option maxHeartbeats 4000000 in
theorem collect_T (n : Nat) (f : Nat → BitVec 64) (p : Nat) (w : World) (hn : n ≤ 17592186044416) (hh : ∀ (w' : World) (i : Nat), New w w' → i < n → Calls Tryz.prog 165 #[.int .i64 (i : Int), .pointer (some ⟨p, 0, none⟩)] w' fun e w'' => e = .returned (.int .u64 (W64 (f i))) ∧ New w' w'') :
    Calls Tryz.prog 164 #[.int .i64 (n : Int), .func (Fn.func 165) #[] #[.pointer (some ⟨p, 0, none⟩)]] w fun e w' => ∃ a c, e = .returned (.slice a (topF f n : Nat) c) ∧ QRow w' a (topF f n) c (trimF f n) ∧ New w w' := by
  obtain ⟨i0, hi, hz0, hz1, hz2⟩ := info_parts info_u64q
  have H := Lib.hid hh
  have HTG : Hid (∀ i, i < topF f n → f i = (trimF f n).getD i 0) := Lib.hid (fun i hi => by
    unfold trimF
    rw [List.getD_eq_getElem?_getD, List.getElem?_map, List.getElem?_range hi]; rfl)
  clear hh
  go_enter Tryz.func164, Tryz.ntmps164
  go_wp2_with fail
  go_step3
  go_wp2_with fail
  go_step3
  go_wp2_with fail
  go_loopw [0] (fun mv wr => ∃ m : Nat, m ≤ n ∧ mv = .int .i64 (m : Int) ∧ topF f n = topF f m ∧ New w wr) (fun mv _ => (intOf mv).toNat)
  case atStart => exact ⟨n, Nat.le_refl _, rfl, rfl, New.refl w⟩
  case round =>
    obtain ⟨m, hm, rfl, htop, hnw⟩ := hrel
    have HT := Lib.hid htop
    have HN := Lib.hid hnw
    have HMN := Lib.hid hm
    clear htop hnw
    by_cases hpos : (0 : Int) < (m : Int)
    · have HF := Lib.hid (H.out wr (m - 1) HN.out (by omega))
      have hm1 : ((m - 1 : Nat) : Int) = (m : Int) - 1 := by omega
      rw [hm1] at HF
      have hmw : wrap64 ((m : Int) - 1) = (m : Int) - 1 := by unfold wrap64; omega
      by_cases hf0 : f (m - 1) = 0#64
      · rw [hf0, lo_zero] at HF
        have HTT : Hid (topF f n = topF f (m - 1)) := Lib.hid (by
          rw [HT.out, show m = (m - 1) + 1 by omega, show m - 1 + 1 - 1 = m - 1 by omega]
          show (if f (m - 1) = 0#64 then topF f (m - 1) else m - 1 + 1) = _
          rw [if_pos hf0])
        clear hf0
        go_wp2_with fail
        refine (HF.out).mono ?_
        rintro e w9 ⟨rfl, hn9⟩
        replace HN := Lib.hid (HN.out.trans hn9)
        clear hn9 HF
        go_wp2
        exact ⟨⟨m - 1, by omega, by rw [hm1], HTT.out, HN.out⟩, by simp [intOf]; omega⟩
      · have HTT : Hid (topF f n = m) := Lib.hid (by
          rw [HT.out, show m = (m - 1) + 1 by omega]
          show (if f (m - 1) = 0#64 then topF f (m - 1) else m - 1 + 1) = _
          rw [if_neg hf0])
        have hne : (f (m - 1) == 0#64) = false := by rw [beq_eq_false_iff_ne]; exact hf0
        clear hf0
        obtain ⟨y, hy⟩ : ∃ z, f (m - 1) = z := ⟨_, rfl⟩
        rw [hy] at HF hne
        clear hy HT
        have hne2 : (y != 0#64) = true := by rw [bne, hne]; rfl
        go_wp2_with fail
        refine (HF.out).mono ?_
        rintro e w9 ⟨rfl, hn9⟩
        replace HN := Lib.hid (HN.out.trans hn9)
        clear hn9 HF
        go_wp2_with fail
        clear hne hne2 hmw hm1
        obtain ⟨W1, hW1⟩ : ∃ z, z = w9 := ⟨_, rfl⟩
        rw [← hW1] at HN ⊢
        clear hW1
        have hmk := run_make_row (P := Tryz.prog) 28 31 i0 (.int .u64 0) Tryz.underlying28 hi hz0 hz1 rfl .i64 .i64 m (by rw [hz2]; omega) (by omega) W1
        have HM := Lib.hid (made_q m f)
        have hmk1 : Hid (∀ t : Int, t = ((m : Nat) : Int) → (Instr.makeSlice 28 (.int .i64 t) (.int .i64 t)).run Tryz.prog W1 = .ok (.slice (some ⟨W1.heap.size, 0, none⟩) m m) (W1.alloc (.cells (madeCells #[.int .u64 0] m) 31))) := Lib.hid (by rintro t rfl; exact hmk)
        clear hmk
        rw [hmk1.out _ rfl]
        go_wp2
        go_loopw [20] (fun iv wq => ∃ (k : Nat) (cs : Array Value), k ≤ m ∧ iv = .int .i64 (k : Int) ∧ wq.heap[W1.heap.size]? = some (.cells cs 31 (0, 0)) ∧ Hid (cs.size = m ∧ ∀ j, j < m → cs[j]? = some (.int .u64 (W64 (if j < k then f j else 0#64)))) ∧ New W1 wq) (fun iv _ => m - (intOf iv).toNat)
        case atStart => exact ⟨0, _, Nat.zero_le _, rfl, heap_alloc_new _ _, HM, (New.refl W1).alloc _⟩
        case round =>
          obtain ⟨k, cs, hk, rfl, hb1, HCS, hn2⟩ := hrel
          have HB1 := Lib.hid hb1
          have HN2 := Lib.hid hn2
          obtain ⟨wq, hwq⟩ : ∃ z, z = wr := ⟨_, rfl⟩
          rw [← hwq] at HB1 HN2 ⊢
          clear hb1 hn2 hwq
          by_cases hlt : (k : Int) < ((m : Nat) : Int)
          · have HTK := Lib.hid (H.out wq k (HN.out.trans HN2.out) (by omega))
            obtain ⟨y, hy⟩ : ∃ z, f k = z := ⟨_, rfl⟩
            rw [hy] at HTK
            have HY := Lib.hid hy
            clear hy
            have hk0 : (0 : Int) ≤ (k : Int) := by omega
            go_wp2_with fail
            refine (HTK.out).mono ?_
            rintro e w9 ⟨rfl, hn3⟩
            replace HB1 := Lib.hid ((hn3.block _ (lt_of_block HB1.out)).trans HB1.out)
            replace HN2 := Lib.hid (HN2.out.trans hn3)
            clear hn3 HTK
            have hcell : w9.cell? ⟨W1.heap.size, k, none⟩ = some (.int .u64 (W64 (if k < k then f k else 0#64))) := by
              rw [cell_of_row _ _ _ _ _ _ HB1.out]; exact HCS.out.2 k (by omega)
            have hfree := frozen_of_row w9 W1.heap.size k cs _ HB1.out
            have hd := heap_setCell_same w9 W1.heap.size k cs _ (.int .u64 (W64 y)) HB1.out
            have HD := Lib.hid hd
            clear hd
            go_wp2
            refine ⟨⟨k + 1, _, by omega, by go_num, HD.out, Lib.hid ⟨by rw [Array.size_setIfInBounds]; exact HCS.out.1, ?_⟩, HN2.out.setCell (Nat.le_refl _) _⟩, by simp [intOf]; omega⟩
            intro j hj
            have hs := HCS.out.1
            rw [Array.getElem?_setIfInBounds]
            by_cases e : k = j
            · subst e
              rw [if_pos rfl, if_pos (by omega), if_pos (by omega), HY.out]
            · rw [if_neg e, HCS.out.2 j hj]
              refine congrArg (fun d => some (Value.int .u64 (W64 d))) ?_
              by_cases e2 : j < k
              · rw [if_pos e2, if_pos (by omega)]
              · rw [if_neg e2, if_neg (by omega)]
          · have hkm : k = m := by omega
            go_wp2
            go_ret
            have HMM := HTT.out
            rw [HMM]
            refine ⟨_, _, rfl, ?_, HN.out.trans HN2.out⟩
            refine ⟨by rw [trimF_len]; exact HMM, Nat.le_refl _, by omega, by omega, (fun e => by cases e), ?_, ?_, ?_⟩
            · intro b off e i hi
              cases e
              rw [Nat.zero_add, cell_of_row _ _ _ _ _ _ HB1.out, HCS.out.2 i hi, if_pos (by omega), HTG.out i (by rw [HMM]; exact hi)]
            · intro x e h; cases e; rfl
            · intro x e h; cases e; exact lt_of_block HB1.out
    · obtain rfl : m = 0 := by omega
      have HTT : Hid (topF f n = 0) := Lib.hid (by rw [HT.out]; rfl)
      clear HT
      go_wp2_with fail
      obtain ⟨W1, hW1⟩ : ∃ z, z = wr := ⟨_, rfl⟩
      rw [← hW1] at HN ⊢
      clear hW1
      have hmk := run_make_row (P := Tryz.prog) 28 31 i0 (.int .u64 0) Tryz.underlying28 hi hz0 hz1 rfl .i64 .i64 0 (by rw [hz2]; omega) (by omega) W1
      have HM := Lib.hid (made_q 0 f)
      have hmk1 : Hid (∀ t : Int, t = ((0 : Nat) : Int) → (Instr.makeSlice 28 (.int .i64 t) (.int .i64 t)).run Tryz.prog W1 = .ok (.slice (some ⟨W1.heap.size, 0, none⟩) 0 0) (W1.alloc (.cells (madeCells #[.int .u64 0] 0) 31))) := Lib.hid (by rintro t rfl; exact hmk)
      clear hmk
      rw [hmk1.out 0 rfl]
      go_wp2
      go_loopw [20] (fun iv wq => ∃ (k : Nat) (cs : Array Value), k ≤ 0 ∧ iv = .int .i64 (k : Int) ∧ wq.heap[W1.heap.size]? = some (.cells cs 31 (0, 0)) ∧ Hid (cs.size = 0 ∧ ∀ j, j < 0 → cs[j]? = some (.int .u64 (W64 (if j < k then f j else 0#64)))) ∧ New W1 wq) (fun iv _ => 0 - (intOf iv).toNat)
      case atStart => exact ⟨0, _, Nat.zero_le _, rfl, heap_alloc_new _ _, HM, (New.refl W1).alloc _⟩
      case round =>
        obtain ⟨k, cs, hk, rfl, hb1, HCS, hn2⟩ := hrel
        have HB1 := Lib.hid hb1
        have HN2 := Lib.hid hn2
        obtain ⟨wq, hwq⟩ : ∃ z, z = wr := ⟨_, rfl⟩
        rw [← hwq] at HB1 HN2 ⊢
        clear hb1 hn2 hwq
        by_cases hlt : (k : Int) < ((0 : Nat) : Int)
        · exfalso; omega
        · have hkm : k = 0 := by omega
          go_wp2
          go_ret
          have HMM := HTT.out
          rw [HMM]
          refine ⟨_, _, rfl, ?_, HN.out.trans HN2.out⟩
          refine ⟨by rw [trimF_len]; exact HMM, Nat.le_refl _, by omega, by omega, (fun e => by cases e), ?_, ?_, ?_⟩
          · intro b off e i hi
            cases e
            rw [Nat.zero_add, cell_of_row _ _ _ _ _ _ HB1.out, HCS.out.2 i hi, if_pos (by omega), HTG.out i (by rw [HMM]; exact hi)]
          · intro x e h; cases e; rfl
          · intro x e h; cases e; exact lt_of_block HB1.out
end Go.Proofs.YtebcfbcfipmahaaGreat
end
