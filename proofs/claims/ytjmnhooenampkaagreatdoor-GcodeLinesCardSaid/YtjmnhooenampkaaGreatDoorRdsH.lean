/- The document's Read of a state's bytes. -/
import Derived.Test.YtjmnhooenampkaaGreatDoorRdsG
namespace Go.Proofs.YtjmnhooenampkaaGreatDoor
open Go.RowKit Go.Bv
set_option linter.unusedVariables false
set_option maxRecDepth 100000
set_option maxHeartbeats 1000000 in
theorem rr_short (a : Option Addr) (n c : Nat) (l : List (BitVec 8)) (w : World) (hl : BRow w a n c l) (h1 : n < 2) : Calls Tryz.prog 8 #[.slice a n c] w fun e w' => e = .returned (.tuple #[.agg zStc, .int .i64 3]) ∧ New w w' := by
  clear hl
  have h1' : (n : Int) < 2 := by omega
  obtain ⟨ky, hky⟩ : ∃ y, l.getD 1 0 = y := ⟨_, rfl⟩
  (try rw [hky] at HZ)
  (try rw [hky] at c1)
  (try rw [hky])
  (try rw [hky] at hcb)
  (try rw [hky] at HCK)
  have HKY := Lib.hid hky
  clear hky
  go_enter Tryz.func8, Tryz.ntmps8
  go_wp2
  go_returns
  exact ⟨rfl, (New.refl w).alloc _⟩
set_option maxHeartbeats 1000000 in
theorem rr_form (a : Option Addr) (n c : Nat) (l : List (BitVec 8)) (w : World) (hl : BRow w a n c l) (h1 : 2 ≤ n) (h2 : ¬ l.getD 0 0 = 103#8) : Calls Tryz.prog 8 #[.slice a n c] w fun e w' => e = .returned (.tuple #[.agg zStc, .int .i64 5]) ∧ New w w' := by
  obtain ⟨b, off, rfl, _⟩ := hl.addr (by omega)
  have c0 := fun o : Obj => (hl.stay ((New.refl w).alloc o)).cell b off rfl 0 (by omega)
  simp only [Nat.add_zero] at c0
  have hb : (W8 (l.getD 0 0) != 103) = true := by
    rw [bne_iff_ne]
    intro e
    exact h2 (W8_inj.1 (e.trans (by decide : (103 : Int) = W8 103#8)))
  have z2 : 0 < n := by omega
  have z4 : ¬ (n : Int) < 2 := by omega
  clear hl h2
  generalize l.getD 0 0 = x at *
  obtain ⟨ky, hky⟩ : ∃ y, l.getD 1 0 = y := ⟨_, rfl⟩
  (try rw [hky] at HZ)
  (try rw [hky] at c1)
  (try rw [hky])
  (try rw [hky] at hcb)
  (try rw [hky] at HCK)
  have HKY := Lib.hid hky
  clear hky
  go_enter Tryz.func8, Tryz.ntmps8
  go_wp2
  go_returns
  exact ⟨rfl, (New.refl w).alloc _⟩
set_option maxHeartbeats 1000000 in
theorem rr_kind (a : Option Addr) (n c : Nat) (l : List (BitVec 8)) (w : World) (hl : BRow w a n c l) (h1 : 2 ≤ n) (h2 : l.getD 0 0 = 103#8) (h3 : okK (W8 (l.getD 1 0)) = false) : Calls Tryz.prog 8 #[.slice a n c] w fun e w' => e = .returned (.tuple #[.agg zStc, .int .i64 6]) ∧ New w w' := by
  obtain ⟨b, off, rfl, _⟩ := hl.addr (by omega)
  obtain ⟨w0, hw0, hb0, hn0⟩ := box5 w zStc
  have HAL := Lib.hid hw0
  have HB := Lib.hid hb0
  have H0 := Lib.hid hn0
  have HL := Lib.hid (fun (w' : World) (h : New w w') => hl.stay h)
  have hc := fun i (hi : i < n) => (hl.stay hn0).cell b off rfl i hi
  rw [← hw0] at hc
  have c0 := hc 0 (by omega)
  have c1 := hc 1 (by omega)
  rw [Nat.add_zero, h2] at c0
  have z2 : 0 < n := by omega
  have z3 : 1 < n := by omega
  have z4 : ¬ (n : Int) < 2 := by omega
  have HZ := Lib.hid (fun w => rsize_any (W8 (l.getD 1 0)) w)
  have hz : szK (W8 (l.getD 1 0)) = 0 := by
    unfold okK at h3
    have hk' : ¬ (1 ≤ W8 (l.getD 1 0) ∧ W8 (l.getD 1 0) ≤ 8) := by simpa using h3
    unfold szK
    rw [if_neg (by omega), if_neg (by omega), if_neg (by omega)]
  rw [hz] at HZ
  clear hw0 hb0 hn0 hl hc h2 h3 hz
  obtain ⟨ky, hky⟩ : ∃ y, l.getD 1 0 = y := ⟨_, rfl⟩
  (try rw [hky] at HZ)
  (try rw [hky] at c1)
  (try rw [hky])
  (try rw [hky] at hcb)
  (try rw [hky] at HCK)
  have HKY := Lib.hid hky
  clear hky
  go_enter Tryz.func8, Tryz.ntmps8
  go_wp2_with fail
  rw [HAL.out]
  refine (HZ.out _).mono ?_
  rintro e w1 ⟨rfl, hn1⟩
  have HB1 := Lib.hid ((hn1.block _ (lt_of_block HB.out)).trans HB.out)
  have HN1 := Lib.hid (H0.out.trans hn1)
  clear hn1 HAL HB c0 c1
  have hb := HB1.out
  have k0 := cell_of_row _ _ 0 _ _ _ hb
  have k1 := cell_of_row _ _ 1 _ _ _ hb
  have k2 := cell_of_row _ _ 2 _ _ _ hb
  have k3 := cell_of_row _ _ 3 _ _ _ hb
  have k4 := cell_of_row _ _ 4 _ _ _ hb
  have kf := fun i => frozen_of_row _ _ i _ _ hb
  have HN := HN1
  clear hb
  go_wp2_with fail
  refine bodyPost_ret (by simp [results, Tryz.results8, go_sem, k0, k1, k2, k3, k4]; try rfl) rfl ?_
  exact ⟨rfl, set5 HN.out (by exact Nat.le_refl _) _ _ _ _ _⟩
set_option maxHeartbeats 1000000 in
theorem rr_less (a : Option Addr) (n c : Nat) (l : List (BitVec 8)) (w : World) (hl : BRow w a n c l) (h1 : 2 ≤ n) (h2 : l.getD 0 0 = 103#8) (s : Int) (hs : szK (W8 (l.getD 1 0)) = s) (hs1 : 1 ≤ s) (hs4 : s ≤ 4) (hlt : (n : Int) < 6 + 8 * s) : Calls Tryz.prog 8 #[.slice a n c] w fun e w' => e = .returned (.tuple #[.agg zStc, .int .i64 3]) ∧ New w w' := by
  obtain ⟨b, off, rfl, _⟩ := hl.addr (by omega)
  obtain ⟨w0, hw0, hb0, hn0⟩ := box5 w zStc
  have HAL := Lib.hid hw0
  have HB := Lib.hid hb0
  have H0 := Lib.hid hn0
  have HL := Lib.hid (fun (w' : World) (h : New w w') => hl.stay h)
  have hc := fun i (hi : i < n) => (hl.stay hn0).cell b off rfl i hi
  rw [← hw0] at hc
  have c0 := hc 0 (by omega)
  have c1 := hc 1 (by omega)
  rw [Nat.add_zero, h2] at c0
  have z2 : 0 < n := by omega
  have z3 : 1 < n := by omega
  have z4 : ¬ (n : Int) < 2 := by omega
  have HZ := Lib.hid (fun w => rsize_any (W8 (l.getD 1 0)) w)
  have HW1 : Hid (wrap64 (8 * s) = 8 * s) := Lib.hid (by unfold wrap64; omega)
  have HW2 : Hid (wrap64 (6 + 8 * s) = 6 + 8 * s) := Lib.hid (by unfold wrap64; omega)
  have hs0 : (s == 0) = false := beq_eq_false_iff_ne.2 (by omega)
  rw [hs] at HZ
  clear hw0 hb0 hn0 hl hc h2 hs
  obtain ⟨ky, hky⟩ : ∃ y, l.getD 1 0 = y := ⟨_, rfl⟩
  (try rw [hky] at HZ)
  (try rw [hky] at c1)
  (try rw [hky])
  (try rw [hky] at hcb)
  (try rw [hky] at HCK)
  have HKY := Lib.hid hky
  clear hky
  go_enter Tryz.func8, Tryz.ntmps8
  go_wp2_with fail
  rw [HAL.out]
  refine (HZ.out _).mono ?_
  rintro e w1 ⟨rfl, hn1⟩
  have HB1 := Lib.hid ((hn1.block _ (lt_of_block HB.out)).trans HB.out)
  have HN1 := Lib.hid (H0.out.trans hn1)
  clear hn1 HAL HB c0 c1
  have hb := HB1.out
  have k0 := cell_of_row _ _ 0 _ _ _ hb
  have k1 := cell_of_row _ _ 1 _ _ _ hb
  have k2 := cell_of_row _ _ 2 _ _ _ hb
  have k3 := cell_of_row _ _ 3 _ _ _ hb
  have k4 := cell_of_row _ _ 4 _ _ _ hb
  have kf := fun i => frozen_of_row _ _ i _ _ hb
  have HN := HN1
  clear hb
  have hw1 := HW1.out
  have hw2 := HW2.out
  go_wp2_with fail
  refine bodyPost_ret (by simp [results, Tryz.results8, go_sem, k0, k1, k2, k3, k4]; try rfl) rfl ?_
  exact ⟨rfl, set5 HN.out (by exact Nat.le_refl _) _ _ _ _ _⟩
set_option maxHeartbeats 1000000 in
theorem rr_more (a : Option Addr) (n c : Nat) (l : List (BitVec 8)) (w : World) (hl : BRow w a n c l) (h1 : 2 ≤ n) (h2 : l.getD 0 0 = 103#8) (s : Int) (hs : szK (W8 (l.getD 1 0)) = s) (hs1 : 1 ≤ s) (hs4 : s ≤ 4) (hlt2 : ¬ (n : Int) < 6 + 8 * s) (hlt : 6 + 8 * s < (n : Int)) : Calls Tryz.prog 8 #[.slice a n c] w fun e w' => e = .returned (.tuple #[.agg zStc, .int .i64 4]) ∧ New w w' := by
  obtain ⟨b, off, rfl, _⟩ := hl.addr (by omega)
  obtain ⟨w0, hw0, hb0, hn0⟩ := box5 w zStc
  have HAL := Lib.hid hw0
  have HB := Lib.hid hb0
  have H0 := Lib.hid hn0
  have HL := Lib.hid (fun (w' : World) (h : New w w') => hl.stay h)
  have hc := fun i (hi : i < n) => (hl.stay hn0).cell b off rfl i hi
  rw [← hw0] at hc
  have c0 := hc 0 (by omega)
  have c1 := hc 1 (by omega)
  rw [Nat.add_zero, h2] at c0
  have z2 : 0 < n := by omega
  have z3 : 1 < n := by omega
  have z4 : ¬ (n : Int) < 2 := by omega
  have HZ := Lib.hid (fun w => rsize_any (W8 (l.getD 1 0)) w)
  have HW1 : Hid (wrap64 (8 * s) = 8 * s) := Lib.hid (by unfold wrap64; omega)
  have HW2 : Hid (wrap64 (6 + 8 * s) = 6 + 8 * s) := Lib.hid (by unfold wrap64; omega)
  have hs0 : (s == 0) = false := beq_eq_false_iff_ne.2 (by omega)
  rw [hs] at HZ
  clear hw0 hb0 hn0 hl hc h2 hs
  obtain ⟨ky, hky⟩ : ∃ y, l.getD 1 0 = y := ⟨_, rfl⟩
  (try rw [hky] at HZ)
  (try rw [hky] at c1)
  (try rw [hky])
  (try rw [hky] at hcb)
  (try rw [hky] at HCK)
  have HKY := Lib.hid hky
  clear hky
  go_enter Tryz.func8, Tryz.ntmps8
  go_wp2_with fail
  rw [HAL.out]
  refine (HZ.out _).mono ?_
  rintro e w1 ⟨rfl, hn1⟩
  have HB1 := Lib.hid ((hn1.block _ (lt_of_block HB.out)).trans HB.out)
  have HN1 := Lib.hid (H0.out.trans hn1)
  clear hn1 HAL HB c0 c1
  have hb := HB1.out
  have k0 := cell_of_row _ _ 0 _ _ _ hb
  have k1 := cell_of_row _ _ 1 _ _ _ hb
  have k2 := cell_of_row _ _ 2 _ _ _ hb
  have k3 := cell_of_row _ _ 3 _ _ _ hb
  have k4 := cell_of_row _ _ 4 _ _ _ hb
  have kf := fun i => frozen_of_row _ _ i _ _ hb
  have HN := HN1
  clear hb
  have hw1 := HW1.out
  have hw2 := HW2.out
  go_wp2_with fail
  refine bodyPost_ret (by simp [results, Tryz.results8, go_sem, k0, k1, k2, k3, k4]; try rfl) rfl ?_
  exact ⟨rfl, set5 HN.out (by exact Nat.le_refl _) _ _ _ _ _⟩
set_option maxHeartbeats 1000000 in
theorem rr_sum (a : Option Addr) (n c : Nat) (l : List (BitVec 8)) (w : World) (hl : BRow w a n c l) (h1 : 2 ≤ n) (h2 : l.getD 0 0 = 103#8) (m : Nat) (hs : szK (W8 (l.getD 1 0)) = (m : Int)) (hs1 : 1 ≤ m) (hs4 : m ≤ 4) (hn : n = 6 + 8 * m) (hok : ok16 l = false) : Calls Tryz.prog 8 #[.slice a n c] w fun e w' => e = .returned (.tuple #[.agg zStc, .int .i64 14]) ∧ New w w' := by
  obtain ⟨b, off, rfl, _⟩ := hl.addr (by omega)
  obtain ⟨w0, hw0, hb0, hn0⟩ := box5 w zStc
  have HAL := Lib.hid hw0
  have HB := Lib.hid hb0
  have H0 := Lib.hid hn0
  have HL := Lib.hid (fun (w' : World) (h : New w w') => hl.stay h)
  have hc := fun i (hi : i < n) => (hl.stay hn0).cell b off rfl i hi
  rw [← hw0] at hc
  have c0 := hc 0 (by omega)
  have c1 := hc 1 (by omega)
  rw [Nat.add_zero, h2] at c0
  have z2 : 0 < n := by omega
  have z3 : 1 < n := by omega
  have z4 : ¬ (n : Int) < 2 := by omega
  have HZ := Lib.hid (fun w => rsize_any (W8 (l.getD 1 0)) w)
  have HW1 : Hid (wrap64 (8 * (m : Int)) = 8 * (m : Int)) := Lib.hid (by unfold wrap64; omega)
  have HW2 : Hid (wrap64 (6 + 8 * (m : Int)) = 6 + 8 * (m : Int)) := Lib.hid (by unfold wrap64; omega)
  have hs0 : ((m : Int) == 0) = false := beq_eq_false_iff_ne.2 (by omega)
  have q1 : ¬ (n : Int) < 6 + 8 * (m : Int) := by omega
  have q2 : ¬ 6 + 8 * (m : Int) < (n : Int) := by omega
  have HO := Lib.hid (fun (w' : World) (h : New w w') => openr_any b off n c l w' (hl.stay h) (by omega))
  rw [hok] at HO
  have HNM : Hid (n = 6 + 8 * m) := Lib.hid hn
  rw [hs] at HZ
  clear hw0 hb0 hn0 hl hc h2 hs hn
  simp only [Bool.false_eq_true, if_false] at HO
  obtain ⟨ky, hky⟩ : ∃ y, l.getD 1 0 = y := ⟨_, rfl⟩
  (try rw [hky] at HZ)
  (try rw [hky] at c1)
  (try rw [hky])
  (try rw [hky] at hcb)
  (try rw [hky] at HCK)
  have HKY := Lib.hid hky
  clear hky
  go_enter Tryz.func8, Tryz.ntmps8
  go_wp2_with fail
  rw [HAL.out]
  refine (HZ.out _).mono ?_
  rintro e w1 ⟨rfl, hn1⟩
  have HB1 := Lib.hid ((hn1.block _ (lt_of_block HB.out)).trans HB.out)
  have HN1 := Lib.hid (H0.out.trans hn1)
  clear hn1 HAL HB c0 c1
  have hw1 := HW1.out
  have hw2 := HW2.out
  go_wp2_with fail
  refine (HO.out _ HN1.out).mono ?_
  rintro e w2 ⟨rfl, hn2⟩
  have HB2 := Lib.hid ((hn2.block _ (lt_of_block HB1.out)).trans HB1.out)
  have HN2 := Lib.hid (HN1.out.trans hn2)
  clear hn2 HB1 hw1 hw2
  have hb := HB2.out
  have k0 := cell_of_row _ _ 0 _ _ _ hb
  have k1 := cell_of_row _ _ 1 _ _ _ hb
  have k2 := cell_of_row _ _ 2 _ _ _ hb
  have k3 := cell_of_row _ _ 3 _ _ _ hb
  have k4 := cell_of_row _ _ 4 _ _ _ hb
  have kf := fun i => frozen_of_row _ _ i _ _ hb
  have HN := HN2
  clear hb
  go_wp2_with fail
  refine bodyPost_ret (by simp [results, Tryz.results8, go_sem, k0, k1, k2, k3, k4]; try rfl) rfl ?_
  exact ⟨rfl, set5 HN.out (by exact Nat.le_refl _) _ _ _ _ _⟩
set_option maxHeartbeats 1000000 in
theorem rr_bad (a : Option Addr) (n c : Nat) (l : List (BitVec 8)) (w : World) (hl : BRow w a n c l) (h1 : 2 ≤ n) (h2 : l.getD 0 0 = 103#8) (m : Nat) (hs : szK (W8 (l.getD 1 0)) = (m : Int)) (hs1 : 1 ≤ m) (hs4 : m ≤ 4) (hn : n = 6 + 8 * m) (hok : ok16 l = true) (hck : ¬ chkK (W8 (l.getD 1 0)) (qd17 l m) = 0) : Calls Tryz.prog 8 #[.slice a n c] w fun e w' => e = .returned (.tuple #[.agg zStc, .int .i64 (chkK (W8 (l.getD 1 0)) (qd17 l m))]) ∧ New w w' := by
  obtain ⟨b, off, rfl, _⟩ := hl.addr (by omega)
  obtain ⟨w0, hw0, hb0, hn0⟩ := box5 w zStc
  have HAL := Lib.hid hw0
  have HB := Lib.hid hb0
  have H0 := Lib.hid hn0
  have HL := Lib.hid (fun (w' : World) (h : New w w') => hl.stay h)
  have hc := fun i (hi : i < n) => (hl.stay hn0).cell b off rfl i hi
  rw [← hw0] at hc
  have c0 := hc 0 (by omega)
  have c1 := hc 1 (by omega)
  rw [Nat.add_zero, h2] at c0
  have z2 : 0 < n := by omega
  have z3 : 1 < n := by omega
  have z4 : ¬ (n : Int) < 2 := by omega
  have HZ := Lib.hid (fun w => rsize_any (W8 (l.getD 1 0)) w)
  have HW1 : Hid (wrap64 (8 * (m : Int)) = 8 * (m : Int)) := Lib.hid (by unfold wrap64; omega)
  have HW2 : Hid (wrap64 (6 + 8 * (m : Int)) = 6 + 8 * (m : Int)) := Lib.hid (by unfold wrap64; omega)
  have hs0 : ((m : Int) == 0) = false := beq_eq_false_iff_ne.2 (by omega)
  have q1 : ¬ (n : Int) < 6 + 8 * (m : Int) := by omega
  have q2 : ¬ 6 + 8 * (m : Int) < (n : Int) := by omega
  have HO := Lib.hid (fun (w' : World) (h : New w w') => openr_any b off n c l w' (hl.stay h) (by omega))
  rw [hok] at HO
  have HNM : Hid (n = 6 + 8 * m) := Lib.hid hn
  rw [hs] at HZ
  clear hw0 hb0 hn0 hl hc h2 hs hn
  simp only [if_true] at HO
  have hcb : (chkK (W8 (l.getD 1 0)) (qd17 l m) != 0) = true := by rw [bne_iff_ne]; exact hck
  clear hck
  obtain ⟨ky, hky⟩ : ∃ y, l.getD 1 0 = y := ⟨_, rfl⟩
  (try rw [hky] at HZ)
  (try rw [hky] at c1)
  (try rw [hky])
  (try rw [hky] at hcb)
  (try rw [hky] at HCK)
  have HKY := Lib.hid hky
  clear hky
  go_enter Tryz.func8, Tryz.ntmps8
  go_wp2_with fail
  rw [HAL.out]
  refine (HZ.out _).mono ?_
  rintro e w1 ⟨rfl, hn1⟩
  have HB1 := Lib.hid ((hn1.block _ (lt_of_block HB.out)).trans HB.out)
  have HN1 := Lib.hid (H0.out.trans hn1)
  clear hn1 HAL HB c0 c1
  have hw1 := HW1.out
  have hw2 := HW2.out
  go_wp2_with fail
  refine (HO.out _ HN1.out).mono ?_
  rintro e w2 ⟨rfl, hn2⟩
  have HB2 := Lib.hid ((hn2.block _ (lt_of_block HB1.out)).trans HB1.out)
  have HN2 := Lib.hid (HN1.out.trans hn2)
  clear hn2 HB1 hw1 hw2
  have c1 := (HL.out _ HN2.out).cell b off rfl 1 (by omega)
  rw [HKY.out] at c1
  obtain ⟨w5, hw5, hb5, hn5⟩ := box5 w2 #[.int .i64 (W8 (ky)), .int .u64 0, .int .u64 0, .int .u64 0, .int .u64 0]
  have HB5 := Lib.hid hb5
  have HN5 := Lib.hid hn5
  obtain ⟨p9, hp9⟩ : ∃ p, w2.heap.size = p := ⟨_, rfl⟩
  have HP9 : Hid (w2.heap.size = p9) := Lib.hid hp9
  have HAL5 := Lib.hid hw5
  have hwk : wrap64 (W8 ky) = W8 ky := by
    have := ky.isLt
    unfold wrap64 W8
    omega
  clear hw5 hb5 hn5 hp9
  go_wp2_with fail

  rw [HAL5.out]
  rw [hwk]
  clear hwk
  rw [HP9.out] at HB5 ⊢
  clear HAL5 c1
  go_loopw [8] (fun iv wr => ∃ q : Nat, q ≤ m ∧ iv = .int .i64 (q : Int) ∧ Hid (wr.heap[p9]? = some (.cells (stc (W8 (ky)) (qd17 l q)) 27 (0, 0))) ∧ Hid (New w2 wr)) (fun iv _ => m - (intOf iv).toNat)
  case atStart => exact ⟨0, Nat.zero_le _, rfl, Lib.hid (by rw [qd_zero]; exact HB5.out), HN5⟩
  case round =>
    obtain ⟨q, hq, rfl, HBQ, HNQ⟩ := hrel
    obtain ⟨wq, hwq⟩ : ∃ z, z = wr := ⟨_, rfl⟩
    rw [← hwq] at HBQ HNQ ⊢
    clear hwq HB5 HN5
    by_cases hlt : (q : Int) < (m : Int)
    · have hq0 : (0 : Int) ≤ (q : Int) := by omega
      have hq4 : (q : Int) < 4 := by omega
      have HLE : Hid (Calls Tryz.prog 19 #[.slice (some ⟨b, off, none⟩) n c, .int .i64 (2 + 8 * (q : Int)), .int .i64 8] wq fun e w' => e = .returned (.int .u64 (W64 (rd l (2 + 8 * q) 8))) ∧ w' = wq) := Lib.hid (by
        have h := num_ref (some ⟨b, off, none⟩) n c l (2 + 8 * q) 8 wq (HL.out _ (HN2.out.trans HNQ.out)) (by omega) (by omega)
        rw [show ((2 + 8 * q : Nat) : Int) = 2 + 8 * (q : Int) by omega] at h
        exact h)
      have HV1 : Hid (wrap64 (8 * (q : Int)) = 8 * (q : Int)) := Lib.hid (by unfold wrap64; omega)
      have HV2 : Hid (wrap64 (2 + 8 * (q : Int)) = 2 + 8 * (q : Int)) := Lib.hid (by unfold wrap64; omega)
      have hv1 := HV1.out
      have hv2 := HV2.out
      go_wp2_with fail
      refine HLE.out.mono ?_
      rintro e w' ⟨rfl, rfl⟩
      clear hv1 hv2
      have f1 := ok_row (W8 (ky)) (qd17 l q) 27 w' w' p9 HBQ.out (New.refl _) q (by omega)
      have f2 := frozen_of_row _ _ (1 + q) _ _ HBQ.out
      have HS := Lib.hid (heap_setCell_same _ p9 (1 + q) _ _ (.int .u64 (W64 (rd l (2 + 8 * q) 8))) HBQ.out)
      have HQS := Lib.hid (qd_set l (W8 (ky)) q (by omega))
      have HNS := Lib.hid (HNQ.out.setCell (p := ⟨p9, 1 + q, none⟩) (by show w2.heap.size ≤ p9; rw [HP9.out]; exact Nat.le_refl _) (.int .u64 (W64 (rd l (2 + 8 * q) 8))))
      generalize rd l (2 + 8 * q) 8 = x at *
      go_wp2
      exact ⟨⟨q + 1, by omega, by go_num, Lib.hid (by rw [← HQS.out]; exact HS.out), HNS⟩, by simp [intOf]; omega⟩
    · obtain rfl : q = m := by omega
      have HRB := Lib.hid ((HNQ.out.block _ (lt_of_block HB2.out)).trans HB2.out)
      have HNF := Lib.hid (HN2.out.trans HNQ.out)
      have e0 := cell_of_row _ _ 0 _ _ _ HBQ.out
      have e1 := cell_of_row _ _ 1 _ _ _ HBQ.out
      have e2 := cell_of_row _ _ 2 _ _ _ HBQ.out
      have e3 := cell_of_row _ _ 3 _ _ _ HBQ.out
      have e4 := cell_of_row _ _ 4 _ _ _ HBQ.out
      clear HB2 hlt
      go_wp2_with fail
      refine (rcheck_any _ _ _).mono ?_
      rintro e w8 ⟨rfl, hn8⟩
      have hb := (hn8.block _ (lt_of_block HRB.out)).trans HRB.out
      have k0 := cell_of_row _ _ 0 _ _ _ hb
      have k1 := cell_of_row _ _ 1 _ _ _ hb
      have k2 := cell_of_row _ _ 2 _ _ _ hb
      have k3 := cell_of_row _ _ 3 _ _ _ hb
      have k4 := cell_of_row _ _ 4 _ _ _ hb
      have kf := fun i => frozen_of_row _ _ i _ _ hb
      have HN := Lib.hid (HNF.out.trans hn8)
      clear hb hn8
      go_wp2_with fail
      refine bodyPost_ret (by simp [results, Tryz.results8, go_sem, k0, k1, k2, k3, k4]; try rfl) rfl ?_
      exact ⟨rfl, set5 HN.out (by exact Nat.le_refl _) _ _ _ _ _⟩
set_option maxHeartbeats 1000000 in
theorem rr_ok (a : Option Addr) (n c : Nat) (l : List (BitVec 8)) (w : World) (hl : BRow w a n c l) (h1 : 2 ≤ n) (h2 : l.getD 0 0 = 103#8) (m : Nat) (hs : szK (W8 (l.getD 1 0)) = (m : Int)) (hs1 : 1 ≤ m) (hs4 : m ≤ 4) (hn : n = 6 + 8 * m) (hok : ok16 l = true) (hck : chkK (W8 (l.getD 1 0)) (qd17 l m) = 0) : Calls Tryz.prog 8 #[.slice a n c] w fun e w' => e = .returned (.tuple #[.agg (stc (W8 (l.getD 1 0)) (qd17 l m)), .int .i64 0]) ∧ New w w' := by
  obtain ⟨b, off, rfl, _⟩ := hl.addr (by omega)
  obtain ⟨w0, hw0, hb0, hn0⟩ := box5 w zStc
  have HAL := Lib.hid hw0
  have HB := Lib.hid hb0
  have H0 := Lib.hid hn0
  have HL := Lib.hid (fun (w' : World) (h : New w w') => hl.stay h)
  have hc := fun i (hi : i < n) => (hl.stay hn0).cell b off rfl i hi
  rw [← hw0] at hc
  have c0 := hc 0 (by omega)
  have c1 := hc 1 (by omega)
  rw [Nat.add_zero, h2] at c0
  have z2 : 0 < n := by omega
  have z3 : 1 < n := by omega
  have z4 : ¬ (n : Int) < 2 := by omega
  have HZ := Lib.hid (fun w => rsize_any (W8 (l.getD 1 0)) w)
  have HW1 : Hid (wrap64 (8 * (m : Int)) = 8 * (m : Int)) := Lib.hid (by unfold wrap64; omega)
  have HW2 : Hid (wrap64 (6 + 8 * (m : Int)) = 6 + 8 * (m : Int)) := Lib.hid (by unfold wrap64; omega)
  have hs0 : ((m : Int) == 0) = false := beq_eq_false_iff_ne.2 (by omega)
  have q1 : ¬ (n : Int) < 6 + 8 * (m : Int) := by omega
  have q2 : ¬ 6 + 8 * (m : Int) < (n : Int) := by omega
  have HO := Lib.hid (fun (w' : World) (h : New w w') => openr_any b off n c l w' (hl.stay h) (by omega))
  rw [hok] at HO
  have HNM : Hid (n = 6 + 8 * m) := Lib.hid hn
  rw [hs] at HZ
  clear hw0 hb0 hn0 hl hc h2 hs hn
  simp only [if_true] at HO
  have HCK := Lib.hid hck
  clear hck
  obtain ⟨ky, hky⟩ : ∃ y, l.getD 1 0 = y := ⟨_, rfl⟩
  (try rw [hky] at HZ)
  (try rw [hky] at c1)
  (try rw [hky])
  (try rw [hky] at hcb)
  (try rw [hky] at HCK)
  have HKY := Lib.hid hky
  clear hky
  go_enter Tryz.func8, Tryz.ntmps8
  go_wp2_with fail
  rw [HAL.out]
  refine (HZ.out _).mono ?_
  rintro e w1 ⟨rfl, hn1⟩
  have HB1 := Lib.hid ((hn1.block _ (lt_of_block HB.out)).trans HB.out)
  have HN1 := Lib.hid (H0.out.trans hn1)
  clear hn1 HAL HB c0 c1
  have hw1 := HW1.out
  have hw2 := HW2.out
  go_wp2_with fail
  refine (HO.out _ HN1.out).mono ?_
  rintro e w2 ⟨rfl, hn2⟩
  have HB2 := Lib.hid ((hn2.block _ (lt_of_block HB1.out)).trans HB1.out)
  have HN2 := Lib.hid (HN1.out.trans hn2)
  clear hn2 HB1 hw1 hw2
  have c1 := (HL.out _ HN2.out).cell b off rfl 1 (by omega)
  rw [HKY.out] at c1
  obtain ⟨w5, hw5, hb5, hn5⟩ := box5 w2 #[.int .i64 (W8 (ky)), .int .u64 0, .int .u64 0, .int .u64 0, .int .u64 0]
  have HB5 := Lib.hid hb5
  have HN5 := Lib.hid hn5
  obtain ⟨p9, hp9⟩ : ∃ p, w2.heap.size = p := ⟨_, rfl⟩
  have HP9 : Hid (w2.heap.size = p9) := Lib.hid hp9
  have HAL5 := Lib.hid hw5
  have hwk : wrap64 (W8 ky) = W8 ky := by
    have := ky.isLt
    unfold wrap64 W8
    omega
  clear hw5 hb5 hn5 hp9
  go_wp2_with fail

  rw [HAL5.out]
  rw [hwk]
  clear hwk
  rw [HP9.out] at HB5 ⊢
  clear HAL5 c1
  go_loopw [8] (fun iv wr => ∃ q : Nat, q ≤ m ∧ iv = .int .i64 (q : Int) ∧ Hid (wr.heap[p9]? = some (.cells (stc (W8 (ky)) (qd17 l q)) 27 (0, 0))) ∧ Hid (New w2 wr)) (fun iv _ => m - (intOf iv).toNat)
  case atStart => exact ⟨0, Nat.zero_le _, rfl, Lib.hid (by rw [qd_zero]; exact HB5.out), HN5⟩
  case round =>
    obtain ⟨q, hq, rfl, HBQ, HNQ⟩ := hrel
    obtain ⟨wq, hwq⟩ : ∃ z, z = wr := ⟨_, rfl⟩
    rw [← hwq] at HBQ HNQ ⊢
    clear hwq HB5 HN5
    by_cases hlt : (q : Int) < (m : Int)
    · have hq0 : (0 : Int) ≤ (q : Int) := by omega
      have hq4 : (q : Int) < 4 := by omega
      have HLE : Hid (Calls Tryz.prog 19 #[.slice (some ⟨b, off, none⟩) n c, .int .i64 (2 + 8 * (q : Int)), .int .i64 8] wq fun e w' => e = .returned (.int .u64 (W64 (rd l (2 + 8 * q) 8))) ∧ w' = wq) := Lib.hid (by
        have h := num_ref (some ⟨b, off, none⟩) n c l (2 + 8 * q) 8 wq (HL.out _ (HN2.out.trans HNQ.out)) (by omega) (by omega)
        rw [show ((2 + 8 * q : Nat) : Int) = 2 + 8 * (q : Int) by omega] at h
        exact h)
      have HV1 : Hid (wrap64 (8 * (q : Int)) = 8 * (q : Int)) := Lib.hid (by unfold wrap64; omega)
      have HV2 : Hid (wrap64 (2 + 8 * (q : Int)) = 2 + 8 * (q : Int)) := Lib.hid (by unfold wrap64; omega)
      have hv1 := HV1.out
      have hv2 := HV2.out
      go_wp2_with fail
      refine HLE.out.mono ?_
      rintro e w' ⟨rfl, rfl⟩
      clear hv1 hv2
      have f1 := ok_row (W8 (ky)) (qd17 l q) 27 w' w' p9 HBQ.out (New.refl _) q (by omega)
      have f2 := frozen_of_row _ _ (1 + q) _ _ HBQ.out
      have HS := Lib.hid (heap_setCell_same _ p9 (1 + q) _ _ (.int .u64 (W64 (rd l (2 + 8 * q) 8))) HBQ.out)
      have HQS := Lib.hid (qd_set l (W8 (ky)) q (by omega))
      have HNS := Lib.hid (HNQ.out.setCell (p := ⟨p9, 1 + q, none⟩) (by show w2.heap.size ≤ p9; rw [HP9.out]; exact Nat.le_refl _) (.int .u64 (W64 (rd l (2 + 8 * q) 8))))
      generalize rd l (2 + 8 * q) 8 = x at *
      go_wp2
      exact ⟨⟨q + 1, by omega, by go_num, Lib.hid (by rw [← HQS.out]; exact HS.out), HNS⟩, by simp [intOf]; omega⟩
    · obtain rfl : q = m := by omega
      have HRB := Lib.hid ((HNQ.out.block _ (lt_of_block HB2.out)).trans HB2.out)
      have HNF := Lib.hid (HN2.out.trans HNQ.out)
      have e0 := cell_of_row _ _ 0 _ _ _ HBQ.out
      have e1 := cell_of_row _ _ 1 _ _ _ HBQ.out
      have e2 := cell_of_row _ _ 2 _ _ _ HBQ.out
      have e3 := cell_of_row _ _ 3 _ _ _ HBQ.out
      have e4 := cell_of_row _ _ 4 _ _ _ HBQ.out
      clear HB2 hlt
      go_wp2_with fail
      refine (rcheck_any _ _ _).mono ?_
      rintro e w8 ⟨rfl, hn8⟩
      rw [HCK.out]
      have hb := (hn8.block _ (lt_of_block HRB.out)).trans HRB.out
      have k0 := cell_of_row _ _ 0 _ _ _ hb
      have k1 := cell_of_row _ _ 1 _ _ _ hb
      have k2 := cell_of_row _ _ 2 _ _ _ hb
      have k3 := cell_of_row _ _ 3 _ _ _ hb
      have k4 := cell_of_row _ _ 4 _ _ _ hb
      have kf := fun i => frozen_of_row _ _ i _ _ hb
      have HN := Lib.hid (HNF.out.trans hn8)
      have HB8 := Lib.hid ((hn8.block _ (lt_of_block HBQ.out)).trans HBQ.out)
      have g0 := cell_of_row _ _ 0 _ _ _ HB8.out
      have g1 := cell_of_row _ _ 1 _ _ _ HB8.out
      have g2 := cell_of_row _ _ 2 _ _ _ HB8.out
      have g3 := cell_of_row _ _ 3 _ _ _ HB8.out
      have g4 := cell_of_row _ _ 4 _ _ _ HB8.out
      clear hb hn8 e0 e1 e2 e3 e4
      go_wp2_with fail
      refine bodyPost_ret (by simp [results, Tryz.results8, go_sem, k0, k1, k2, k3, k4]; try rfl) rfl ?_
      exact ⟨rfl, set5 HN.out (by exact Nat.le_refl _) _ _ _ _ _⟩
theorem rread_17 (a : Option Addr) (n c : Nat) (l : List (BitVec 8)) (w : World) (hl : BRow w a n c l) (hsm : n ≤ 300) :
    Calls Tryz.prog 8 #[.slice a n c] w fun e w' => e = .returned (.tuple #[.agg (stc (rdK17 l) (rdQ17 l)), .int .i64 (rdE17 l)]) ∧ New w w' := by
  have hln := hl.len_eq
  have bad : ∀ E : Int, rdE17 l = E → ¬ E = 0 → (Calls Tryz.prog 8 #[.slice a n c] w fun e w' => e = .returned (.tuple #[.agg zStc, .int .i64 E]) ∧ New w w') → Calls Tryz.prog 8 #[.slice a n c] w fun e w' => e = .returned (.tuple #[.agg (stc (rdK17 l) (rdQ17 l)), .int .i64 (rdE17 l)]) ∧ New w w' := fun E hE h0 h => by
    unfold rdK17 rdQ17
    rw [hE, if_neg h0, if_neg h0, ← zStc_is]
    exact h
  by_cases h1 : n < 2
  · exact bad 3 (by unfold rdE17; rw [if_pos (by omega)]) (by decide) (rr_short a n c l w hl h1)
  by_cases h2 : l.getD 0 0 = 103#8
  case neg => exact bad 5 (by unfold rdE17; rw [if_neg (by omega), if_pos h2]) (by decide) (rr_form a n c l w hl (by omega) h2)
  cases h3 : okK (kd17 l)
  · exact bad 6 (by unfold rdE17; rw [if_neg (by omega), if_neg (not_not_intro h2), if_pos h3]) (by decide) (rr_kind a n c l w hl (by omega) h2 h3)
  have h3' : ¬ okK (kd17 l) = false := by rw [h3]; decide
  obtain ⟨z1, z2, z3, z4, z5⟩ := szK_n h3
  by_cases h4 : n < 6 + 8 * nK (kd17 l)
  · exact bad 3 (by unfold rdE17; rw [if_neg (by omega), if_neg (not_not_intro h2), if_neg h3', if_pos (by omega)]) (by decide) (rr_less a n c l w hl (by omega) h2 _ z1 (by omega) (by omega) (by omega))
  by_cases h5 : 6 + 8 * nK (kd17 l) < n
  · exact bad 4 (by unfold rdE17; rw [if_neg (by omega), if_neg (not_not_intro h2), if_neg h3', if_neg (by omega), if_pos (by omega)]) (by decide) (rr_more a n c l w hl (by omega) h2 _ z1 (by omega) (by omega) (by omega) (by omega))
  cases h6 : ok16 l
  · exact bad 14 (by unfold rdE17; rw [if_neg (by omega), if_neg (not_not_intro h2), if_neg h3', if_neg (by omega), if_neg (by omega), if_pos h6]) (by decide) (rr_sum a n c l w hl (by omega) h2 _ z1 (by omega) (by omega) (by omega) h6)
  have hE : rdE17 l = chkK (kd17 l) (qd17 l (nK (kd17 l))) := by unfold rdE17; rw [if_neg (by omega), if_neg (not_not_intro h2), if_neg h3', if_neg (by omega), if_neg (by omega), if_neg (by rw [h6]; decide)]
  by_cases h7 : chkK (kd17 l) (qd17 l (nK (kd17 l))) = 0
  · rw [h7] at hE
    unfold rdK17 rdQ17
    rw [hE, if_pos rfl, if_pos rfl]
    exact rr_ok a n c l w hl (by omega) h2 _ z1 (by omega) (by omega) (by omega) h6 h7
  · exact bad _ hE h7 (rr_bad a n c l w hl (by omega) h2 _ z1 (by omega) (by omega) (by omega) h6 h7)
end Go.Proofs.YtjmnhooenampkaaGreatDoor
