import Derived.Test.YthkmcnlciefnfaaGreatZ5CfgJ
import Derived.Test.YthkmcnlciefnfaaGreatZ5CfgF
import Derived.Test.YthkmcnlciefnfaaGreatZ5SeaM
/- Layer 47: the law ConfigTells. -/
namespace Go.Proofs.YthkmcnlciefnfaaGreat
open Go Go.RowKit Go.Bv Go.Ali
set_option linter.unusedVariables false
set_option maxRecDepth 100000
theorem ct_early (W : World) (t k b : Int) (h l : BitVec 64) (a : Option Addr) (n c : Nat) (x : List (BitVec 64)) (hr : QRow W a n c x) (h1 : 600 < n) (h2 : n ≤ 4096) : Calls Tryz.prog 3 #[.agg (cfc t k b h l a n c)] W fun e w' => e = .returned (.bool true) ∧ Below W.heap.size W w' := by
  have HA := Lib.hid (fun w => awake47 w)
  generalize hW : W.alloc (.cells (cfc t k b h l a n c) 27) = w0
  have HB : Hid (w0.heap[W.heap.size]? = some (.cells (cfc t k b h l a n c) 27 (0, 0))) := Lib.hid (by rw [← hW]; exact heap_alloc_new W _)
  have HN : Hid (New W w0) := Lib.hid (by rw [← hW]; exact (New.refl W).alloc _)
  have q1 : decide ((600 : Int) < (n : Int)) = true := decide_eq_true (by omega)
  have q2 : decide ((n : Int) ≤ 4096) = true := decide_eq_true (by omega)
  clear hr h1 h2
  go_enter Tryz.func3, Tryz.ntmps3
  go_wp2_with fail
  refine (HA.out _).mono ?_
  rintro e w1 ⟨rfl, hn⟩
  have hb := (hn.block _ (lt_of_block HB.out)).trans HB.out
  have HN1 := Lib.hid (HN.out.trans hn)
  have c0 := cell_of_row _ _ 0 _ _ _ hb
  have c1 := cell_of_row _ _ 1 _ _ _ hb
  have c2 := cell_of_row _ _ 2 _ _ _ hb
  have c3 := cell_of_row _ _ 3 _ _ _ hb
  have c4 := cell_of_row _ _ 4 _ _ _ hb
  have c5 := cell_of_row _ _ 5 _ _ _ hb
  clear hb hn
  go_wp2
  go_ret
  exact ⟨rfl, HN1.out⟩
set_option maxHeartbeats 4000000 in
theorem ct_bad (W : World) (t k b : Int) (h l : BitVec 64) (a : Option Addr) (n c : Nat) (x : List (BitVec 64)) (hr : QRow W a n c x) (he : cfE t k b h l x ≠ 0) (hc : n ≤ 600 ∨ 4096 < n) : Calls Tryz.prog 3 #[.agg (cfc t k b h l a n c)] W fun e w' => e = .returned (.bool true) ∧ Below W.heap.size W w' := by
  have HA := Lib.hid (fun w => awake47 w)
  generalize hW : W.alloc (.cells (cfc t k b h l a n c) 27) = w0
  have HB : Hid (w0.heap[W.heap.size]? = some (.cells (cfc t k b h l a n c) 27 (0, 0))) := Lib.hid (by rw [← hW]; exact heap_alloc_new W _)
  have HN : Hid (New W w0) := Lib.hid (by rw [← hW]; exact (New.refl W).alloc _)
  have HBX := Lib.hid (fun (w' : World) (hn : New w0 w') => (hn.block _ (lt_of_block HB.out)).trans HB.out)
  have HOF := Lib.hid (fun w => of_47 t k b h l a n c w)
  have HRC := Lib.hid (fun (w' : World) (hn : New w0 w') => rcheck_47 t k b h l a n c x w' (hr.stay (HN.out.trans hn)))
  have HCK := Lib.hid (fun (w' : World) (hn : New w0 w') => ccheck_47 t k b h l a n c x w' (hr.stay (HN.out.trans hn)))
  have HEN := Lib.hid (fun (w' : World) (hn : New w0 w') => enc_err t k b h l a n c x w' (hr.stay (HN.out.trans hn)) he)
  have HST := Lib.hid (fun (w' : World) (hn : New w0 w') => cstate_err t k b h l a n c x w' (hr.stay (HN.out.trans hn)) he)
  have e1 : (cfE t k b h l x != 0) = true := bne_iff_ne.2 he
  have e2 : (cfE t k b h l x == cfE t k b h l x) = true := beq_self_eq_true _
  have e3 : (cfE t k b h l x != cfE t k b h l x) = false := bne_self_eq_false _
  have HCC : Hid (decide ((600 : Int) < (n : Int)) = false ∨ decide ((600 : Int) < (n : Int)) = true ∧ decide ((n : Int) ≤ 4096) = false) := Lib.hid (by
    rcases hc with hc | hc
    · exact .inl (decide_eq_false (by omega))
    · exact .inr ⟨decide_eq_true (by omega), decide_eq_false (by omega)⟩)
  have heq := fun w => eqSt_zeroC w
  generalize cfE t k b h l x = E at *
  clear hr he hc
  rcases HCC.out with q1 | ⟨q1, q2⟩
  · go_enter Tryz.func3, Tryz.ntmps3
    go_wp2_with fail
    refine (HA.out _).mono ?_
    rintro e w1 ⟨rfl, hn⟩
    have HN1 := Lib.hid hn
    clear hn
    have c0 := cell_of_row _ _ 0 _ _ _ (HBX.out _ HN1.out)
    have c1 := cell_of_row _ _ 1 _ _ _ (HBX.out _ HN1.out)
    have c2 := cell_of_row _ _ 2 _ _ _ (HBX.out _ HN1.out)
    have c3 := cell_of_row _ _ 3 _ _ _ (HBX.out _ HN1.out)
    have c4 := cell_of_row _ _ 4 _ _ _ (HBX.out _ HN1.out)
    have c5 := cell_of_row _ _ 5 _ _ _ (HBX.out _ HN1.out)
    go_wp2_with fail
    refine (HEN.out _ HN1.out).mono ?_
    rintro e w2 ⟨rfl, hn⟩
    have HN2 := Lib.hid (HN1.out.trans hn)
    clear hn c0 c1 c2 c3 c4 c5 HA
    have c0 := cell_of_row _ _ 0 _ _ _ (HBX.out _ HN2.out)
    have c1 := cell_of_row _ _ 1 _ _ _ (HBX.out _ HN2.out)
    have c2 := cell_of_row _ _ 2 _ _ _ (HBX.out _ HN2.out)
    have c3 := cell_of_row _ _ 3 _ _ _ (HBX.out _ HN2.out)
    have c4 := cell_of_row _ _ 4 _ _ _ (HBX.out _ HN2.out)
    have c5 := cell_of_row _ _ 5 _ _ _ (HBX.out _ HN2.out)
    go_wp2_with fail
    refine (HOF.out _).mono ?_
    rintro e w3 ⟨rfl, hn⟩
    have HN3 := Lib.hid (HN2.out.trans hn)
    clear hn c0 c1 c2 c3 c4 c5
    go_wp2_with fail
    refine (HRC.out _ HN3.out).mono ?_
    rintro e w4 ⟨rfl, hn⟩
    have HN4 := Lib.hid (HN3.out.trans hn)
    clear hn
    have c0 := cell_of_row _ _ 0 _ _ _ (HBX.out _ HN4.out)
    have c1 := cell_of_row _ _ 1 _ _ _ (HBX.out _ HN4.out)
    have c2 := cell_of_row _ _ 2 _ _ _ (HBX.out _ HN4.out)
    have c3 := cell_of_row _ _ 3 _ _ _ (HBX.out _ HN4.out)
    have c4 := cell_of_row _ _ 4 _ _ _ (HBX.out _ HN4.out)
    have c5 := cell_of_row _ _ 5 _ _ _ (HBX.out _ HN4.out)
    go_wp2_with fail
    refine (HST.out _ HN4.out).mono ?_
    rintro e w5 ⟨rfl, hn⟩
    have HN5 := Lib.hid (HN4.out.trans hn)
    clear hn c0 c1 c2 c3 c4 c5
    obtain ⟨w6, hw6⟩ : ∃ z, w5.alloc (.cells #[.int .i64 0, .int .u64 0, .int .u64 0, .int .u64 0, .int .u64 0] 38) = z := ⟨_, rfl⟩
    have HTB : Hid (w6.heap[w5.heap.size]? = some (.cells #[.int .i64 0, .int .u64 0, .int .u64 0, .int .u64 0, .int .u64 0] 38 (0, 0))) := Lib.hid (by rw [← hw6]; exact heap_alloc_new w5 _)
    have HN56 : Hid (New w5 w6) := Lib.hid (by rw [← hw6]; exact (New.refl w5).alloc _)
    have HN6 := Lib.hid (HN5.out.trans HN56.out)
    have HW6 := Lib.hid hw6
    obtain ⟨qt, hqt⟩ : ∃ z, w5.heap.size = z := ⟨_, rfl⟩
    rw [hqt] at HTB
    have HQT := Lib.hid hqt
    have c0 := cell_of_row _ _ 0 _ _ _ (HBX.out _ HN6.out)
    have c1 := cell_of_row _ _ 1 _ _ _ (HBX.out _ HN6.out)
    have c2 := cell_of_row _ _ 2 _ _ _ (HBX.out _ HN6.out)
    have c3 := cell_of_row _ _ 3 _ _ _ (HBX.out _ HN6.out)
    have c4 := cell_of_row _ _ 4 _ _ _ (HBX.out _ HN6.out)
    have c5 := cell_of_row _ _ 5 _ _ _ (HBX.out _ HN6.out)
    rw [← hw6] at c0 c1 c2 c3 c4 c5
    clear hw6 hqt
    go_wp2_with fail
    rw [HW6.out, HQT.out]
    refine (HCK.out _ HN6.out).mono ?_
    rintro e w7 ⟨rfl, hn⟩
    have HN7 := Lib.hid (HN6.out.trans hn)
    have HT7 := Lib.hid ((hn.block _ (lt_of_block HTB.out)).trans HTB.out)
    clear hn c0 c1 c2 c3 c4 c5
    have t0 := cell_of_row _ _ 0 _ _ _ HT7.out
    have t1 := cell_of_row _ _ 1 _ _ _ HT7.out
    have t2 := cell_of_row _ _ 2 _ _ _ HT7.out
    have t3 := cell_of_row _ _ 3 _ _ _ HT7.out
    have t4 := cell_of_row _ _ 4 _ _ _ HT7.out
    have c0 := cell_of_row _ _ 0 _ _ _ (HBX.out _ HN7.out)
    have c1 := cell_of_row _ _ 1 _ _ _ (HBX.out _ HN7.out)
    have c2 := cell_of_row _ _ 2 _ _ _ (HBX.out _ HN7.out)
    have c3 := cell_of_row _ _ 3 _ _ _ (HBX.out _ HN7.out)
    have c4 := cell_of_row _ _ 4 _ _ _ (HBX.out _ HN7.out)
    have c5 := cell_of_row _ _ 5 _ _ _ (HBX.out _ HN7.out)
    go_wp2
    go_ret
    exact ⟨rfl, HN.out.trans HN7.out⟩
  · go_enter Tryz.func3, Tryz.ntmps3
    go_wp2_with fail
    refine (HA.out _).mono ?_
    rintro e w1 ⟨rfl, hn⟩
    have HN1 := Lib.hid hn
    clear hn
    have c0 := cell_of_row _ _ 0 _ _ _ (HBX.out _ HN1.out)
    have c1 := cell_of_row _ _ 1 _ _ _ (HBX.out _ HN1.out)
    have c2 := cell_of_row _ _ 2 _ _ _ (HBX.out _ HN1.out)
    have c3 := cell_of_row _ _ 3 _ _ _ (HBX.out _ HN1.out)
    have c4 := cell_of_row _ _ 4 _ _ _ (HBX.out _ HN1.out)
    have c5 := cell_of_row _ _ 5 _ _ _ (HBX.out _ HN1.out)
    go_wp2_with fail
    refine (HEN.out _ HN1.out).mono ?_
    rintro e w2 ⟨rfl, hn⟩
    have HN2 := Lib.hid (HN1.out.trans hn)
    clear hn c0 c1 c2 c3 c4 c5 HA
    have c0 := cell_of_row _ _ 0 _ _ _ (HBX.out _ HN2.out)
    have c1 := cell_of_row _ _ 1 _ _ _ (HBX.out _ HN2.out)
    have c2 := cell_of_row _ _ 2 _ _ _ (HBX.out _ HN2.out)
    have c3 := cell_of_row _ _ 3 _ _ _ (HBX.out _ HN2.out)
    have c4 := cell_of_row _ _ 4 _ _ _ (HBX.out _ HN2.out)
    have c5 := cell_of_row _ _ 5 _ _ _ (HBX.out _ HN2.out)
    go_wp2_with fail
    refine (HOF.out _).mono ?_
    rintro e w3 ⟨rfl, hn⟩
    have HN3 := Lib.hid (HN2.out.trans hn)
    clear hn c0 c1 c2 c3 c4 c5
    go_wp2_with fail
    refine (HRC.out _ HN3.out).mono ?_
    rintro e w4 ⟨rfl, hn⟩
    have HN4 := Lib.hid (HN3.out.trans hn)
    clear hn
    have c0 := cell_of_row _ _ 0 _ _ _ (HBX.out _ HN4.out)
    have c1 := cell_of_row _ _ 1 _ _ _ (HBX.out _ HN4.out)
    have c2 := cell_of_row _ _ 2 _ _ _ (HBX.out _ HN4.out)
    have c3 := cell_of_row _ _ 3 _ _ _ (HBX.out _ HN4.out)
    have c4 := cell_of_row _ _ 4 _ _ _ (HBX.out _ HN4.out)
    have c5 := cell_of_row _ _ 5 _ _ _ (HBX.out _ HN4.out)
    go_wp2_with fail
    refine (HST.out _ HN4.out).mono ?_
    rintro e w5 ⟨rfl, hn⟩
    have HN5 := Lib.hid (HN4.out.trans hn)
    clear hn c0 c1 c2 c3 c4 c5
    obtain ⟨w6, hw6⟩ : ∃ z, w5.alloc (.cells #[.int .i64 0, .int .u64 0, .int .u64 0, .int .u64 0, .int .u64 0] 38) = z := ⟨_, rfl⟩
    have HTB : Hid (w6.heap[w5.heap.size]? = some (.cells #[.int .i64 0, .int .u64 0, .int .u64 0, .int .u64 0, .int .u64 0] 38 (0, 0))) := Lib.hid (by rw [← hw6]; exact heap_alloc_new w5 _)
    have HN56 : Hid (New w5 w6) := Lib.hid (by rw [← hw6]; exact (New.refl w5).alloc _)
    have HN6 := Lib.hid (HN5.out.trans HN56.out)
    have HW6 := Lib.hid hw6
    obtain ⟨qt, hqt⟩ : ∃ z, w5.heap.size = z := ⟨_, rfl⟩
    rw [hqt] at HTB
    have HQT := Lib.hid hqt
    have c0 := cell_of_row _ _ 0 _ _ _ (HBX.out _ HN6.out)
    have c1 := cell_of_row _ _ 1 _ _ _ (HBX.out _ HN6.out)
    have c2 := cell_of_row _ _ 2 _ _ _ (HBX.out _ HN6.out)
    have c3 := cell_of_row _ _ 3 _ _ _ (HBX.out _ HN6.out)
    have c4 := cell_of_row _ _ 4 _ _ _ (HBX.out _ HN6.out)
    have c5 := cell_of_row _ _ 5 _ _ _ (HBX.out _ HN6.out)
    rw [← hw6] at c0 c1 c2 c3 c4 c5
    clear hw6 hqt
    go_wp2_with fail
    rw [HW6.out, HQT.out]
    refine (HCK.out _ HN6.out).mono ?_
    rintro e w7 ⟨rfl, hn⟩
    have HN7 := Lib.hid (HN6.out.trans hn)
    have HT7 := Lib.hid ((hn.block _ (lt_of_block HTB.out)).trans HTB.out)
    clear hn c0 c1 c2 c3 c4 c5
    have t0 := cell_of_row _ _ 0 _ _ _ HT7.out
    have t1 := cell_of_row _ _ 1 _ _ _ HT7.out
    have t2 := cell_of_row _ _ 2 _ _ _ HT7.out
    have t3 := cell_of_row _ _ 3 _ _ _ HT7.out
    have t4 := cell_of_row _ _ 4 _ _ _ HT7.out
    have c0 := cell_of_row _ _ 0 _ _ _ (HBX.out _ HN7.out)
    have c1 := cell_of_row _ _ 1 _ _ _ (HBX.out _ HN7.out)
    have c2 := cell_of_row _ _ 2 _ _ _ (HBX.out _ HN7.out)
    have c3 := cell_of_row _ _ 3 _ _ _ (HBX.out _ HN7.out)
    have c4 := cell_of_row _ _ 4 _ _ _ (HBX.out _ HN7.out)
    have c5 := cell_of_row _ _ 5 _ _ _ (HBX.out _ HN7.out)
    go_wp2
    go_ret
    exact ⟨rfl, HN.out.trans HN7.out⟩
set_option maxHeartbeats 8000000 in
theorem ct_other (W : World) (t k b : Int) (h l : BitVec 64) (a : Option Addr) (n c : Nat) (x : List (BitVec 64)) (hr : QRow W a n c x) (he : cfE t k b h l x = 0) (ht : t ≠ 3) (h1 : n ≤ 600) (g1 : 0 ≤ t ∧ t < 256) (g2 : 0 ≤ k ∧ k < 256) (g3 : 0 ≤ b ∧ b < 256) : Calls Tryz.prog 3 #[.agg (cfc t k b h l a n c)] W fun e w' => e = .returned (.bool true) ∧ Below W.heap.size W w' := by
  have HA := Lib.hid (fun w => awake47 w)
  generalize hW : W.alloc (.cells (cfc t k b h l a n c) 27) = w0
  have HB : Hid (w0.heap[W.heap.size]? = some (.cells (cfc t k b h l a n c) 27 (0, 0))) := Lib.hid (by rw [← hW]; exact heap_alloc_new W _)
  have HN : Hid (New W w0) := Lib.hid (by rw [← hW]; exact (New.refl W).alloc _)
  have HBX := Lib.hid (fun (w' : World) (hn : New w0 w') => (hn.block _ (lt_of_block HB.out)).trans HB.out)
  have HOF := Lib.hid (fun w => of_47 t k b h l a n c w)
  have HRC := Lib.hid (fun (w' : World) (hn : New w0 w') => rcheck_47 t k b h l a n c x w' (hr.stay (HN.out.trans hn)))
  have HCK := Lib.hid (fun (w' : World) (hn : New w0 w') => ccheck_47 t k b h l a n c x w' (hr.stay (HN.out.trans hn)))
  rw [he] at HRC HCK
  have HEN := Lib.hid (fun (w' : World) (hn : New w0 w') => enc_ok t k b h l a n c x w' (hr.stay (HN.out.trans hn)) he g1 g2 g3 (by omega))
  have HRB := Lib.hid (fun (w' : World) (hn : New w0 w') => rbytes_47 t k b h l a n c x w' (hr.stay (HN.out.trans hn)) g1 g2 g3 (by omega))
  have q1 : decide ((600 : Int) < (n : Int)) = false := decide_eq_false (by omega)
  have HST := Lib.hid (fun (w' : World) (hn : New w0 w') => cstate_other t k b h l a n c x w' (hr.stay (HN.out.trans hn)) he ht)
  have heq := fun w => eqSt_zeroC w
  have ne1 : (t != 3) = true := bne_iff_ne.2 ht
  have ne2 : (t == 3) = false := beq_false_of_ne ht
  obtain ⟨BL, hBL⟩ : ∃ z, seal16 (enH t k b h l n ++ wB x n) = z := ⟨_, rfl⟩
  rw [hBL] at HEN HRB
  have HSM : Hid (∀ (w' : World) (a1 : Option Addr) (c1 : Nat) (a2 : Option Addr) (c2 : Nat), BRow w' a1 (28 + 8 * n) c1 BL → BRow w' a2 (28 + 8 * n) c2 BL → Calls Tryz.prog 12 #[.slice a1 (28 + 8 * n : Nat) c1, .slice a2 (28 + 8 * n : Nat) c2] w' fun e w'' => e = .returned (.bool true) ∧ New w' w'') := Lib.hid (fun w' a1 c1 a2 c2 h1 h2 => by
    have hh := same_any a1 a2 (28 + 8 * n) c1 (28 + 8 * n) c2 BL BL w' h1 h2
    rw [beq_self_eq_true] at hh
    exact hh.mono fun e w'' ⟨he, hw⟩ => ⟨he, by rw [hw]; exact New.refl _⟩)
  obtain ⟨NB, hNB⟩ : ∃ z, 28 + 8 * n = z := ⟨_, rfl⟩
  rw [hNB] at HEN HRB HSM
  clear hBL hNB hr he h1 g1 g2 g3
  go_enter Tryz.func3, Tryz.ntmps3
  go_wp2_with fail
  refine (HA.out _).mono ?_
  rintro e w1 ⟨rfl, hn⟩
  have HN1 := Lib.hid hn
  clear hn
  have c0 := cell_of_row _ _ 0 _ _ _ (HBX.out _ HN1.out)
  have c1 := cell_of_row _ _ 1 _ _ _ (HBX.out _ HN1.out)
  have c2 := cell_of_row _ _ 2 _ _ _ (HBX.out _ HN1.out)
  have c3 := cell_of_row _ _ 3 _ _ _ (HBX.out _ HN1.out)
  have c4 := cell_of_row _ _ 4 _ _ _ (HBX.out _ HN1.out)
  have c5 := cell_of_row _ _ 5 _ _ _ (HBX.out _ HN1.out)
  go_wp2_with fail
  refine (HEN.out _ HN1.out).mono ?_
  rintro e w2 ⟨⟨a8, c8, rfl, hr8⟩, hn⟩
  have HN2 := Lib.hid (HN1.out.trans hn)
  have HR8 := Lib.hid hr8
  clear hr8
  clear hn c0 c1 c2 c3 c4 c5 HA
  have c0 := cell_of_row _ _ 0 _ _ _ (HBX.out _ HN2.out)
  have c1 := cell_of_row _ _ 1 _ _ _ (HBX.out _ HN2.out)
  have c2 := cell_of_row _ _ 2 _ _ _ (HBX.out _ HN2.out)
  have c3 := cell_of_row _ _ 3 _ _ _ (HBX.out _ HN2.out)
  have c4 := cell_of_row _ _ 4 _ _ _ (HBX.out _ HN2.out)
  have c5 := cell_of_row _ _ 5 _ _ _ (HBX.out _ HN2.out)
  go_wp2_with fail
  refine (HOF.out _).mono ?_
  rintro e w3 ⟨rfl, hn⟩
  have HN3 := Lib.hid (HN2.out.trans hn)
  have H23 := Lib.hid hn
  clear hn c0 c1 c2 c3 c4 c5
  go_wp2_with fail
  refine (HRC.out _ HN3.out).mono ?_
  rintro e w4 ⟨rfl, hn⟩
  have HN4 := Lib.hid (HN3.out.trans hn)
  have H24 := Lib.hid (H23.out.trans hn)
  clear hn
  have c0 := cell_of_row _ _ 0 _ _ _ (HBX.out _ HN4.out)
  have c1 := cell_of_row _ _ 1 _ _ _ (HBX.out _ HN4.out)
  have c2 := cell_of_row _ _ 2 _ _ _ (HBX.out _ HN4.out)
  have c3 := cell_of_row _ _ 3 _ _ _ (HBX.out _ HN4.out)
  have c4 := cell_of_row _ _ 4 _ _ _ (HBX.out _ HN4.out)
  have c5 := cell_of_row _ _ 5 _ _ _ (HBX.out _ HN4.out)
  go_wp2_with fail
  refine (HST.out _ HN4.out).mono ?_
  rintro e w5 ⟨rfl, hn⟩
  have HN5 := Lib.hid (HN4.out.trans hn)
  have H25 := Lib.hid (H24.out.trans hn)
  clear hn c0 c1 c2 c3 c4 c5
  obtain ⟨w6, hw6⟩ : ∃ z, w5.alloc (.cells #[.int .i64 0, .int .u64 0, .int .u64 0, .int .u64 0, .int .u64 0] 38) = z := ⟨_, rfl⟩
  have HTB : Hid (w6.heap[w5.heap.size]? = some (.cells #[.int .i64 0, .int .u64 0, .int .u64 0, .int .u64 0, .int .u64 0] 38 (0, 0))) := Lib.hid (by rw [← hw6]; exact heap_alloc_new w5 _)
  have HN56 : Hid (New w5 w6) := Lib.hid (by rw [← hw6]; exact (New.refl w5).alloc _)
  have HN6 := Lib.hid (HN5.out.trans HN56.out)
  have HW6 := Lib.hid hw6
  obtain ⟨qt, hqt⟩ : ∃ z, w5.heap.size = z := ⟨_, rfl⟩
  rw [hqt] at HTB
  have HQT := Lib.hid hqt
  have c0 := cell_of_row _ _ 0 _ _ _ (HBX.out _ HN6.out)
  have c1 := cell_of_row _ _ 1 _ _ _ (HBX.out _ HN6.out)
  have c2 := cell_of_row _ _ 2 _ _ _ (HBX.out _ HN6.out)
  have c3 := cell_of_row _ _ 3 _ _ _ (HBX.out _ HN6.out)
  have c4 := cell_of_row _ _ 4 _ _ _ (HBX.out _ HN6.out)
  have c5 := cell_of_row _ _ 5 _ _ _ (HBX.out _ HN6.out)
  rw [← hw6] at c0 c1 c2 c3 c4 c5
  clear hw6 hqt
  go_wp2_with fail
  rw [HW6.out, HQT.out]
  refine (HCK.out _ HN6.out).mono ?_
  rintro e w7 ⟨rfl, hn⟩
  have HN7 := Lib.hid (HN6.out.trans hn)
  have HN27 := Lib.hid ((H25.out.trans HN56.out).trans hn)
  have HT7 := Lib.hid ((hn.block _ (lt_of_block HTB.out)).trans HTB.out)
  clear hn c0 c1 c2 c3 c4 c5
  have t0 := cell_of_row _ _ 0 _ _ _ HT7.out
  have t1 := cell_of_row _ _ 1 _ _ _ HT7.out
  have t2 := cell_of_row _ _ 2 _ _ _ HT7.out
  have t3 := cell_of_row _ _ 3 _ _ _ HT7.out
  have t4 := cell_of_row _ _ 4 _ _ _ HT7.out
  have c0 := cell_of_row _ _ 0 _ _ _ (HBX.out _ HN7.out)
  have c1 := cell_of_row _ _ 1 _ _ _ (HBX.out _ HN7.out)
  have c2 := cell_of_row _ _ 2 _ _ _ (HBX.out _ HN7.out)
  have c3 := cell_of_row _ _ 3 _ _ _ (HBX.out _ HN7.out)
  have c4 := cell_of_row _ _ 4 _ _ _ (HBX.out _ HN7.out)
  have c5 := cell_of_row _ _ 5 _ _ _ (HBX.out _ HN7.out)
  have HR87 := Lib.hid (HR8.out.stay (HN27.out))
  go_wp2_with fail
  have HC7 := Lib.hid (HBX.out _ HN7.out)
  clear c0 c1 c2 c3 c4 c5 t0 t1 t2 t3 t4
  refine Grow.wp_region_growS (fun w' => (w'.heap[W.heap.size]? = some (.cells (cfc t k b h l a n c) 27 (0, 0)) ∧ w'.heap[qt]? = some (.cells #[.int .i64 0, .int .u64 0, .int .u64 0, .int .u64 0, .int .u64 0] 38 (0, 0))) ∧ New w7 w') (fun k => [22, 23].contains k) (by kernel_rfl) (by kernel_rfl) (by kernel_rfl) ⟨⟨HC7.out, HT7.out⟩, (New.refl _).drew⟩ ?_
  intro I _ f hall hback
  have HALL := Lib.hid hall
  have HSTEP : Hid (∀ n w', New (f n) w' → ∃ m, w' = f m) := Lib.hid fun n w' hn => hback w' ⟨⟨(hn.block _ (lt_of_block (hall n).1.1)).trans (hall n).1.1, (hn.block _ (lt_of_block (hall n).1.2)).trans (hall n).1.2⟩, (hall n).2.trans hn⟩
  have y0 := fun n => cell_of_row _ _ 0 _ _ _ (hall n).1.1
  have y1 := fun n => cell_of_row _ _ 1 _ _ _ (hall n).1.1
  have y2 := fun n => cell_of_row _ _ 2 _ _ _ (hall n).1.1
  have y3 := fun n => cell_of_row _ _ 3 _ _ _ (hall n).1.1
  have y4 := fun n => cell_of_row _ _ 4 _ _ _ (hall n).1.1
  have y5 := fun n => cell_of_row _ _ 5 _ _ _ (hall n).1.1
  have s0 := fun n => cell_of_row _ _ 0 _ _ _ (hall n).1.2
  have s1 := fun n => cell_of_row _ _ 1 _ _ _ (hall n).1.2
  have s2 := fun n => cell_of_row _ _ 2 _ _ _ (hall n).1.2
  have s3 := fun n => cell_of_row _ _ 3 _ _ _ (hall n).1.2
  have s4 := fun n => cell_of_row _ _ 4 _ _ _ (hall n).1.2
  clear hall hback
  refine Grow.wpGrow_take 22 (by kernel_rfl) ?_
  simp only [List.take, List.drop, List.length]
  repeat (go_big_quiet_step (fail))
  refine wpQuiet_nil ?_
  refine Grow.wpGrow_skip (by rfl) ?_
  intro A1 hA
  simp [Act.put] at hA
  subst hA
  refine Grow.wpGrow_skip (by rfl) ?_
  intro A1 hA
  simp [Act.put] at hA
  subst hA
  refine Grow.wpGrow_take 4 (by kernel_rfl) ?_
  simp only [List.take, List.drop, List.length]
  repeat (go_big_quiet_step (fail))
  refine wpQuiet_nil ?_
  refine Grow.wpGrow_nil ?_
  rintro w9 ⟨n9, rfl⟩ hG
  have HN79 := Lib.hid (HALL.out n9).2
  have HC9 := Lib.hid (HALL.out n9).1.1
  clear HALL HSTEP y0 y1 y2 y3 y4 y5 s0 s1 s2 s3 s4 hG
  generalize f n9 = w9 at *
  have HN9 := Lib.hid (HN7.out.trans HN79.out)
  have HR89 := Lib.hid (HR87.out.stay HN79.out)
  have y0 := cell_of_row _ _ 0 _ _ _ HC9.out
  have y1 := cell_of_row _ _ 1 _ _ _ HC9.out
  have y2 := cell_of_row _ _ 2 _ _ _ HC9.out
  have y3 := cell_of_row _ _ 3 _ _ _ HC9.out
  have y4 := cell_of_row _ _ 4 _ _ _ HC9.out
  have y5 := cell_of_row _ _ 5 _ _ _ HC9.out
  go_wp2_with fail
  refine (HOF.out _).mono ?_
  rintro e w10 ⟨rfl, hn⟩
  have HN10 := Lib.hid (HN9.out.trans hn)
  have HR810 := Lib.hid (HR89.out.stay hn)
  clear hn y0 y1 y2 y3 y4 y5
  go_wp2_with fail
  refine (HRB.out _ HN10.out).mono ?_
  rintro e w11 ⟨⟨a9, c9, rfl, hr9⟩, hn⟩
  have HN11 := Lib.hid (HN10.out.trans hn)
  have HR811 := Lib.hid (HR810.out.stay hn)
  have HR911 := Lib.hid hr9
  clear hn hr9
  go_wp2_with fail
  refine (HSM.out _ _ _ _ _ HR811.out HR911.out).mono ?_
  rintro e w12 ⟨rfl, hn⟩
  have HN12 := Lib.hid (HN.out.trans (HN11.out.trans hn))
  clear hn
  go_wp2
  go_ret
  exact ⟨rfl, HN12.out⟩
set_option maxHeartbeats 8000000 in
theorem ct_source (W : World) (t k b : Int) (h l : BitVec 64) (a : Option Addr) (n c : Nat) (x : List (BitVec 64)) (hr : QRow W a n c x) (he : cfE t k b h l x = 0) (ht : t = 3) (h1 : n ≤ 600) (g1 : 0 ≤ t ∧ t < 256) (g2 : 0 ≤ k ∧ k < 256) (g3 : 0 ≤ b ∧ b < 256) : Calls Tryz.prog 3 #[.agg (cfc t k b h l a n c)] W fun e w' => e = .returned (.bool true) ∧ Below W.heap.size W w' := by
  subst ht
  have HA := Lib.hid (fun w => awake47 w)
  generalize hW : W.alloc (.cells (cfc 3 k b h l a n c) 27) = w0
  have HB : Hid (w0.heap[W.heap.size]? = some (.cells (cfc 3 k b h l a n c) 27 (0, 0))) := Lib.hid (by rw [← hW]; exact heap_alloc_new W _)
  have HN : Hid (New W w0) := Lib.hid (by rw [← hW]; exact (New.refl W).alloc _)
  have HBX := Lib.hid (fun (w' : World) (hn : New w0 w') => (hn.block _ (lt_of_block HB.out)).trans HB.out)
  have HOF := Lib.hid (fun w => of_47 3 k b h l a n c w)
  have HRC := Lib.hid (fun (w' : World) (hn : New w0 w') => rcheck_47 3 k b h l a n c x w' (hr.stay (HN.out.trans hn)))
  have HCK := Lib.hid (fun (w' : World) (hn : New w0 w') => ccheck_47 3 k b h l a n c x w' (hr.stay (HN.out.trans hn)))
  rw [he] at HRC HCK
  have HEN := Lib.hid (fun (w' : World) (hn : New w0 w') => enc_ok 3 k b h l a n c x w' (hr.stay (HN.out.trans hn)) he g1 g2 g3 (by omega))
  have HRB := Lib.hid (fun (w' : World) (hn : New w0 w') => rbytes_47 3 k b h l a n c x w' (hr.stay (HN.out.trans hn)) g1 g2 g3 (by omega))
  have q1 : decide ((600 : Int) < (n : Int)) = false := decide_eq_false (by omega)
  have hso : soE k x = 0 := by
    unfold cfE at he
    rw [if_neg (by omega)] at he
    cases hf : cfF 3 k b h l x.length with
    | true => rw [hf, if_pos rfl] at he; exact absurd he (by decide)
    | false => rw [hf, if_neg (by decide)] at he; exact he
  have hk0 : ¬ szK k = 0 := by intro h0; unfold soE at hso; rw [if_pos h0] at hso; exact absurd hso (by decide)
  have hkl : (x.length : Int) = szK k := by
    refine Decidable.byContradiction fun hc => ?_
    unfold soE at hso
    rw [if_neg hk0, if_pos hc] at hso
    exact absurd hso (by decide)
  have hnl := hr.len_eq
  have hn4 : 0 < n ∧ n ≤ 4 := by have := sz_124 hk0; omega
  have hb3 : ¬ (szK k = 0 ∨ (x.length : Int) ≠ szK k) := by omega
  have e1 : soK k x = k := by unfold soK; rw [if_neg hb3]
  have e2 : soQ k x = w4 x := by unfold soQ; rw [if_neg hb3]
  have HST := Lib.hid (fun (w' : World) (hn : New w0 w') => cstate_ok k b h l a n c x w' (hr.stay (HN.out.trans hn)) he)
  rw [hso, e1, e2] at HST
  have HRS := Lib.hid (fun (w' : World) (hn : New w0 w') => rstate_47 3 k b h l a n c x w' (hr.stay (HN.out.trans hn)) hn4.1 hn4.2)
  obtain ⟨Q, hQ⟩ : ∃ z, w4 x = z := ⟨_, rfl⟩
  rw [hQ] at HST HRS
  have heq := fun w => eqSt_selfC w k Q
  clear hQ hso hk0 hkl hnl hn4 hb3 e1 e2
  obtain ⟨BL, hBL⟩ : ∃ z, seal16 (enH 3 k b h l n ++ wB x n) = z := ⟨_, rfl⟩
  rw [hBL] at HEN HRB
  have HSM : Hid (∀ (w' : World) (a1 : Option Addr) (c1 : Nat) (a2 : Option Addr) (c2 : Nat), BRow w' a1 (28 + 8 * n) c1 BL → BRow w' a2 (28 + 8 * n) c2 BL → Calls Tryz.prog 12 #[.slice a1 (28 + 8 * n : Nat) c1, .slice a2 (28 + 8 * n : Nat) c2] w' fun e w'' => e = .returned (.bool true) ∧ New w' w'') := Lib.hid (fun w' a1 c1 a2 c2 h1 h2 => by
    have hh := same_any a1 a2 (28 + 8 * n) c1 (28 + 8 * n) c2 BL BL w' h1 h2
    rw [beq_self_eq_true] at hh
    exact hh.mono fun e w'' ⟨he, hw⟩ => ⟨he, by rw [hw]; exact New.refl _⟩)
  obtain ⟨NB, hNB⟩ : ∃ z, 28 + 8 * n = z := ⟨_, rfl⟩
  rw [hNB] at HEN HRB HSM
  clear hBL hNB hr he h1 g1 g2 g3
  go_enter Tryz.func3, Tryz.ntmps3
  go_wp2_with fail
  refine (HA.out _).mono ?_
  rintro e w1 ⟨rfl, hn⟩
  have HN1 := Lib.hid hn
  clear hn
  have c0 := cell_of_row _ _ 0 _ _ _ (HBX.out _ HN1.out)
  have c1 := cell_of_row _ _ 1 _ _ _ (HBX.out _ HN1.out)
  have c2 := cell_of_row _ _ 2 _ _ _ (HBX.out _ HN1.out)
  have c3 := cell_of_row _ _ 3 _ _ _ (HBX.out _ HN1.out)
  have c4 := cell_of_row _ _ 4 _ _ _ (HBX.out _ HN1.out)
  have c5 := cell_of_row _ _ 5 _ _ _ (HBX.out _ HN1.out)
  go_wp2_with fail
  refine (HEN.out _ HN1.out).mono ?_
  rintro e w2 ⟨⟨a8, c8, rfl, hr8⟩, hn⟩
  have HN2 := Lib.hid (HN1.out.trans hn)
  have HR8 := Lib.hid hr8
  clear hr8
  clear hn c0 c1 c2 c3 c4 c5 HA
  have c0 := cell_of_row _ _ 0 _ _ _ (HBX.out _ HN2.out)
  have c1 := cell_of_row _ _ 1 _ _ _ (HBX.out _ HN2.out)
  have c2 := cell_of_row _ _ 2 _ _ _ (HBX.out _ HN2.out)
  have c3 := cell_of_row _ _ 3 _ _ _ (HBX.out _ HN2.out)
  have c4 := cell_of_row _ _ 4 _ _ _ (HBX.out _ HN2.out)
  have c5 := cell_of_row _ _ 5 _ _ _ (HBX.out _ HN2.out)
  go_wp2_with fail
  refine (HOF.out _).mono ?_
  rintro e w3 ⟨rfl, hn⟩
  have HN3 := Lib.hid (HN2.out.trans hn)
  have H23 := Lib.hid hn
  clear hn c0 c1 c2 c3 c4 c5
  go_wp2_with fail
  refine (HRC.out _ HN3.out).mono ?_
  rintro e w4 ⟨rfl, hn⟩
  have HN4 := Lib.hid (HN3.out.trans hn)
  have H24 := Lib.hid (H23.out.trans hn)
  clear hn
  have c0 := cell_of_row _ _ 0 _ _ _ (HBX.out _ HN4.out)
  have c1 := cell_of_row _ _ 1 _ _ _ (HBX.out _ HN4.out)
  have c2 := cell_of_row _ _ 2 _ _ _ (HBX.out _ HN4.out)
  have c3 := cell_of_row _ _ 3 _ _ _ (HBX.out _ HN4.out)
  have c4 := cell_of_row _ _ 4 _ _ _ (HBX.out _ HN4.out)
  have c5 := cell_of_row _ _ 5 _ _ _ (HBX.out _ HN4.out)
  go_wp2_with fail
  refine (HST.out _ HN4.out).mono ?_
  rintro e w5 ⟨rfl, hn⟩
  have HN5 := Lib.hid (HN4.out.trans hn)
  have H25 := Lib.hid (H24.out.trans hn)
  clear hn c0 c1 c2 c3 c4 c5
  obtain ⟨w6, hw6⟩ : ∃ z, w5.alloc (.cells (stc k Q) 38) = z := ⟨_, rfl⟩
  have HTB : Hid (w6.heap[w5.heap.size]? = some (.cells (stc k Q) 38 (0, 0))) := Lib.hid (by rw [← hw6]; exact heap_alloc_new w5 _)
  have HN56 : Hid (New w5 w6) := Lib.hid (by rw [← hw6]; exact (New.refl w5).alloc _)
  have HN6 := Lib.hid (HN5.out.trans HN56.out)
  have HW6 := Lib.hid hw6
  obtain ⟨qt, hqt⟩ : ∃ z, w5.heap.size = z := ⟨_, rfl⟩
  rw [hqt] at HTB
  have HQT := Lib.hid hqt
  have c0 := cell_of_row _ _ 0 _ _ _ (HBX.out _ HN6.out)
  have c1 := cell_of_row _ _ 1 _ _ _ (HBX.out _ HN6.out)
  have c2 := cell_of_row _ _ 2 _ _ _ (HBX.out _ HN6.out)
  have c3 := cell_of_row _ _ 3 _ _ _ (HBX.out _ HN6.out)
  have c4 := cell_of_row _ _ 4 _ _ _ (HBX.out _ HN6.out)
  have c5 := cell_of_row _ _ 5 _ _ _ (HBX.out _ HN6.out)
  rw [← hw6] at c0 c1 c2 c3 c4 c5
  clear hw6 hqt
  go_wp2_with fail
  rw [HW6.out, HQT.out]
  refine (HCK.out _ HN6.out).mono ?_
  rintro e w7 ⟨rfl, hn⟩
  have HN7 := Lib.hid (HN6.out.trans hn)
  have HN27 := Lib.hid ((H25.out.trans HN56.out).trans hn)
  have HT7 := Lib.hid ((hn.block _ (lt_of_block HTB.out)).trans HTB.out)
  clear hn c0 c1 c2 c3 c4 c5
  have t0 := cell_of_row _ _ 0 _ _ _ HT7.out
  have t1 := cell_of_row _ _ 1 _ _ _ HT7.out
  have t2 := cell_of_row _ _ 2 _ _ _ HT7.out
  have t3 := cell_of_row _ _ 3 _ _ _ HT7.out
  have t4 := cell_of_row _ _ 4 _ _ _ HT7.out
  have c0 := cell_of_row _ _ 0 _ _ _ (HBX.out _ HN7.out)
  have c1 := cell_of_row _ _ 1 _ _ _ (HBX.out _ HN7.out)
  have c2 := cell_of_row _ _ 2 _ _ _ (HBX.out _ HN7.out)
  have c3 := cell_of_row _ _ 3 _ _ _ (HBX.out _ HN7.out)
  have c4 := cell_of_row _ _ 4 _ _ _ (HBX.out _ HN7.out)
  have c5 := cell_of_row _ _ 5 _ _ _ (HBX.out _ HN7.out)
  have HR87 := Lib.hid (HR8.out.stay (HN27.out))
  go_wp2_with fail
  have HC7 := Lib.hid (HBX.out _ HN7.out)
  clear c0 c1 c2 c3 c4 c5 t0 t1 t2 t3 t4
  refine Grow.wp_region_growS (fun w' => (w'.heap[W.heap.size]? = some (.cells (cfc 3 k b h l a n c) 27 (0, 0)) ∧ w'.heap[qt]? = some (.cells (stc k Q) 38 (0, 0))) ∧ New w7 w') (fun k => [22, 23].contains k) (by kernel_rfl) (by kernel_rfl) (by kernel_rfl) ⟨⟨HC7.out, HT7.out⟩, (New.refl _).drew⟩ ?_
  intro I _ f hall hback
  have HALL := Lib.hid hall
  have HSTEP : Hid (∀ n w', New (f n) w' → ∃ m, w' = f m) := Lib.hid fun n w' hn => hback w' ⟨⟨(hn.block _ (lt_of_block (hall n).1.1)).trans (hall n).1.1, (hn.block _ (lt_of_block (hall n).1.2)).trans (hall n).1.2⟩, (hall n).2.trans hn⟩
  have y0 := fun n => cell_of_row _ _ 0 _ _ _ (hall n).1.1
  have y1 := fun n => cell_of_row _ _ 1 _ _ _ (hall n).1.1
  have y2 := fun n => cell_of_row _ _ 2 _ _ _ (hall n).1.1
  have y3 := fun n => cell_of_row _ _ 3 _ _ _ (hall n).1.1
  have y4 := fun n => cell_of_row _ _ 4 _ _ _ (hall n).1.1
  have y5 := fun n => cell_of_row _ _ 5 _ _ _ (hall n).1.1
  have s0 := fun n => cell_of_row _ _ 0 _ _ _ (hall n).1.2
  have s1 := fun n => cell_of_row _ _ 1 _ _ _ (hall n).1.2
  have s2 := fun n => cell_of_row _ _ 2 _ _ _ (hall n).1.2
  have s3 := fun n => cell_of_row _ _ 3 _ _ _ (hall n).1.2
  have s4 := fun n => cell_of_row _ _ 4 _ _ _ (hall n).1.2
  clear hall hback
  refine Grow.wpGrow_take 22 (by kernel_rfl) ?_
  simp only [List.take, List.drop, List.length]
  repeat (go_big_quiet_step (fail))
  refine wpQuiet_nil ?_
  refine Grow.wpGrow_one ((.agg (cfc 3 k b h l a n c))) rfl rfl (fun w1 hB hG => ?_) (fun A1 hA => ?_)
  · obtain ⟨n, rfl⟩ := hB
    go_simp
    refine (HOF.out _).mono ?_
    rintro e w2 ⟨rfl, hn⟩
    first | exact ⟨_, rfl, HSTEP.out _ _ hn, rfl⟩ | exact ⟨rfl, HSTEP.out _ _ hn⟩
  simp [Act.put] at hA
  subst hA
  refine Grow.wpGrow_one ((.agg (stc k Q))) rfl rfl (fun w1 hB hG => ?_) (fun A2 hA => ?_)
  · obtain ⟨n, rfl⟩ := hB
    go_simp
    refine (HRS.out _ (HN7.out.trans (HALL.out n).2)).mono ?_
    rintro e w2 ⟨rfl, hn⟩
    first | exact ⟨_, rfl, HSTEP.out _ _ hn, rfl⟩ | exact ⟨rfl, HSTEP.out _ _ hn⟩
  simp [Act.put] at hA
  subst hA
  refine Grow.wpGrow_take 4 (by kernel_rfl) ?_
  simp only [List.take, List.drop, List.length]
  repeat (go_big_quiet_step (fail))
  refine wpQuiet_nil ?_
  refine Grow.wpGrow_nil ?_
  rintro w9 ⟨n9, rfl⟩ hG
  have HN79 := Lib.hid (HALL.out n9).2
  have HC9 := Lib.hid (HALL.out n9).1.1
  clear HALL HSTEP y0 y1 y2 y3 y4 y5 s0 s1 s2 s3 s4 hG
  generalize f n9 = w9 at *
  have HN9 := Lib.hid (HN7.out.trans HN79.out)
  have HR89 := Lib.hid (HR87.out.stay HN79.out)
  have y0 := cell_of_row _ _ 0 _ _ _ HC9.out
  have y1 := cell_of_row _ _ 1 _ _ _ HC9.out
  have y2 := cell_of_row _ _ 2 _ _ _ HC9.out
  have y3 := cell_of_row _ _ 3 _ _ _ HC9.out
  have y4 := cell_of_row _ _ 4 _ _ _ HC9.out
  have y5 := cell_of_row _ _ 5 _ _ _ HC9.out
  go_wp2_with fail
  refine (HOF.out _).mono ?_
  rintro e w10 ⟨rfl, hn⟩
  have HN10 := Lib.hid (HN9.out.trans hn)
  have HR810 := Lib.hid (HR89.out.stay hn)
  clear hn y0 y1 y2 y3 y4 y5
  go_wp2_with fail
  refine (HRB.out _ HN10.out).mono ?_
  rintro e w11 ⟨⟨a9, c9, rfl, hr9⟩, hn⟩
  have HN11 := Lib.hid (HN10.out.trans hn)
  have HR811 := Lib.hid (HR810.out.stay hn)
  have HR911 := Lib.hid hr9
  clear hn hr9
  go_wp2_with fail
  refine (HSM.out _ _ _ _ _ HR811.out HR911.out).mono ?_
  rintro e w12 ⟨rfl, hn⟩
  have HN12 := Lib.hid (HN.out.trans (HN11.out.trans hn))
  clear hn
  go_wp2
  go_ret
  exact ⟨rfl, HN12.out⟩
end Go.Proofs.YthkmcnlciefnfaaGreat
