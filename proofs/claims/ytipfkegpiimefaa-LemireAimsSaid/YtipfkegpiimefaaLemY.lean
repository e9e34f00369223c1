/- The law LemireAims, walked. -/
import Derived.Test.YtipfkegpiimefaaLemX
import Derived.Test.YtipfkegpiimefaaWords
namespace Go.Proofs.Ytipfkegpiimefaa
open Go.RowKit Go.Bv
set_option linter.unusedVariables false
theorem wrdN_tel (v r n : BitVec 64) (h : ¬ n = 0#64) (hv : v.toNat < n.toNat) (hr : r.toNat < eachN n) : telN (wrdN v r n) n = v := (wrdN_all v r n h hv hr).2.1
theorem wrdN_rnk (v r n : BitVec 64) (h : ¬ n = 0#64) (hv : v.toNat < n.toNat) (hr : r.toNat < eachN n) : rnkN (wrdN v r n) n = r := (wrdN_all v r n h hv hr).2.2
/-- whether a word is taken for any limit -/
def takO (x n : BitVec 64) : Bool := if n = 0#64 then false else takN x n
theorem takO_zero (x : BitVec 64) : takO x 0#64 = false := if_pos rfl
theorem takO_ne {x n : BitVec 64} (h : takO x n = true) : ¬ n = 0#64 := fun e => by subst e; cases h
theorem takO_tak {x n : BitVec 64} (h : takO x n = true) : takN x n = true := by
  unfold takO at h; rw [if_neg (takO_ne h)] at h; exact h
theorem rtakes_any (x n : BitVec 64) (w : World) : Calls Try.prog 23 #[.int .u64 (W64 x), .int .u64 (W64 n)] w fun e w' => e = .returned (.bool (takO x n)) ∧ New w w' := by
  by_cases h : n = 0#64
  · subst h
    rw [takO_zero, show W64 0#64 = 0 by decide]
    exact rtakes_zero_l x w
  · rw [show takO x n = takN x n from if_neg h]; exact rtakes_l x n h w
set_option maxHeartbeats 1000000 in
theorem rtake_any (a : Option Addr) (len cap : Nat) (l : List (BitVec 64)) (n : BitVec 64) (w : World) (hq : QRow w a len cap l) :
    Calls Try.prog 30 #[.slice a len cap, .int .u64 (W64 n)] w fun e w' =>
      ((∃ j, j < l.length ∧ (∀ i, i < j → takO (l.getD i 0) n = false) ∧ takO (l.getD j 0) n = true ∧ e = .returned (.tuple #[.agg #[.int .u64 (W64 (telN (l.getD j 0) n)), .int .u64 (W64 (rnkN (l.getD j 0) n)), .int .i64 ((j : Int) + 1)], .bool true])) ∨
      ((∀ i, i < l.length → takO (l.getD i 0) n = false) ∧ e = .returned (.tuple #[.agg #[.int .u64 0, .int .u64 0, .int .i64 0], .bool false]))) ∧ New w w' := by
  have hmost := hq.most
  obtain rfl := hq.len_eq
  have hr := heap_alloc_new w (.cells #[.int .u64 0, .int .u64 0, .int .i64 0] 44)
  have hnw := (New.refl w).alloc (.cells #[.int .u64 0, .int .u64 0, .int .i64 0] 44)
  have HQ := Lib.hid hq
  have HR0 := Lib.hid hr
  have HN0 := Lib.hid hnw
  have hsz : (w.alloc (.cells #[.int .u64 0, .int .u64 0, .int .i64 0] 44)).heap.size = w.heap.size + 1 := by simp
  clear hq hr hnw
  go_enter Try.func30, Try.ntmps30
  go_wp2_with fail
  generalize w.alloc (.cells #[.int .u64 0, .int .u64 0, .int .i64 0] 44) = w0 at *
  go_loopw [12] (fun u wr => ∃ j : Nat, j ≤ l.length ∧ u = .int .i64 j ∧ New w0 wr ∧ Hid (∀ i, i < j → takO (l.getD i 0) n = false)) (fun u _ => l.length - (intOf u).toNat)
  case atStart => exact ⟨0, Nat.zero_le _, rfl, New.refl _, Lib.hid (fun i h => by omega)⟩
  case round =>
    obtain ⟨j, hj, rfl, hnr, HNO⟩ := hrel
    have hrr := (hnr.block w.heap.size (by omega)).trans HR0.out
    have HNR := Lib.hid hnr
    by_cases hlt : (j : Int) < (l.length : Int)
    · obtain ⟨b, off, rfl, hcell⟩ := ((HQ.out.stay HN0.out).stay hnr).addr (by omega)
      have hck := hcell j (by omega)
      have HTK := Lib.hid (rtakes_any (l.getD j 0) n)
      have HTL := Lib.hid (fun ht : takO (l.getD j 0) n = true => rrank_l (l.getD j 0) n (takO_ne ht) (takO_tak ht))
      obtain ⟨z, hz⟩ : ∃ z, l.getD j 0 = z := ⟨_, rfl⟩
      rw [hz] at hck HTK HTL
      have HZ := Lib.hid hz
      have HRR := Lib.hid hrr
      clear hcell hz hnr hrr
      go_wp2_with fail
      refine (HTK.out _).mono ?_
      rintro e w1 ⟨rfl, hn1⟩
      have HN1 := Lib.hid (HNR.out.trans hn1)
      have HR1 := Lib.hid ((hn1.block _ (lt_of_block HRR.out)).trans HRR.out)
      clear hn1 HRR hck
      rcases htk : takO z n
      · have HNO2 : Hid (∀ i, i < j + 1 → takO (l.getD i 0) n = false) := Lib.hid (fun i h1 => by
          by_cases e : i = j
          · subst e; rw [HZ.out]; exact htk
          · exact HNO.out i (by omega))
        clear htk
        go_wp2
        exact ⟨⟨j + 1, by omega, by go_num, HN1.out, HNO2⟩, by simp [intOf]; omega⟩
      · have HTT := Lib.hid htk
        clear htk
        go_wp2_with fail
        refine (HTL.out HTT.out _).mono ?_
        rintro e w2 ⟨rfl, hn2⟩
        have HN2 := Lib.hid (HN1.out.trans hn2)
        have hrr := (hn2.block _ (lt_of_block HR1.out)).trans HR1.out
        have r0 := cell_of_row _ _ 0 _ _ _ hrr
        have r1 := cell_of_row _ _ 1 _ _ _ hrr
        have r2 := cell_of_row _ _ 2 _ _ _ hrr
        have rf : ∀ i, w2.frozen? ⟨w.heap.size, i, none⟩ = false := fun i => frozen_of_row _ _ _ _ _ hrr
        clear hn2 hrr
        go_wp2
        refine bodyPost_ret (by simp [results, Try.results30, go_sem, r0, r1, r2]; try rfl) rfl ?_
        refine ⟨Or.inl ⟨j, by omega, HNO.out, by rw [HZ.out]; exact HTT.out, by rw [HZ.out]⟩, (((HN0.out.trans HN2.out).setCell (Nat.le_refl _) _).setCell (Nat.le_refl _) _).setCell (Nat.le_refl _) _⟩
    · obtain rfl : j = l.length := by omega
      have r0 := cell_of_row _ _ 0 _ _ _ hrr
      have r1 := cell_of_row _ _ 1 _ _ _ hrr
      have r2 := cell_of_row _ _ 2 _ _ _ hrr
      have rf : ∀ i, wr.frozen? ⟨w.heap.size, i, none⟩ = false := fun i => frozen_of_row _ _ _ _ _ hrr
      clear hrr hnr
      go_wp2
      refine bodyPost_ret (by simp [results, Try.results30, go_sem, r0, r1, r2]; try rfl) rfl ?_
      refine ⟨Or.inr ⟨HNO.out, rfl⟩, (((HN0.out.trans HNR.out).setCell (Nat.le_refl _) _).setCell (Nat.le_refl _) _).setCell (Nat.le_refl _) _⟩
/-- what the aimed tape tells -/
theorem aimed (l : List (BitVec 64)) (n v : BitVec 64) (j : Nat) (hn0 : ¬ n = 0#64) (hj : j < l.length) (hno : ∀ i, i < j → takN (l.getD i 0) n = false) (htk : takN (l.getD j 0) n = true) (hv : v.toNat < n.toNat) (y : BitVec 64) (hy : wrdN v (rnkN (l.getD j 0) n) n = y) :
    (∀ i, i < j → takN ((l.set j y).getD i 0) n = false) ∧ (l.set j y).getD j 0 = y ∧ takN y n = true ∧ telN y n = v ∧ rnkN y n = rnkN (l.getD j 0) n ∧ (l.set j y).set j (wrdN (telN (l.getD j 0) n) (rnkN y n) n) = l ∧ (l.set j y).length = l.length ∧ (telN (l.getD j 0) n).toNat < n.toNat := by
  have hr := rnk_ltN (l.getD j 0) n hn0 htk
  have e1 : telN y n = v := hy ▸ wrdN_tel v (rnkN (l.getD j 0) n) n hn0 hv hr
  have e2 : rnkN y n = rnkN (l.getD j 0) n := hy ▸ wrdN_rnk v (rnkN (l.getD j 0) n) n hn0 hv hr
  have e3 : (l.set j y).getD j 0 = y := by rw [List.getD_eq_getElem?_getD, List.getElem?_set, if_pos rfl, if_pos hj]; rfl
  have e4 : takN y n = true := hy ▸ (wrdN_all v (rnkN (l.getD j 0) n) n hn0 hv hr).1
  refine ⟨fun i hi => ?_, e3, e4, e1, e2, ?_, List.length_set, tel_lt (l.getD j 0) n hn0⟩
  · rw [List.getD_eq_getElem?_getD, List.getElem?_set, if_neg (by omega), ← List.getD_eq_getElem?_getD]; exact hno i hi
  · rw [List.set_set, e2, show wrdN (telN (l.getD j 0) n) (rnkN (l.getD j 0) n) n = l.getD j 0 from wrdN_back (l.getD j 0) n hn0 htk]
    apply List.ext_getElem (by rw [List.length_set])
    intro i h1 h2
    rw [List.getElem_set]
    by_cases e : j = i
    · subst e; rw [if_pos rfl, List.getD_eq_getElem?_getD, List.getElem?_eq_getElem hj]; rfl
    · rw [if_neg e]
set_option maxHeartbeats 2000000 in
theorem LemireAims_walk (W : World) (a0 : Option Addr) (n0 m0 : Nat) (z0 : List Int) (w0 : IRow .u64 W a0 n0 m0 z0) (r0 : m0 * 8 ≤ 140737488351232) (a1 : Int) (w1 : (Lit.int .u64 a1).wf = true) (a2 : Int) (w2 : (Lit.int .u64 a2).wf = true) :
    Calls Try.prog 7 #[.slice a0 n0 m0, .int .u64 a1, .int .u64 a2] W fun e w' => e = .returned (.bool true) ∧ Below W.heap.size W w' := by
  obtain ⟨n, rfl⟩ := ex64 a1 (by simp [Lit.wf, IntKind.min, IntKind.max, IntKind.signed, IntKind.bits] at w1; omega)
  obtain ⟨v, rfl⟩ := ex64 a2 (by simp [Lit.wf, IntKind.min, IntKind.max, IntKind.signed, IntKind.bits] at w2; omega)
  obtain ⟨l, hq⟩ := w0.words r0
  have hmost := hq.most
  obtain rfl := hq.len_eq
  have HQ := Lib.hid hq
  clear hq w0 w1 w2
  by_cases hlt : (100 : Int) < (l.length : Int)
  · go_enter Try.func7, Try.ntmps7
    go_wp2_with fail
    refine (awake_38 W).mono ?_
    rintro e w1 ⟨rfl, hn1⟩
    have HN1 := Lib.hid hn1
    clear hn1
    go_wp2
    go_ret
    exact ⟨rfl, HN1.out⟩
  by_cases h0 : n = 0#64
  · subst h0
    have HNO := Lib.hid (show ∀ i, i < l.length → takO (l.getD i 0) 0#64 = false from fun i _ => takO_zero _)
    have HRT := Lib.hid fun w h => rtake_any a0 l.length m0 l 0#64 w h
    rw [show W64 0#64 = 0 by decide] at HRT ⊢
    go_enter Try.func7, Try.ntmps7
    go_wp2_with fail
    refine (awake_38 W).mono ?_
    rintro e w1 ⟨rfl, hn1⟩
    have HN1 := Lib.hid hn1
    clear hn1
    go_wp2_with fail
    refine (aim_l0 a0 l.length m0 l v _ (HQ.out.stay HN1.out)).mono ?_
    rintro e w2 ⟨rfl, hn2⟩
    have HN2 := Lib.hid (HN1.out.trans hn2)
    clear hn2
    go_wp2_with fail
    refine (HRT.out _ (HQ.out.stay HN2.out)).mono ?_
    rintro e w5 ⟨⟨j2, hj2, _, htk2, rfl⟩ | ⟨_, rfl⟩, hn5⟩
    · exfalso
      have := HNO.out j2 hj2
      rw [htk2] at this; cases this
    have HN5 := Lib.hid ((HN2.out.trans hn5).alloc (.cells #[.int .u64 0, .int .u64 0, .int .i64 0] 44))
    clear hn5
    go_wp2
    go_ret
    exact ⟨rfl, HN5.out⟩
  have z1 : (W64 n == 0) = false := by
    have := pos_of_ne h0
    rw [beq_eq_false_iff_ne]; unfold W64; omega
  have z2 : (n == 0#64) = false := beq_false_of_ne h0
  by_cases hex : ∃ j, j < l.length ∧ (∀ i, i < j → takN (l.getD i 0) n = false) ∧ takN (l.getD j 0) n = true
  · obtain ⟨j, hj, hno, htk⟩ := hex
    obtain ⟨y, hy⟩ : ∃ y, telN (l.getD j 0) n = y := ⟨_, rfl⟩
    obtain ⟨r, hr⟩ : ∃ r, rnkN (l.getD j 0) n = r := ⟨_, rfl⟩
    obtain ⟨u, hu⟩ : ∃ u : Int, ((j : Int) + 1) = u := ⟨_, rfl⟩
    have HRT := Lib.hid (show ∀ w, QRow w a0 l.length m0 l → Calls Try.prog 30 #[.slice a0 l.length m0, .int .u64 (W64 n)] w fun e w' => e = .returned (.tuple #[.agg #[.int .u64 (W64 y), .int .u64 (W64 r), .int .i64 u], .bool true]) ∧ New w w' from fun w h => (rtake_l a0 l.length m0 l n h0 w h).mono (by
      rintro e w' ⟨⟨j2, _, hno2, htk2, rfl⟩ | ⟨hno2, rfl⟩, hn⟩
      · obtain rfl : j = j2 := first_same (p := fun k => takN (l.getD k 0) n) hno htk hno2 htk2
        rw [hy, hr, hu]; exact ⟨rfl, hn⟩
      · exfalso
        have := hno2 j hj
        rw [htk] at this; cases this))
    by_cases hv : v.toNat < n.toNat
    · have z3 : decide (W64 n ≤ W64 v) = false := by rw [decide_eq_false_iff_not]; unfold W64; omega
      obtain ⟨y2, hy2⟩ : ∃ x, wrdN v (rnkN (l.getD j 0) n) n = x := ⟨_, rfl⟩
      obtain ⟨hno3, e1, e2, e3, e4, e5, e6, e7⟩ := aimed l n v j h0 hj hno htk hv y2 hy2
      have HA1 := Lib.hid fun w h => aim_l a0 l.length m0 l n v j h0 hj hno htk hv w h
      rw [hy2] at HA1
      have HA2 := Lib.hid fun a c w h => aim_l a l.length c (l.set j y2) n (telN (l.getD j 0) n) j h0 (by omega) hno3 (by rw [e1]; exact e2) e7 w h
      rw [e1, e5, hy] at HA2
      have HRM := Lib.hid (show ∀ a c w, QRow w a l.length c (l.set j y2) → Calls Try.prog 30 #[.slice a l.length c, .int .u64 (W64 n)] w fun e w' => e = .returned (.tuple #[.agg #[.int .u64 (W64 v), .int .u64 (W64 r), .int .i64 u], .bool true]) ∧ New w w' from fun a c w h => (rtake_l a l.length c (l.set j y2) n h0 w h).mono (by
        rintro e w' ⟨⟨j2, _, hno2, htk2, rfl⟩ | ⟨hno2, rfl⟩, hn⟩
        · obtain rfl : j = j2 := first_same (p := fun k => takN ((l.set j y2).getD k 0) n) hno3 (by show takN ((l.set j y2).getD j 0) n = true; rw [e1]; exact e2) hno2 htk2
          rw [e1, e3, e4, hr, hu]; exact ⟨rfl, hn⟩
        · exfalso
          have := hno2 j (by omega)
          rw [e1, e2] at this; cases this))
      have HLL := Lib.hid (show (l == l) = true from beq_self_eq_true l)
      clear hno3 e1 e2 e3 e4 e5 e6 e7 hno htk hy hr hu hv h0 hy2
      go_enter Try.func7, Try.ntmps7
      go_wp2_with fail
      refine (awake_38 W).mono ?_
      rintro e w1 ⟨rfl, hn1⟩
      have HN1 := Lib.hid hn1
      clear hn1
      go_wp2_with fail
      refine (HA1.out _ (HQ.out.stay HN1.out)).mono ?_
      rintro e w2 ⟨m, c, rfl, hq2, hn2⟩
      have HN2 := Lib.hid (HN1.out.trans hn2)
      have HQ2 := Lib.hid hq2
      clear hn2 hq2
      go_wp2_with fail
      refine (HRT.out _ (HQ.out.stay HN2.out)).mono ?_
      rintro e w3 ⟨rfl, hn3⟩
      have hd := heap_alloc_new w3 (.cells #[.int .u64 (W64 y), .int .u64 (W64 r), .int .i64 u] 44)
      have hn4 := (New.refl w3).alloc (.cells #[.int .u64 (W64 y), .int .u64 (W64 r), .int .i64 u] 44)
      obtain ⟨w4, hw4⟩ : ∃ w4, w3.alloc (.cells #[.int .u64 (W64 y), .int .u64 (W64 r), .int .i64 u] 44) = w4 := ⟨_, rfl⟩
      rw [hw4] at hd hn4
      obtain ⟨q, hq⟩ : ∃ q, w3.heap.size = q := ⟨_, rfl⟩
      rw [hq] at hd
      have HD := Lib.hid hd
      have HN4 := Lib.hid ((HN2.out.trans hn3).trans hn4)
      have HQ4 := Lib.hid ((HQ2.out.stay hn3).stay hn4)
      have HE := Lib.hid (show w3.alloc (.cells #[.int .u64 (W64 y), .int .u64 (W64 r), .int .i64 u] 44) = w4 ∧ w3.heap.size = q from ⟨hw4, hq⟩)
      clear hd hn4 hw4 hq hn3
      go_wp2_with (rw [HE.out.1, HE.out.2])
      refine (HRM.out _ _ _ HQ4.out).mono ?_
      rintro e w5 ⟨rfl, hn5⟩
      have hd2 := heap_alloc_new w5 (.cells #[.int .u64 (W64 v), .int .u64 (W64 r), .int .i64 u] 44)
      have hn6 := (New.refl w5).alloc (.cells #[.int .u64 (W64 v), .int .u64 (W64 r), .int .i64 u] 44)
      obtain ⟨w6, hw6⟩ : ∃ w6, w5.alloc (.cells #[.int .u64 (W64 v), .int .u64 (W64 r), .int .i64 u] 44) = w6 := ⟨_, rfl⟩
      rw [hw6] at hd2 hn6
      obtain ⟨q2, hq2⟩ : ∃ q2, w5.heap.size = q2 := ⟨_, rfl⟩
      rw [hq2] at hd2
      have hd1 := ((hn5.trans hn6).block _ (lt_of_block HD.out)).trans HD.out
      have k0 := cell_of_row _ _ 0 _ _ _ hd1
      have HD2 := Lib.hid hd2
      have HD1 := Lib.hid hd1
      have HN6 := Lib.hid ((HN4.out.trans hn5).trans hn6)
      have HQ6 := Lib.hid ((HQ4.out.stay hn5).stay hn6)
      have HE2 := Lib.hid (show w5.alloc (.cells #[.int .u64 (W64 v), .int .u64 (W64 r), .int .i64 u] 44) = w6 ∧ w5.heap.size = q2 from ⟨hw6, hq2⟩)
      clear hd2 hd1 hn6 hw6 hq2 hn5 HD HQ4
      go_wp2_with (rw [HE2.out.1, HE2.out.2])
      refine (HA2.out _ _ _ HQ6.out).mono ?_
      rintro e w7 ⟨m3, c3, rfl, hq7, hn7⟩
      have hd1 := (hn7.block _ (lt_of_block HD1.out)).trans HD1.out
      have hd2 := (hn7.block _ (lt_of_block HD2.out)).trans HD2.out
      have c0 := cell_of_row _ _ 0 _ _ _ hd1
      have c1 := cell_of_row _ _ 1 _ _ _ hd1
      have c2 := cell_of_row _ _ 2 _ _ _ hd1
      have x0 := cell_of_row _ _ 0 _ _ _ hd2
      have x1 := cell_of_row _ _ 1 _ _ _ hd2
      have x2 := cell_of_row _ _ 2 _ _ _ hd2
      have HN7 := Lib.hid (HN6.out.trans hn7)
      have HQ7 := Lib.hid hq7
      clear hd1 hd2 hn7 hq7 k0
      go_wp2_with fail
      refine (words_ref _ _ _ _ _ _ _ _ _ _ HQ7.out (HQ.out.stay HN7.out) HN7.out).mono ?_
      rintro e w8 ⟨rfl, _, hn8⟩
      rw [HLL.out]
      have HN8 := Lib.hid hn8
      clear hn8
      go_wp2
      go_ret
      exact ⟨rfl, HN8.out⟩
    · have z3 : decide (W64 n ≤ W64 v) = true := by rw [decide_eq_true_eq]; unfold W64; omega
      have HA1 := Lib.hid fun w h => aim_l_no a0 l.length m0 l n v j h0 hj htk hv w h
      clear hno htk hy hr hu hv h0
      go_enter Try.func7, Try.ntmps7
      go_wp2_with fail
      refine (awake_38 W).mono ?_
      rintro e w1 ⟨rfl, hn1⟩
      have HN1 := Lib.hid hn1
      clear hn1
      go_wp2_with fail
      refine (HA1.out _ (HQ.out.stay HN1.out)).mono ?_
      rintro e w2 ⟨rfl, hn2⟩
      have HN2 := Lib.hid (HN1.out.trans hn2)
      clear hn2
      go_wp2_with fail
      refine (HRT.out _ (HQ.out.stay HN2.out)).mono ?_
      rintro e w3 ⟨rfl, hn3⟩
      have HN3 := Lib.hid ((HN2.out.trans hn3).alloc (.cells #[.int .u64 (W64 y), .int .u64 (W64 r), .int .i64 u] 44))
      clear hn3
      go_wp2
      go_ret
      exact ⟨rfl, HN3.out⟩
  · have HNO := Lib.hid (show ∀ i, i < l.length → takN (l.getD i 0) n = false from fun i => by
      induction i using Nat.strongRecOn with
      | _ i ih =>
        intro hi
        cases htk : takN (l.getD i 0) n
        · rfl
        · exact absurd ⟨i, hi, fun k hk => ih k hk (by omega), htk⟩ hex)
    have HA1 := Lib.hid fun w h => aim_l_few a0 l.length m0 l n v h0 HNO.out w h
    have HRT := Lib.hid fun w h => rtake_l a0 l.length m0 l n h0 w h
    clear hex h0
    go_enter Try.func7, Try.ntmps7
    go_wp2_with fail
    refine (awake_38 W).mono ?_
    rintro e w1 ⟨rfl, hn1⟩
    have HN1 := Lib.hid hn1
    clear hn1
    go_wp2_with fail
    refine (HA1.out _ (HQ.out.stay HN1.out)).mono ?_
    rintro e w2 ⟨rfl, hn2⟩
    have HN2 := Lib.hid (HN1.out.trans hn2)
    clear hn2
    go_wp2_with fail
    refine (HRT.out _ (HQ.out.stay HN2.out)).mono ?_
    rintro e w5 ⟨⟨j2, hj2, _, htk2, rfl⟩ | ⟨_, rfl⟩, hn5⟩
    · exfalso
      have := HNO.out j2 hj2
      rw [htk2] at this; cases this
    have HN5 := Lib.hid ((HN2.out.trans hn5).alloc (.cells #[.int .u64 0, .int .u64 0, .int .i64 0] 44))
    clear hn5
    go_wp2
    go_ret
    exact ⟨rfl, HN5.out⟩
end Go.Proofs.Ytipfkegpiimefaa
