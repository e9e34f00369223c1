import Derived.Test.YtebcfbcfipmahaaGreatZ3FamT
import Derived.Test.YtebcfbcfipmahaaGreatZ3StrG
import Derived.Test.YtebcfbcfipmahaaGreatZ3FamG
/- Layer 27: family.Shift as a whole; the law FamilyShifts. -/
namespace Go.Proofs.YtebcfbcfipmahaaGreat
open Go Go.RowKit Go.Bv Go.Tab
set_option linter.unusedVariables false
set_option maxRecDepth 100000
theorem fshift_good (k b : Int) (a x y : Option Addr) (n c nx cx ny cy : Nat) (l xl yl : List (BitVec 64)) (hA : AmL k b l xl yl) (E : Int) (L : List (BitVec 64)) (hS : ShC k b l xl yl E L) (w : World) (h : QRow w a n c l) (hx : QRow w x nx cx xl) (hy : QRow w y ny cy yl) :
    Calls Tryz.prog 23 #[.agg (sdc k b a n c), .slice x nx cx, .slice y ny cy] w fun e w' => FSR k b w w' n e E L := by
  obtain ⟨n1, n2, n3⟩ := hA.len
  have e1 := hx.len_eq
  have e2 := hy.len_eq
  obtain ⟨g, off, rfl, _⟩ := h.addr (n_pos h.len_eq hA.ch)
  obtain ⟨px, ox, rfl, _⟩ := hx.addr (by omega)
  obtain ⟨py, oy, rfl, _⟩ := hy.addr (by omega)
  exact fsh_call k b g off n c px ox nx cx py oy ny cy l xl yl w h hx hy hA E L hS
/-- family.Shift: what is wrong, or the seed L -/
theorem fshift_any (k b : Int) (a x y : Option Addr) (n c nx cx ny cy : Nat) (l xl yl : List (BitVec 64)) (W : World) (h : QRow W a n c l) (hx : QRow W x nx cx xl) (hy : QRow W y ny cy yl) :
    ∃ L, (∀ w, New W w → Calls Tryz.prog 23 #[.agg (sdc k b a n c), .slice x nx cx, .slice y ny cy] w fun e w' => FSR k b w w' n e (amE k b l xl yl) L) ∧ (amE k b l xl yl = 0 → AmL k b l xl yl ∧ ShB k b l xl yl L) := by
  have e0 := h.len_eq
  have e1 := hx.len_eq
  have e2 := hy.len_eq
  by_cases hz : chF k b l = 0
  · by_cases ht : tgK k l.length = 0
    · have e : amE k b l xl yl = 6 := by unfold amE; rw [if_neg (not_not_intro hz), if_pos ht]
      rw [e]
      exact ⟨l, fun w hn => fsh_kind k b a x y n c nx cx ny cy l xl yl w (h.stay hn) (hx.stay hn) (hy.stay hn) hz (by rw [← e0]; exact ht), fun h => absurd h (by decide)⟩
    · by_cases hl : (xl.length : Int) < 1 ∨ tgK k l.length < (xl.length : Int) ∨ xl.length ≠ yl.length
      · have e : amE k b l xl yl = 1 := by unfold amE; rw [if_neg (not_not_intro hz), if_neg ht, if_pos hl]
        rw [e]
        exact ⟨l, fun w hn => fsh_len k b a x y n c nx cx ny cy l xl yl w (h.stay hn) (hx.stay hn) (hy.stay hn) hz (by rw [← e0]; exact ht) (by rw [← e0, ← e1, ← e2]; exact hl), fun h => absurd h (by decide)⟩
      · have hA : AmL k b l xl yl := ⟨hz, ht, hl⟩
        obtain ⟨L, s1, s2⟩ := shc_any hA
        exact ⟨L, fun w hn => fshift_good k b a x y n c nx cx ny cy l xl yl hA _ L s1 w (h.stay hn) (hx.stay hn) (hy.stay hn), fun h0 => ⟨hA, s2 h0⟩⟩
  · have e : amE k b l xl yl = chF k b l := by unfold amE; rw [if_pos hz]
    rw [e]
    exact ⟨l, fun w hn => fsh_bad k b a x y n c nx cx ny cy l xl yl w (h.stay hn) (hx.stay hn) (hy.stay hn) hz, fun h => absurd h hz⟩
theorem qnone27 (w : World) : QRow w none 0 0 [] := ⟨rfl, Nat.le_refl _, by omega, by omega, fun _ => ⟨rfl, rfl⟩, (fun _ _ e => by cases e), (fun _ e => by cases e), (fun _ e => by cases e)⟩
theorem two_blocks27 (w : World) (A B : Obj) : ((w.alloc A).alloc B).heap[w.heap.size]? = some A ∧ ((w.alloc A).alloc B).heap[w.heap.size + 1]? = some B ∧ New w ((w.alloc A).alloc B) := by
  have e1 : (w.alloc A).heap.size = w.heap.size + 1 := by simp
  refine ⟨?_, ?_, ((New.refl w).alloc _).alloc _⟩
  · rw [((New.refl (w.alloc A)).alloc B).block _ (by rw [e1]; omega)]; exact heap_alloc_new _ _
  · rw [← e1]; exact heap_alloc_new _ _
theorem rsame_zero (w : World) : Calls Tryz.prog 25 #[.agg (sdc 0 0 none 0 0), .agg (sdc 0 0 none 0 0)] w fun e w' => e = .returned (.bool true) ∧ New w w' := by
  obtain ⟨hb1, hb2, hN⟩ := two_blocks27 w (.cells (sdc 0 0 none 0 0) 30) (.cells (sdc 0 0 none 0 0) 30)
  generalize hW : (w.alloc (.cells (sdc 0 0 none 0 0) 30)).alloc (.cells (sdc 0 0 none 0 0) 30) = w0 at *
  have HN := Lib.hid hN
  have HWD := Lib.hid (words_ref none none 0 0 0 0 [] [] w0 w0 (qnone27 w0) (qnone27 w0) (New.refl w0))
  rw [beq_self_eq_true] at HWD
  have c0 := cell_of_row _ _ 0 _ _ _ hb1
  have c1 := cell_of_row _ _ 1 _ _ _ hb1
  have c2 := cell_of_row _ _ 2 _ _ _ hb1
  have d0 := cell_of_row _ _ 0 _ _ _ hb2
  have d1 := cell_of_row _ _ 1 _ _ _ hb2
  have d2 := cell_of_row _ _ 2 _ _ _ hb2
  clear hb1 hb2 hN
  go_enter Tryz.func25, Tryz.ntmps25
  go_wp2_with fail
  refine HWD.out.mono ?_
  rintro e w2 ⟨rfl, hn, _⟩
  have HN2 := Lib.hid (HN.out.trans hn)
  clear hn c0 c1 c2 d0 d1 d2 HWD
  go_wp2
  go_ret
  exact ⟨rfl, HN2.out⟩
theorem shifts_early (W : World) (k b : Int) (a x y : Option Addr) (n c nx cx ny cy : Nat) (l xl yl : List (BitVec 64)) (h : QRow W a n c l) (hx : QRow W x nx cx xl) (hy : QRow W y ny cy yl) (h1 : 12 < nx) (h2 : nx ≤ 64) : Calls Tryz.prog 6 #[.agg (sdc k b a n c), .slice x nx cx, .slice y ny cy] W fun e w' => e = .returned (.bool true) ∧ Below W.heap.size W w' := by
  have HA := Lib.hid (fun w => awake27 w)
  generalize hW : W.alloc (.cells (sdc k b a n c) 30) = wa
  have HB : Hid (wa.heap[W.heap.size]? = some (.cells (sdc k b a n c) 30 (0, 0))) := Lib.hid (by rw [← hW]; exact heap_alloc_new W _)
  have HN : Hid (New W wa) := Lib.hid (by rw [← hW]; exact (New.refl W).alloc _)
  have q1 : decide ((12 : Int) < (nx : Int)) = true := decide_eq_true (by omega)
  have q2 : decide ((nx : Int) ≤ 64) = true := decide_eq_true (by omega)
  clear h hx hy h1 h2
  go_enter Tryz.func6, Tryz.ntmps6
  go_wp2_with fail
  refine (HA.out _).mono ?_
  rintro e w2 ⟨rfl, hn⟩
  have HN2 := Lib.hid hn
  clear hn
  go_wp2_with fail
  go_ret
  exact ⟨rfl, HN.out.trans HN2.out⟩
theorem shifts_bad (W : World) (k b : Int) (a x y : Option Addr) (n c nx cx ny cy : Nat) (l xl yl : List (BitVec 64)) (h : QRow W a n c l) (hx : QRow W x nx cx xl) (hy : QRow W y ny cy yl) (hc : nx ≤ 12 ∨ 64 < nx) (E : Int) (hE : E ≠ 0) (LL : List (BitVec 64)) (HS : Hid (∀ w, New W w → Calls Tryz.prog 23 #[.agg (sdc k b a n c), .slice x nx cx, .slice y ny cy] w fun e w' => FSR k b w w' n e E LL)) (HM : Hid (∀ w, New W w → Calls Tryz.prog 24 #[.agg (sdc k b a n c), .slice x nx cx, .slice y ny cy] w fun e w' => e = .returned (.int .i64 E) ∧ New w w')) : Calls Tryz.prog 6 #[.agg (sdc k b a n c), .slice x nx cx, .slice y ny cy] W fun e w' => e = .returned (.bool true) ∧ Below W.heap.size W w' := by
  have HA := Lib.hid (fun w => awake27 w)
  generalize hW : W.alloc (.cells (sdc k b a n c) 30) = wa
  have HB : Hid (wa.heap[W.heap.size]? = some (.cells (sdc k b a n c) 30 (0, 0))) := Lib.hid (by rw [← hW]; exact heap_alloc_new W _)
  have HN : Hid (New W wa) := Lib.hid (by rw [← hW]; exact (New.refl W).alloc _)
  have HC : Hid (decide ((12 : Int) < (nx : Int)) = false ∨ decide ((12 : Int) < (nx : Int)) = true ∧ decide ((nx : Int) ≤ 64) = false) := Lib.hid (by
    rcases hc with hc | hc
    · exact .inl (decide_eq_false (by omega))
    · exact .inr ⟨decide_eq_true (by omega), decide_eq_false (by omega)⟩)
  have HZ := Lib.hid (fun w => rsame_zero w)
  have HE := Lib.hid hE
  have e1 : (E != 0) = true := bne_iff_ne.2 hE
  have e2 : (E == E) = true := beq_self_eq_true _
  clear h hx hy hc hE
  go_enter Tryz.func6, Tryz.ntmps6
  go_wp2_with fail
  refine (HA.out _).mono ?_
  rintro e w2 ⟨rfl, hn⟩
  have HN2 := Lib.hid hn
  clear hn
  rcases HC.out with q1 | ⟨q1, q2⟩
  · clear HC
    have hsb := (HN2.out.block _ (lt_of_block HB.out)).trans HB.out
    have s0 := cell_of_row _ _ 0 _ _ _ hsb
    have s1 := cell_of_row _ _ 1 _ _ _ hsb
    have s2 := cell_of_row _ _ 2 _ _ _ hsb
    clear hsb
    go_wp2_with fail
    refine (HS.out _ (HN.out.trans HN2.out)).mono ?_
    rintro e w3 ⟨(⟨_, rfl⟩ | ⟨hz, _⟩), hn⟩
    rotate_left
    · exact absurd hz HE.out
    have HN3 := Lib.hid (HN2.out.trans hn)
    clear hn s0 s1 s2
    obtain ⟨w4, hw4⟩ : ∃ z, w3.alloc (.cells (sdc 0 0 none 0 0) 30) = z := ⟨_, rfl⟩
    have HT : Hid (w4.heap[w3.heap.size]? = some (.cells (sdc 0 0 none 0 0) 30 (0, 0))) := Lib.hid (by rw [← hw4]; exact heap_alloc_new w3 _)
    have HN4 : Hid (New wa w4) := Lib.hid (by rw [← hw4]; exact HN3.out.alloc _)
    have HW4 := Lib.hid hw4
    obtain ⟨q4, hq4⟩ : ∃ z, w3.heap.size = z := ⟨_, rfl⟩
    rw [hq4] at HT
    have HQ4 := Lib.hid hq4
    clear hw4 hq4
    have hsb := (HN4.out.block _ (lt_of_block HB.out)).trans HB.out
    have s0 := cell_of_row _ _ 0 _ _ _ hsb
    have s1 := cell_of_row _ _ 1 _ _ _ hsb
    have s2 := cell_of_row _ _ 2 _ _ _ hsb
    clear hsb
    rw [← HW4.out] at s0 s1 s2
    go_wp2_with fail
    rw [HW4.out]
    refine (HM.out _ (HN.out.trans HN4.out)).mono ?_
    rintro e w5 ⟨rfl, hn⟩
    have HN5 := Lib.hid (HN4.out.trans hn)
    have ht := (hn.block _ (lt_of_block HT.out)).trans HT.out
    have t0 := cell_of_row _ _ 0 _ _ _ ht
    have t1 := cell_of_row _ _ 1 _ _ _ ht
    have t2 := cell_of_row _ _ 2 _ _ _ ht
    rw [← HQ4.out] at t0 t1 t2
    clear hn ht s0 s1 s2
    go_wp2_with fail
    refine (HZ.out _).mono ?_
    rintro e w6 ⟨rfl, hn⟩
    have HN6 := Lib.hid (HN5.out.trans hn)
    clear hn t0 t1 t2
    go_wp2
    go_ret
    exact ⟨rfl, HN.out.trans HN6.out⟩
  · clear HC
    have hsb := (HN2.out.block _ (lt_of_block HB.out)).trans HB.out
    have s0 := cell_of_row _ _ 0 _ _ _ hsb
    have s1 := cell_of_row _ _ 1 _ _ _ hsb
    have s2 := cell_of_row _ _ 2 _ _ _ hsb
    clear hsb
    go_wp2_with fail
    refine (HS.out _ (HN.out.trans HN2.out)).mono ?_
    rintro e w3 ⟨(⟨_, rfl⟩ | ⟨hz, _⟩), hn⟩
    rotate_left
    · exact absurd hz HE.out
    have HN3 := Lib.hid (HN2.out.trans hn)
    clear hn s0 s1 s2
    obtain ⟨w4, hw4⟩ : ∃ z, w3.alloc (.cells (sdc 0 0 none 0 0) 30) = z := ⟨_, rfl⟩
    have HT : Hid (w4.heap[w3.heap.size]? = some (.cells (sdc 0 0 none 0 0) 30 (0, 0))) := Lib.hid (by rw [← hw4]; exact heap_alloc_new w3 _)
    have HN4 : Hid (New wa w4) := Lib.hid (by rw [← hw4]; exact HN3.out.alloc _)
    have HW4 := Lib.hid hw4
    obtain ⟨q4, hq4⟩ : ∃ z, w3.heap.size = z := ⟨_, rfl⟩
    rw [hq4] at HT
    have HQ4 := Lib.hid hq4
    clear hw4 hq4
    have hsb := (HN4.out.block _ (lt_of_block HB.out)).trans HB.out
    have s0 := cell_of_row _ _ 0 _ _ _ hsb
    have s1 := cell_of_row _ _ 1 _ _ _ hsb
    have s2 := cell_of_row _ _ 2 _ _ _ hsb
    clear hsb
    rw [← HW4.out] at s0 s1 s2
    go_wp2_with fail
    rw [HW4.out]
    refine (HM.out _ (HN.out.trans HN4.out)).mono ?_
    rintro e w5 ⟨rfl, hn⟩
    have HN5 := Lib.hid (HN4.out.trans hn)
    have ht := (hn.block _ (lt_of_block HT.out)).trans HT.out
    have t0 := cell_of_row _ _ 0 _ _ _ ht
    have t1 := cell_of_row _ _ 1 _ _ _ ht
    have t2 := cell_of_row _ _ 2 _ _ _ ht
    rw [← HQ4.out] at t0 t1 t2
    clear hn ht s0 s1 s2
    go_wp2_with fail
    refine (HZ.out _).mono ?_
    rintro e w6 ⟨rfl, hn⟩
    have HN6 := Lib.hid (HN5.out.trans hn)
    clear hn t0 t1 t2
    go_wp2
    go_ret
    exact ⟨rfl, HN.out.trans HN6.out⟩
set_option maxHeartbeats 8000000 in
theorem shifts_good (W : World) (k b : Int) (a x y : Option Addr) (n c nx cx ny cy : Nat) (l xl yl : List (BitVec 64)) (h : QRow W a n c l) (hx : QRow W x nx cx xl) (hy : QRow W y ny cy yl) (hc : nx ≤ 12) (LL : List (BitVec 64)) (hA : AmL k b l xl yl) (hB : ShB k b l xl yl LL) (HS : Hid (∀ w, New W w → Calls Tryz.prog 23 #[.agg (sdc k b a n c), .slice x nx cx, .slice y ny cy] w fun e w' => FSR k b w w' n e 0 LL)) (HM : Hid (∀ w, New W w → Calls Tryz.prog 24 #[.agg (sdc k b a n c), .slice x nx cx, .slice y ny cy] w fun e w' => e = .returned (.int .i64 0) ∧ New w w')) : Calls Tryz.prog 6 #[.agg (sdc k b a n c), .slice x nx cx, .slice y ny cy] W fun e w' => e = .returned (.bool true) ∧ Below W.heap.size W w' := by
  obtain ⟨i0, hi, hz0, hz1, hz2⟩ := info_parts info_u64t
  obtain ⟨n1, n2, n3⟩ := hA.len
  have e0 := h.len_eq
  have e1 := hx.len_eq
  have e2 := hy.len_eq
  obtain rfl : nx = ny := by omega
  obtain ⟨px, ox, rfl, _⟩ := hx.addr (by omega)
  obtain ⟨py, oy, rfl, _⟩ := hy.addr (by omega)
  have hn0 : 0 < n := n_pos e0 hA.ch
  obtain ⟨g, off, rfl, _⟩ := h.addr hn0
  have HX := Lib.hid hx
  have HY := Lib.hid hy
  have HQ := Lib.hid h
  obtain ⟨f, hf⟩ : ∃ f : Nat → BitVec 64, (fun i => vF k b l (xl.getD i 0)) = f := ⟨_, rfl⟩
  have HFV : Hid (∀ i, f i = vF k b l (xl.getD i 0)) := Lib.hid (fun i => by rw [← hf])
  have HCH := Lib.hid hA.ch
  have HTO : Hid (∀ i, i < nx → vF k b LL (xl.getD i 0) = yl.getD i 0) := Lib.hid (fun i hi => hB.there i (by omega))
  have HCK : Hid (∀ (a' : Option Addr) (c' : Nat) (w : World), QRow w a' n c' LL → Calls Tryz.prog 18 #[.agg (sdc k b a' n c')] w fun e w' => e = .returned (.int .i64 0) ∧ New w w') := Lib.hid (fun a' c' w hr => by
    have := rcheck_27 k b a' n c' LL w hr
    rw [hB.ch] at this
    exact this)
  have HE1 : Hid (∀ (i : Nat) (w : World), QRow w (some ⟨g, off, none⟩) n c l → Calls Tryz.prog 16 #[.agg (sdc k b (some ⟨g, off, none⟩) n c), .int .u64 (W64 (xl.getD i 0))] w fun e w' => e = .returned (.tuple #[.int .u64 (W64 (f i)), .int .i64 (eF k b l (xl.getD i 0))]) ∧ New w w') := Lib.hid (fun i w hr => by
    rw [HFV.out i]; exact reval_any k b g off n c l (xl.getD i 0) w hr HCH.out)
  have HE2 : Hid (∀ (i : Nat), i < nx → ∀ (g' off' c' : Nat) (w : World), QRow w (some ⟨g', off', none⟩) n c' LL → Calls Tryz.prog 16 #[.agg (sdc k b (some ⟨g', off', none⟩) n c'), .int .u64 (W64 (xl.getD i 0))] w fun e w' => e = .returned (.tuple #[.int .u64 (W64 (yl.getD i 0)), .int .i64 (eF k b LL (xl.getD i 0))]) ∧ New w w') := Lib.hid (fun i hi g' off' c' w hr => by
    have := reval_any k b g' off' n c' LL (xl.getD i 0) w hr hB.ch
    rw [HTO.out i hi] at this
    exact this)
  have hAB : AmL k b LL xl (vlK f nx) := ⟨hB.ch, by rw [hB.len]; exact hA.tg, by
    have e3 : (vlK f nx).length = nx := by unfold vlK; rw [List.length_map, List.length_range]
    rw [hB.len, e3]
    have := hA.ln
    omega⟩
  have hBK := hB.back (vlK f nx) (by unfold vlK; rw [List.length_map, List.length_range, e1]) (fun i hi => by unfold vlK; rw [map_at _ (by omega)]; exact HFV.out i)
  have HBK : Hid (∀ (a' x' : Option Addr) (c' cx' : Nat) (w : World), QRow w a' n c' LL → QRow w (some ⟨px, ox, none⟩) nx cx xl → QRow w x' nx cx' (vlK f nx) → Calls Tryz.prog 23 #[.agg (sdc k b a' n c'), .slice (some ⟨px, ox, none⟩) nx cx, .slice x' nx cx'] w fun e w' => FSR k b w w' n e 0 l) := Lib.hid (fun a' x' c' cx' w h1 h2 h3 => fshift_good k b a' _ x' n c' nx cx nx cx' LL xl (vlK f nx) hAB 0 l hBK w h1 h2 h3)
  have hnx : nx ≤ 64 := by omega
  have HA := Lib.hid (fun w => awake27 w)
  generalize hW : W.alloc (.cells (sdc k b (some ⟨g, off, none⟩) n c) 30) = wa
  have HB : Hid (wa.heap[W.heap.size]? = some (.cells (sdc k b (some ⟨g, off, none⟩) n c) 30 (0, 0))) := Lib.hid (by rw [← hW]; exact heap_alloc_new W _)
  have HN : Hid (New W wa) := Lib.hid (by rw [← hW]; exact (New.refl W).alloc _)
  have q1 : decide ((12 : Int) < (nx : Int)) = false := decide_eq_false (by omega)
  have hkk : (k != k) = false := bne_self_eq_false _
  have hbb : (b != b) = false := bne_self_eq_false _
  have hnn : ((n : Int) != (n : Int)) = false := bne_self_eq_false _
  clear h hx hy hA hB hf hAB hBK e0 e1 e2 n1 n2 n3 hc
  go_enter Tryz.func6, Tryz.ntmps6
  go_wp2_with fail
  refine (HA.out _).mono ?_
  rintro e w2 ⟨rfl, hn⟩
  have HN2 := Lib.hid hn
  clear hn
  have hsb := (HN2.out.block _ (lt_of_block HB.out)).trans HB.out
  have s0 := cell_of_row _ _ 0 _ _ _ hsb
  have s1 := cell_of_row _ _ 1 _ _ _ hsb
  have s2 := cell_of_row _ _ 2 _ _ _ hsb
  clear hsb
  go_wp2_with fail
  refine (HS.out _ (HN.out.trans HN2.out)).mono ?_
  rintro e w3 ⟨(⟨hz, _⟩ | ⟨_, a', c', rfl, hr⟩), hn⟩
  · exact absurd rfl hz
  have HN3 := Lib.hid (HN2.out.trans hn)
  obtain ⟨g', off', rfl, _⟩ := hr.addr hn0
  have HR3 := Lib.hid hr
  clear hn s0 s1 s2 hr
  obtain ⟨w4, hw4⟩ : ∃ z, w3.alloc (.cells (sdc k b (some ⟨g', off', none⟩) n c') 30) = z := ⟨_, rfl⟩
  have HT : Hid (w4.heap[w3.heap.size]? = some (.cells (sdc k b (some ⟨g', off', none⟩) n c') 30 (0, 0))) := Lib.hid (by rw [← hw4]; exact heap_alloc_new w3 _)
  have HN4 : Hid (New wa w4) := Lib.hid (by rw [← hw4]; exact HN3.out.alloc _)
  have HR4 : Hid (QRow w4 (some ⟨g', off', none⟩) n c' LL) := Lib.hid (by rw [← hw4]; exact HR3.out.stay ((New.refl w3).alloc _))
  have HW4 := Lib.hid hw4
  obtain ⟨q4, hq4⟩ : ∃ z, w3.heap.size = z := ⟨_, rfl⟩
  rw [hq4] at HT
  have HQ4 := Lib.hid hq4
  clear hw4 hq4
  have hsb := (HN4.out.block _ (lt_of_block HB.out)).trans HB.out
  have s0 := cell_of_row _ _ 0 _ _ _ hsb
  have s1 := cell_of_row _ _ 1 _ _ _ hsb
  have s2 := cell_of_row _ _ 2 _ _ _ hsb
  clear hsb
  rw [← HW4.out] at s0 s1 s2
  go_wp2_with fail
  rw [HW4.out]
  refine (HM.out _ (HN.out.trans HN4.out)).mono ?_
  rintro e w5 ⟨rfl, hn⟩
  have HN5 := Lib.hid (HN4.out.trans hn)
  have HR5 := Lib.hid (HR4.out.stay hn)
  have HT5 := Lib.hid ((hn.block _ (lt_of_block HT.out)).trans HT.out)
  clear hn s0 s1 s2 HT
  have hsb := (HN5.out.block _ (lt_of_block HB.out)).trans HB.out
  have s0 := cell_of_row _ _ 0 _ _ _ hsb
  have s1 := cell_of_row _ _ 1 _ _ _ hsb
  have s2 := cell_of_row _ _ 2 _ _ _ hsb
  clear hsb
  have t0 := cell_of_row _ _ 0 _ _ _ HT5.out
  have t1 := cell_of_row _ _ 1 _ _ _ HT5.out
  have t2 := cell_of_row _ _ 2 _ _ _ HT5.out
  rw [HQ4.out]
  go_wp2_with fail
  refine (HCK.out _ _ _ HR5.out).mono ?_
  rintro e w6 ⟨rfl, hn⟩
  have HN6 := Lib.hid (HN5.out.trans hn)
  have HR6 := Lib.hid (HR5.out.stay hn)
  have HT6 := Lib.hid ((hn.block _ (lt_of_block HT5.out)).trans HT5.out)
  clear hn s0 s1 s2 t0 t1 t2 HT5
  go_wp2
  go_loopw [10, 82] (fun v iv wr => ∃ j : Nat, j ≤ nx ∧ iv = .int .i64 (j : Int) ∧ wr.ownsRow w6.heap.size 31 1 v j ((vlK f j).map fun y => .int .u64 (W64 y)) ∧ New w6 wr) (fun _ iv _ => nx - (intOf iv).toNat)
  case atStart => exact ⟨0, Nat.zero_le _, rfl, World.ownsRow_nil w6 _ _ 1, New.refl w6⟩
  case round =>
    obtain ⟨j, hj, rfl, hown, hnew⟩ := hrel
    have HOWN := Lib.hid hown
    have HNJ := Lib.hid hnew
    clear hown hnew
    by_cases hlt : (j : Int) < (nx : Int)
    · have hj0 : (0 : Int) ≤ (j : Int) := by omega
      have hjn : j < nx := by omega
      have hw := HN6.out.trans HNJ.out
      have d1 := (HX.out.stay (HN.out.trans hw)).cell px ox rfl j hjn
      have HE1' := Lib.hid (HE1.out j _ (HQ.out.stay (HN.out.trans hw)))
      have HE2' := Lib.hid (fun w' (hn : New w6 w') => HE2.out j hjn g' off' c' w' (HR6.out.stay hn))
      have HCY : Hid (∀ w', New w6 w' → w'.cell? ⟨py, oy + j, none⟩ = some (.int .u64 (W64 (yl.getD j 0)))) := Lib.hid (fun w' hn => (HY.out.stay (HN.out.trans (HN6.out.trans hn))).cell py oy rfl j hjn)
      have HSN := Lib.hid (vlK_snoc f j)
      obtain ⟨xv, hxv⟩ : ∃ xv, xl.getD j 0 = xv := ⟨_, rfl⟩
      obtain ⟨yv, hyv⟩ : ∃ yv, yl.getD j 0 = yv := ⟨_, rfl⟩
      rw [hxv] at d1 HE1' HE2'
      rw [hyv] at HE2' HCY
      obtain ⟨ev, hev⟩ : ∃ ev, f j = ev := ⟨_, rfl⟩
      rw [hev] at HE1' HSN
      obtain ⟨E1, hE1⟩ : ∃ z, eF k b l xv = z := ⟨_, rfl⟩
      rw [hE1] at HE1'
      obtain ⟨E2, hE2⟩ : ∃ z, eF k b LL xv = z := ⟨_, rfl⟩
      rw [hE2] at HE2'
      have hsb := (hw.block _ (lt_of_block HB.out)).trans HB.out
      have s0 := cell_of_row _ _ 0 _ _ _ hsb
      have s1 := cell_of_row _ _ 1 _ _ _ hsb
      have s2 := cell_of_row _ _ 2 _ _ _ hsb
      clear hsb
      have t0 := cell_of_row _ _ 0 _ _ _ ((HNJ.out.block _ (lt_of_block HT6.out)).trans HT6.out)
      clear t0 hxv hyv hev hw hE1 hE2
      go_wp2_with fail
      refine HE1'.out.mono ?_
      rintro e w7 ⟨rfl, n7⟩
      have HN7 := Lib.hid (HNJ.out.trans n7)
      have hown7 := ow_blkP HOWN.out (fun g' e => n7.block g' (ow_ltP HOWN.out g' e).2)
      have hle7 := HN7.out.le
      clear n7 d1 HE1' s0 s1 s2
      go_wp2_with (at_builtin; refine wpList_append_own _ rfl _ _ 28 rfl w6.heap.size 31 i0 (.int .u64 0) 1 8 Tryz.underlying28 hi hz0 hz1 hz2 rfl (by decide) _ j _ rfl (hown7.alloc _) ⟨w7.heap.size, 0, none⟩ 1 1 [.int .u64 (W64 ev)] rfl rfl ?c1 ?c2 ?c3 ?c4 ?c5 ?_)
      case c1 => exact new_cells_i w7 _ _
      case c2 => intro u hu; simp at hu; subst hu; rfl
      case c3 => unfold maxLen; omega
      case c4 => omega
      case c5 => simp; omega
      intro v' w8 how hgr _
      have hn8 : New w6 w8 := (HN7.out.alloc _).grown' hgr (own_base hown7)
      have HO8 : Hid (w8.ownsRow w6.heap.size 31 1 v' (j + 1) ((vlK f (j + 1)).map fun y => .int .u64 (W64 y))) := Lib.hid (by rw [HSN.out]; exact how)
      have HN8 := Lib.hid hn8
      have t0 := cell_of_row _ _ 0 _ _ _ ((hn8.block _ (lt_of_block HT6.out)).trans HT6.out)
      have t1 := cell_of_row _ _ 1 _ _ _ ((hn8.block _ (lt_of_block HT6.out)).trans HT6.out)
      have t2 := cell_of_row _ _ 2 _ _ _ ((hn8.block _ (lt_of_block HT6.out)).trans HT6.out)
      clear how hgr hn8 hown7
      go_wp2_with fail
      refine (HE2'.out _ HN8.out).mono ?_
      rintro e w9 ⟨rfl, n9⟩
      have HN9 := Lib.hid (HN8.out.trans n9)
      have HO9 := Lib.hid (ow_blkP HO8.out (fun g' e => n9.block g' (ow_ltP HO8.out g' e).2))
      have d3 := HCY.out _ HN9.out
      clear n9 HE2' HCY t0 t1 t2
      go_wp2
      exact ⟨⟨j + 1, by omega, by go_num, HO9.out, HN9.out⟩, by simp [intOf]; omega⟩
    · obtain rfl : j = nx := by omega
      obtain ⟨x7, c7, rfl, hq7⟩ := QRow.of_owns HOWN.out (by omega)
      have hw := HN6.out.trans HNJ.out
      have HBC := Lib.hid (HBK.out (some ⟨g', off', none⟩) x7 c' c7 _ (HR6.out.stay HNJ.out) (HX.out.stay (HN.out.trans hw)) hq7)
      have t0 := cell_of_row _ _ 0 _ _ _ ((HNJ.out.block _ (lt_of_block HT6.out)).trans HT6.out)
      have t1 := cell_of_row _ _ 1 _ _ _ ((HNJ.out.block _ (lt_of_block HT6.out)).trans HT6.out)
      have t2 := cell_of_row _ _ 2 _ _ _ ((HNJ.out.block _ (lt_of_block HT6.out)).trans HT6.out)
      have HW6 := Lib.hid hw
      clear hq7 HOWN hw
      go_wp2_with fail
      refine HBC.out.mono ?_
      rintro e w8 ⟨(⟨hz, _⟩ | ⟨_, a8, c8, rfl, hr⟩), hn⟩
      · exact absurd rfl hz
      have HN8 := Lib.hid (HW6.out.trans hn)
      have HR8 := Lib.hid hr
      clear hn hr t0 t1 t2
      obtain ⟨wz, hwz⟩ : ∃ z, w8.alloc (.cells (sdc k b a8 n c8) 30) = z := ⟨_, rfl⟩
      have HTZ : Hid (wz.heap[w8.heap.size]? = some (.cells (sdc k b a8 n c8) 30 (0, 0))) := Lib.hid (by rw [← hwz]; exact heap_alloc_new w8 _)
      have HNZ : Hid (New wa wz) := Lib.hid (by rw [← hwz]; exact HN8.out.alloc _)
      have HRZ : Hid (QRow wz a8 n c8 l) := Lib.hid (by rw [← hwz]; exact HR8.out.stay ((New.refl w8).alloc _))
      have HWZ := Lib.hid hwz
      have u2 := cell_of_row _ _ 2 _ _ _ HTZ.out
      have hsb := (HNZ.out.block _ (lt_of_block HB.out)).trans HB.out
      have s2 := cell_of_row _ _ 2 _ _ _ hsb
      rw [← HWZ.out] at u2 s2
      have hWD := words_ref a8 (some ⟨g, off, none⟩) n c8 n c l l wz wz HRZ.out (HQ.out.stay (HN.out.trans HNZ.out)) (New.refl wz)
      rw [beq_self_eq_true] at hWD
      have HWD := Lib.hid hWD
      clear hWD hwz hsb
      go_wp2_with fail
      rw [HWZ.out]
      refine HWD.out.mono ?_
      rintro e w9 ⟨rfl, hn, _⟩
      have HN9 := Lib.hid (HNZ.out.trans hn)
      clear hn u2 s2
      go_wp2
      go_ret
      exact ⟨rfl, HN.out.trans HN9.out⟩
theorem FamilyShifts_walk (W : World) (k0 b0 : Int) (rk0 : -9223372036854775808 ≤ k0 ∧ k0 ≤ 9223372036854775807) (rb0 : -9223372036854775808 ≤ b0 ∧ b0 ≤ 9223372036854775807) (a0 : Option Addr) (n0 m0 : Nat) (l0 : List (BitVec 64)) (w0 : QRow W a0 n0 m0 l0) (a1 : Option Addr) (n1 m1 : Nat) (z1 : List Int) (w1 : IRow .u64 W a1 n1 m1 z1) (r1 : m1 * 8 ≤ 140737488351232) (a2 : Option Addr) (n2 m2 : Nat) (z2 : List Int) (w2 : IRow .u64 W a2 n2 m2 z2) (r2 : m2 * 8 ≤ 140737488351232) :
    Calls Tryz.prog 6 #[.agg #[.int .i64 k0, .int .i64 b0, .slice a0 n0 m0], .slice a1 n1 m1, .slice a2 n2 m2] W fun e w' => e = .returned (.bool true) ∧ Below W.heap.size W w' := by
  obtain ⟨xl, hx⟩ := w1.words r1
  obtain ⟨yl, hy⟩ := w2.words r2
  obtain ⟨L, s1, s2⟩ := fshift_any k0 b0 a0 a1 a2 n0 m0 n1 m1 n2 m2 l0 xl yl W w0 hx hy
  have HM := Lib.hid (fun (w : World) (hn : New W w) => raimed_27 k0 b0 a0 n0 m0 l0 a1 n1 m1 xl a2 n2 m2 yl w (w0.stay hn) (hx.stay hn) (hy.stay hn))
  by_cases he : 12 < n1 ∧ n1 ≤ 64
  · exact shifts_early W k0 b0 a0 a1 a2 n0 m0 n1 m1 n2 m2 l0 xl yl w0 hx hy he.1 he.2
  by_cases h0 : amE k0 b0 l0 xl yl = 0
  · obtain ⟨hA, hB⟩ := s2 h0
    rw [h0] at s1 HM
    have h64 : n1 ≤ 64 := by
      obtain ⟨g1, g2, g3⟩ := hA.len
      have e1 := hx.len_eq
      have ht : tgK k0 l0.length ≤ 64 := by
        rcases okF_k (bits_of hA.ch).1 with rfl | rfl | rfl | rfl | rfl | rfl | rfl | rfl
        · have := (chkC_parts (chF_poly hA.ch)).2.1
          show (l0.length : Int) ≤ 64
          omega
        · have : tgK 2 l0.length = 0 := rfl
          omega
        · have : tgK 3 l0.length = 2 := rfl
          omega
        · have : tgK 4 l0.length = 2 := rfl
          omega
        · have : tgK 5 l0.length = 3 := rfl
          omega
        · have : tgK 6 l0.length = 3 := rfl
          omega
        · have : tgK 7 l0.length = 3 := rfl
          omega
        · have : tgK 8 l0.length = 0 := rfl
          omega
      omega
    exact shifts_good W k0 b0 a0 a1 a2 n0 m0 n1 m1 n2 m2 l0 xl yl w0 hx hy (by omega) L hA hB (Lib.hid s1) HM
  · exact shifts_bad W k0 b0 a0 a1 a2 n0 m0 n1 m1 n2 m2 l0 xl yl w0 hx hy (by omega) _ h0 L (Lib.hid s1) HM
end Go.Proofs.YtebcfbcfipmahaaGreat
