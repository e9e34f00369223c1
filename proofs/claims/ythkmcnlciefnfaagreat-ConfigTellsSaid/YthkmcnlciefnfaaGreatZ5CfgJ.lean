import Derived.Test.YthkmcnlciefnfaaGreatZ5CfgI
/- Layer 47: a config as bytes, by the document; the state of a source; no bytes of what may not be. -/
namespace Go.Proofs.YthkmcnlciefnfaaGreat
open Go Go.RowKit Go.Bv
set_option linter.unusedVariables false
set_option maxRecDepth 100000
theorem rstate_47 (t k b : Int) (h l : BitVec 64) (a : Option Addr) (n c : Nat) (x : List (BitVec 64)) (w : World) (hr : QRow w a n c x) (h0 : 0 < n) (hn4 : n ≤ 4) : Calls Tryz.prog 11 #[.agg (cfc t k b h l a n c)] w fun e w' => e = .returned (.agg (stc k (w4 x))) ∧ New w w' := by
  obtain ⟨hb1, hb2, hN⟩ := two_blocksK w (.cells (cfc t k b h l a n c) 34) (.cells #[.int .i64 0, .int .u64 0, .int .u64 0, .int .u64 0, .int .u64 0] 38)
  generalize hW : (w.alloc (.cells (cfc t k b h l a n c) 34)).alloc (.cells #[.int .i64 0, .int .u64 0, .int .u64 0, .int .u64 0, .int .u64 0] 38) = w0 at *
  have HB1 := Lib.hid hb1
  have HB2 := Lib.hid hb2
  have HN := Lib.hid hN
  clear hb1 hb2 hN
  have HST := Lib.hid (rst_47 t k b h l a n c x w0 (hr.stay HN.out) h0 hn4)
  obtain ⟨Q, hQ⟩ : ∃ z, w4 x = z := ⟨_, rfl⟩
  rw [hQ] at HST ⊢
  clear hr hQ
  have c0 := cell_of_row _ _ 0 _ _ _ HB1.out
  have c1 := cell_of_row _ _ 1 _ _ _ HB1.out
  have c2 := cell_of_row _ _ 2 _ _ _ HB1.out
  have c3 := cell_of_row _ _ 3 _ _ _ HB1.out
  have c4 := cell_of_row _ _ 4 _ _ _ HB1.out
  have c5 := cell_of_row _ _ 5 _ _ _ HB1.out
  go_enter Tryz.func11, Tryz.ntmps11
  go_wp2_with fail
  refine HST.out.mono ?_
  rintro e w1 ⟨rfl, hn⟩
  have HN1 := Lib.hid (HN.out.trans hn)
  have hz := (hn.block _ (lt_of_block HB2.out)).trans HB2.out
  have r0 := cell_of_row _ _ 0 _ _ _ hz
  have r1 := cell_of_row _ _ 1 _ _ _ hz
  have r2 := cell_of_row _ _ 2 _ _ _ hz
  have r3 := cell_of_row _ _ 3 _ _ _ hz
  have r4 := cell_of_row _ _ 4 _ _ _ hz
  have rf := fun i => frozen_of_row _ _ i _ _ hz
  have hp := put5_factsC (.int .i64 k) (.int .u64 (W64 Q.a)) (.int .u64 (W64 Q.b)) (.int .u64 (W64 Q.c)) (.int .u64 (W64 Q.d)) hz
  clear hn HST c0 c1 c2 c3 c4 c5
  go_wp2_with fail
  refine bodyPost_ret (by simp [results, Tryz.results11, go_sem, r0, r1, r2, r3, r4]; try rfl) rfl ?_
  exact ⟨rfl, hp.2.2 _ HN1.out (Nat.le_succ _)⟩

theorem enc_err (t k b : Int) (h l : BitVec 64) (a : Option Addr) (n c : Nat) (x : List (BitVec 64)) (w : World) (hr : QRow w a n c x) (he : cfE t k b h l x ≠ 0) : Calls Tryz.prog 6 #[.agg (cfc t k b h l a n c)] w fun e w' => e = .returned (.tuple #[.slice none 0 0, .int .i64 (cfE t k b h l x)]) ∧ New w w' := by
  generalize hW : w.alloc (.cells (cfc t k b h l a n c) 27) = w0
  have HB : Hid (w0.heap[w.heap.size]? = some (.cells (cfc t k b h l a n c) 27 (0, 0))) := Lib.hid (by rw [← hW]; exact heap_alloc_new w _)
  have HN : Hid (New w w0) := Lib.hid (by rw [← hW]; exact (New.refl w).alloc _)
  have HC := Lib.hid (ccheck_47 t k b h l a n c x w0 (hr.stay HN.out))
  have hne : (cfE t k b h l x != 0) = true := bne_iff_ne.2 he
  generalize cfE t k b h l x = E at *
  clear hr he
  have c0 := cell_of_row _ _ 0 _ _ _ HB.out
  have c1 := cell_of_row _ _ 1 _ _ _ HB.out
  have c2 := cell_of_row _ _ 2 _ _ _ HB.out
  have c3 := cell_of_row _ _ 3 _ _ _ HB.out
  have c4 := cell_of_row _ _ 4 _ _ _ HB.out
  have c5 := cell_of_row _ _ 5 _ _ _ HB.out
  go_enter Tryz.func6, Tryz.ntmps6
  go_wp2_with fail
  refine HC.out.mono ?_
  rintro e w1 ⟨rfl, hn⟩
  have HN1 := Lib.hid (HN.out.trans hn)
  clear hn HC c0 c1 c2 c3 c4 c5
  go_wp2
  go_ret2
  exact ⟨rfl, HN1.out⟩
theorem both_own (x y : Addr) (na ca nb cb : Nat) (la lb : List (BitVec 8)) (w : World) (ha : BRow w (some x) na ca la) (hb : BRow w (some y) nb cb lb) (hs : na + nb ≤ 140737488355328) :
    Calls Tryz.prog 29 #[.slice (some x) na ca, .slice (some y) nb cb] w fun e w' =>
      ∃ v, e = .returned v ∧ w'.ownsRow w.heap.size 5 1 v (na + nb) ((la ++ lb).map fun y => .int .u8 (W8 y)) ∧ New w w' := by
  obtain ⟨i0, hi, hz0, hz1, hz2⟩ := info_parts info_u8
  go_enter Tryz.func29, Tryz.ntmps29
  go_wp2_with (first | (at_builtin; refine wpList_append_own _ rfl (.tmp 6) (.tmp 7) 29 rfl w.heap.size 5 i0 (.int .u8 0) 1 1 Tryz.underlying29 hi hz0 hz1 hz2 rfl (by decide) _ 0 [] rfl (World.ownsRow_nil w _ _ 1) x na ca (la.map fun y => .int .u8 (W8 y)) rfl (row_len ha) (ha.olds x rfl) (row_one la) (by unfold maxLen; omega) (by omega) (Nat.le_refl _) ?_; intro v1 w1 how1 hgr1 _; have hn1 : New w w1 := (New.refl w).grown hgr1; have hb1 := hb.stay hn1; have hle1 := hn1.le) | (at_builtin; refine wpList_append_own _ rfl (.tmp 9) (.tmp 10) 29 rfl w.heap.size 5 i0 (.int .u8 0) 1 1 Tryz.underlying29 hi hz0 hz1 hz2 rfl (by decide) _ _ _ rfl how1 y nb cb (lb.map fun y => .int .u8 (W8 y)) rfl (row_len hb) (hb1.olds y rfl) (row_one lb) (by unfold maxLen; omega) (by omega) hle1 ?_; intro v2 w2 how2 hgr2 _))
  have hn2 : New w w2 := hn1.grown' hgr2 (own_base how1)
  go_ret
  exact ⟨_, rfl, by rw [List.map_append]; simpa using how2, hn2⟩
set_option maxHeartbeats 8000000 in
theorem rbytes_47 (t k b : Int) (h l : BitVec 64) (a : Option Addr) (n c : Nat) (x : List (BitVec 64)) (w : World) (hr : QRow w a n c x) (ht : 0 ≤ t ∧ t < 256) (hk : 0 ≤ k ∧ k < 256) (hb : 0 ≤ b ∧ b < 256) (hn4 : n ≤ 4096) : Calls Tryz.prog 13 #[.agg (cfc t k b h l a n c)] w fun e w' => (∃ a' c', e = .returned (.slice a' (28 + 8 * n : Nat) c') ∧ BRow w' a' (28 + 8 * n) c' (seal16 (enH t k b h l n ++ wB x n))) ∧ New w w' := by
  obtain ⟨i0, hi, hz0, hz1, hz2⟩ := info_parts info_u8
  have W1 := small8 ht
  have W2 := small8 hk
  have W3 := small8 hb
  generalize hW : w.alloc (.cells (cfc t k b h l a n c) 34) = w0
  have HB : Hid (w0.heap[w.heap.size]? = some (.cells (cfc t k b h l a n c) 34 (0, 0))) := Lib.hid (by rw [← hW]; exact heap_alloc_new w _)
  have HN : Hid (New w w0) := Lib.hid (by rw [← hW]; exact (New.refl w).alloc _)
  have HR := Lib.hid (four_row t k b)
  rw [W1, W2, W3] at HR
  have HROW := Lib.hid (hr.stay HN.out)
  have HBX := Lib.hid (fun (w' : World) (hn : New w0 w') => (hn.block _ (lt_of_block HB.out)).trans HB.out)
  have HN64 : Hid (IntKind.u64.wrap (n : Int) = (n : Int)) := Lib.hid (by simp [IntKind.wrap, IntKind.bits, IntKind.signed]; omega)
  have HNB : Hid (bytes (BitVec.ofInt 64 (n : Int)) 4 = bytes (BitVec.ofNat 64 n) 4) := Lib.hid rfl
  have v1 : IntKind.u8.wrap t = t := by have := ht; simp [IntKind.wrap, IntKind.bits, IntKind.signed]; omega
  have v2 : IntKind.u8.wrap k = k := by have := hk; simp [IntKind.wrap, IntKind.bits, IntKind.signed]; omega
  have v3 : IntKind.u8.wrap b = b := by have := hb; simp [IntKind.wrap, IntKind.bits, IntKind.signed]; omega
  obtain ⟨L4, hL4⟩ : ∃ z, [99#8, BitVec.ofInt 8 t, BitVec.ofInt 8 k, BitVec.ofInt 8 b] = z := ⟨_, rfl⟩
  have HEN : Hid (enH t k b h l n = ((L4 ++ bytes l 8) ++ bytes h 8) ++ bytes (BitVec.ofNat 64 n) 4) := Lib.hid (by unfold enH; rw [hL4])
  rw [hL4] at HR
  obtain ⟨L12, hL12⟩ : ∃ z, L4 ++ bytes l 8 = z := ⟨_, rfl⟩
  obtain ⟨L20, hL20⟩ : ∃ z, L12 ++ bytes h 8 = z := ⟨_, rfl⟩
  rw [hL12, hL20] at HEN
  have HL12 := Lib.hid hL12
  have HL20 := Lib.hid hL20
  clear hL12 hL20
  clear W1 W2 W3 ht hk hb hr hL4
  have HBL : Hid (∀ (y : BitVec 64) (w' : World), Calls Tryz.prog 30 #[.int .u64 (W64 y), .int .i64 8] w' fun e w'' => ∃ a' cap', e = .returned (.slice a' (8 : Nat) cap') ∧ BRow w'' a' 8 cap' (bytes y 8) ∧ New w' w'' ∧ New w' w'') := Lib.hid (fun y w' => by
    have := bytes_ref (W64 y) (w64_rngC y) 8 (by omega) w' w' (New.refl _)
    rw [ofInt_W64] at this
    exact this)
  obtain ⟨w2, hw2⟩ : ∃ z, w0.alloc (.cells #[.int .u8 99, .int .u8 t, .int .u8 k, .int .u8 b] 5) = z := ⟨_, rfl⟩
  have HN2 : Hid (New w0 w2) := Lib.hid (by rw [← hw2]; exact (New.refl w0).alloc _)
  have HR1 := Lib.hid (HR.out w0)
  rw [hw2] at HR1
  have HW2 := Lib.hid hw2
  obtain ⟨q2, hq2⟩ : ∃ z, w0.heap.size = z := ⟨_, rfl⟩
  rw [hq2] at HR1
  have HQ2 := Lib.hid hq2
  have d0 := cell_of_row _ _ 0 _ _ _ (HBX.out _ HN2.out)
  have d1 := cell_of_row _ _ 1 _ _ _ (HBX.out _ HN2.out)
  have d2 := cell_of_row _ _ 2 _ _ _ (HBX.out _ HN2.out)
  have d3 := cell_of_row _ _ 3 _ _ _ (HBX.out _ HN2.out)
  have d4 := cell_of_row _ _ 4 _ _ _ (HBX.out _ HN2.out)
  have d5 := cell_of_row _ _ 5 _ _ _ (HBX.out _ HN2.out)
  rw [← hw2] at d0 d1 d2 d3 d4 d5
  clear hw2 hq2
  have c0 := cell_of_row _ _ 0 _ _ _ HB.out
  have c1 := cell_of_row _ _ 1 _ _ _ HB.out
  have c2 := cell_of_row _ _ 2 _ _ _ HB.out
  have c3 := cell_of_row _ _ 3 _ _ _ HB.out
  have c4 := cell_of_row _ _ 4 _ _ _ HB.out
  have c5 := cell_of_row _ _ 5 _ _ _ HB.out
  go_enter Tryz.func13, Tryz.ntmps13
  go_wp2_with fail
  rw [HW2.out, HQ2.out]
  refine (HBL.out l _).mono ?_
  rintro e w3 ⟨a3, c3', rfl, hr3, hn3, _⟩
  have HN3 := Lib.hid (HN2.out.trans hn3)
  have HR3 := Lib.hid hr3
  have HR13 := Lib.hid (HR1.out.stay hn3)
  have HBO1 := Lib.hid (both_ref (some ⟨q2, 0, none⟩) a3 4 4 8 c3' L4 (bytes l 8) w3 w3 HR13.out HR3.out (by omega) (New.refl _))
  rw [HL12.out] at HBO1
  clear hr3 hn3 d0 d1 d2 d3 d4 d5
  go_wp2_with fail
  refine HBO1.out.mono ?_
  rintro e w4 ⟨a4, c4', rfl, hr4, hn4', _⟩
  have HN4 := Lib.hid (HN3.out.trans hn4')
  have HR4 := Lib.hid hr4
  clear hr4 hn4' HBO1
  have d0 := cell_of_row _ _ 0 _ _ _ (HBX.out _ HN4.out)
  have d1 := cell_of_row _ _ 1 _ _ _ (HBX.out _ HN4.out)
  have d2 := cell_of_row _ _ 2 _ _ _ (HBX.out _ HN4.out)
  have d3 := cell_of_row _ _ 3 _ _ _ (HBX.out _ HN4.out)
  have d4 := cell_of_row _ _ 4 _ _ _ (HBX.out _ HN4.out)
  have d5 := cell_of_row _ _ 5 _ _ _ (HBX.out _ HN4.out)
  go_wp2_with fail
  refine (HBL.out h _).mono ?_
  rintro e w5 ⟨a5, c5', rfl, hr5, hn5, _⟩
  have HN5 := Lib.hid (HN4.out.trans hn5)
  have HR5 := Lib.hid hr5
  have HR45 := Lib.hid (HR4.out.stay hn5)
  have HBO2 := Lib.hid (both_ref a4 a5 12 c4' 8 c5' L12 (bytes h 8) w5 w5 HR45.out HR5.out (by omega) (New.refl _))
  rw [HL20.out] at HBO2
  clear hr5 hn5 d0 d1 d2 d3 d4 d5
  go_wp2_with fail
  refine HBO2.out.mono ?_
  rintro e w6 ⟨a6, c6', rfl, hr6, hn6, _⟩
  have HN6 := Lib.hid (HN5.out.trans hn6)
  obtain ⟨p6, o6, rfl, _⟩ := hr6.addr (by omega)
  have HR6 := Lib.hid hr6
  clear hr6 hn6 HBO2
  have d0 := cell_of_row _ _ 0 _ _ _ (HBX.out _ HN6.out)
  have d1 := cell_of_row _ _ 1 _ _ _ (HBX.out _ HN6.out)
  have d2 := cell_of_row _ _ 2 _ _ _ (HBX.out _ HN6.out)
  have d3 := cell_of_row _ _ 3 _ _ _ (HBX.out _ HN6.out)
  have d4 := cell_of_row _ _ 4 _ _ _ (HBX.out _ HN6.out)
  have d5 := cell_of_row _ _ 5 _ _ _ (HBX.out _ HN6.out)
  have hwn := HN64.out
  have HB4 := Lib.hid (bytes_ref (n : Int) (by omega) 4 (by omega) w6 w6 (New.refl _))
  rw [HNB.out] at HB4
  go_wp2_with fail
  refine HB4.out.mono ?_
  rintro e w7 ⟨a7, c7', rfl, hr7, hn7, _⟩
  have HN7 := Lib.hid (HN6.out.trans hn7)
  obtain ⟨p7, o7, rfl, _⟩ := hr7.addr (by omega)
  have HR7 := Lib.hid hr7
  have HR67 := Lib.hid (HR6.out.stay hn7)
  have HBO3 := Lib.hid (both_own ⟨p6, o6, none⟩ ⟨p7, o7, none⟩ 20 c6' 4 c7' L20 (bytes (BitVec.ofNat 64 n) 4) w7 HR67.out HR7.out (by omega))
  rw [← HEN.out] at HBO3
  obtain ⟨B0, hB0⟩ : ∃ z, w7.heap.size = z := ⟨_, rfl⟩
  rw [hB0] at HBO3
  have HB0 : Hid (w0.heap.size ≤ B0) := Lib.hid (by rw [← hB0]; exact HN7.out.le)
  clear hr7 hn7 hwn HB4 hB0 d0 d1 d2 d3 d4 d5
  go_wp2_with fail
  refine HBO3.out.mono ?_
  rintro e w5 ⟨v5, rfl, how5, hn5⟩
  have HN5 := Lib.hid (HN7.out.trans hn5)
  have HO5 := Lib.hid how5
  clear how5 hn5 HBO3
  have d0 := cell_of_row _ _ 0 _ _ _ (HBX.out _ HN5.out)
  have d1 := cell_of_row _ _ 1 _ _ _ (HBX.out _ HN5.out)
  have d2 := cell_of_row _ _ 2 _ _ _ (HBX.out _ HN5.out)
  have d3 := cell_of_row _ _ 3 _ _ _ (HBX.out _ HN5.out)
  have d4 := cell_of_row _ _ 4 _ _ _ (HBX.out _ HN5.out)
  have d5 := cell_of_row _ _ 5 _ _ _ (HBX.out _ HN5.out)
  go_wp2_with fail
  clear d0 d1 d2 d3 d4 d5 c0 c1 c2 c3 c4 c5
  go_loopw [3, 38] (fun v iv wr => ∃ j : Nat, j ≤ n ∧ iv = .int .i64 (j : Int) ∧ wr.ownsRow B0 5 1 v (24 + 8 * j) ((enH t k b h l n ++ wB x j).map fun y => .int .u8 (W8 y)) ∧ New w0 wr) (fun _ iv _ => n - (intOf iv).toNat)
  case atStart => exact ⟨0, Nat.zero_le _, rfl, by have := HO5.out; rw [wB, List.append_nil]; exact this, HN5.out⟩
  case round =>
    obtain ⟨j, hj, rfl, hown, hnew⟩ := hrel
    have HOWN := Lib.hid hown
    have HNJ := Lib.hid hnew
    clear hown hnew
    by_cases hlt : (j : Int) < (n : Int)
    · have hj0 : (0 : Int) ≤ (j : Int) := by omega
      have hjn : j < n := by omega
      obtain ⟨p, o, rfl, _⟩ := HROW.out.addr (by omega)
      have d1 := (HROW.out.stay HNJ.out).cell p o rfl j hjn
      have HSN : Hid (wB x (j + 1) = wB x j ++ bytes (x.getD j 0) 8) := Lib.hid rfl
      obtain ⟨xv, hxv⟩ : ∃ xv, x.getD j 0 = xv := ⟨_, rfl⟩
      rw [hxv] at d1 HSN
      have HP := Lib.hid (bytes_ref (W64 xv) (w64_rngC xv) 8 (by omega) wr wr (New.refl _))
      rw [ofInt_W64] at HP
      clear hxv
      go_wp2_with fail
      refine HP.out.mono ?_
      rintro e w6 ⟨a6, c6, rfl, hr6, n6, _⟩
      have HN6 := Lib.hid (HNJ.out.trans n6)
      have hown6 := ow_blkB HOWN.out (fun g' e => n6.block g' (ow_ltB HOWN.out g' e).2)
      have HB6 := Lib.hid (own_leB hown6 (by omega))
      obtain ⟨p6, o6, rfl, _⟩ := hr6.addr (by omega)
      have HR6 := Lib.hid hr6
      clear n6 d1 HP hr6
      go_wp2_with (at_builtin; refine wpList_append_own _ rfl _ _ 29 rfl B0 5 i0 (.int .u8 0) 1 1 Tryz.underlying29 hi hz0 hz1 hz2 rfl (by decide) _ (24 + 8 * j) _ rfl hown6 ⟨p6, o6, none⟩ 8 c6 ((bytes xv 8).map fun y => .int .u8 (W8 y)) rfl ?c1 ?c2 ?c3 ?c4 ?c5 ?c6 ?_)
      case c1 => rw [List.length_map, bytes_len]
      case c2 => exact HR6.out.olds _ rfl
      case c3 => intro u hu; obtain ⟨y, _, rfl⟩ := List.mem_map.1 hu; rfl
      case c4 => unfold maxLen; omega
      case c5 => omega
      case c6 => exact HB6.out
      intro v' w7 how hgr _
      have hn7 : New w0 w7 := HN6.out.grown' hgr (fun g e => Nat.le_trans HB0.out (own_base hown6 g e))
      have HO7 : Hid (w7.ownsRow B0 5 1 v' (24 + 8 * (j + 1)) ((enH t k b h l n ++ wB x (j + 1)).map fun y => .int .u8 (W8 y))) := Lib.hid (by rw [HSN.out, ← List.append_assoc, List.map_append]; exact how)
      have HN7 := Lib.hid hn7
      clear how hgr hn7 hown6
      go_wp2
      exact ⟨⟨j + 1, by omega, by go_num, HO7.out, HN7.out⟩, by simp [intOf]; omega⟩
    · obtain rfl : j = n := by omega
      obtain ⟨a7, c7, rfl, hr7⟩ := BRow.of_owns HOWN.out (by omega)
      have HSL := Lib.hid (seal_ref16 a7 (24 + 8 * j) c7 _ wr hr7 (by omega))
      clear hr7 HOWN
      go_wp2_with fail
      refine HSL.out.mono ?_
      rintro e w8 ⟨a8, c8, rfl, hr8, n8⟩
      have HR8 := Lib.hid hr8
      have HN8 := Lib.hid (HN.out.trans (HNJ.out.trans n8))
      clear hr8 n8 HSL
      go_wp2
      go_ret
      have e4 : 24 + 8 * j + 4 = 28 + 8 * j := by omega
      have hrr := HR8.out
      rw [e4] at hrr
      exact ⟨⟨a8, c8, by rw [← e4] <;> (try rfl) <;> (try simp <;> try omega), hrr⟩, HN8.out⟩
end Go.Proofs.YthkmcnlciefnfaaGreat
