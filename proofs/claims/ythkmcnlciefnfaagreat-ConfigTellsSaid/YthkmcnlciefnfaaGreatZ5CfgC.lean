import Derived.Test.YthkmcnlciefnfaaGreatZ5CfgB
import Derived.Test.YthkmcnlciefnfaaGreatZ5SeaM
import Derived.Test.YthkmcnlciefnfaaGreatZ5Grow
import Derived.Laws.OwnMore
/- Layer 47: the chapter's example; configs of sources; configs held against each other. -/
namespace Go.Bv
open Go Go.RowKit
def SVc (n : Nat) (v : Value) : Prop := ∃ a c, v = .slice a n c
def SRc (l : List (BitVec 8)) (n : Nat) (v : Value) (w : World) : Prop := ∀ a c, v = .slice a n c → BRow w a n c l
theorem SVc.some (n : Nat) : ∃ v, SVc n v := ⟨.slice none n 0, none, 0, rfl⟩
theorem SRc.stay {l : List (BitVec 8)} {n : Nat} {v : Value} {w w' : World} (h : SRc l n v w) (hn : New w w') : SRc l n v w' := fun a c e => (h a c e).stay hn
theorem SRc.row {l : List (BitVec 8)} {n c : Nat} {a : Option Addr} {w : World} (h : SRc l n (.slice a n c) w) : BRow w a n c l := h a c rfl
end Go.Bv
namespace Go.Proofs.YthkmcnlciefnfaaGreat
open Go Go.RowKit Go.Bv
set_option linter.unusedVariables false
set_option maxRecDepth 100000
theorem four_row (t k b : Int) (w : World) : BRow (w.alloc (.cells #[.int .u8 99, .int .u8 (W8 (BitVec.ofInt 8 t)), .int .u8 (W8 (BitVec.ofInt 8 k)), .int .u8 (W8 (BitVec.ofInt 8 b))] 5)) (some ⟨w.heap.size, 0, none⟩) 4 4 [99#8, BitVec.ofInt 8 t, BitVec.ofInt 8 k, BitVec.ofInt 8 b] :=
  let ⟨a, c, e, h⟩ := BRow.of_owns (l := [99#8, BitVec.ofInt 8 t, BitVec.ofInt 8 k, BitVec.ofInt 8 b]) (World.ownsRow_lit (base := w.heap.size) (e := 5) (size := 1) w #[.int .u8 99, .int .u8 (W8 (BitVec.ofInt 8 t)), .int .u8 (W8 (BitVec.ofInt 8 k)), .int .u8 (W8 (BitVec.ofInt 8 b))] 4 (Nat.le_refl _) (by decide) rfl) (by omega)
  by cases e; exact h
/-- the bytes ahead of the words -/
def enH (t k b : Int) (h l : BitVec 64) (n : Nat) : List (BitVec 8) := (([99#8, BitVec.ofInt 8 t, BitVec.ofInt 8 k, BitVec.ofInt 8 b] ++ bytes l 8) ++ bytes h 8) ++ bytes (BitVec.ofNat 64 n) 4
theorem enH_len (t k b : Int) (h l : BitVec 64) (n : Nat) : (enH t k b h l n).length = 24 := by
  unfold enH
  rw [List.length_append, List.length_append, List.length_append, bytes_len, bytes_len, bytes_len]; rfl
theorem small8 {k : Int} (h : 0 ≤ k ∧ k < 256) : W8 (BitVec.ofInt 8 k) = k := by unfold W8; rw [BitVec.toNat_ofInt]; omega
theorem w64_rngC (x : BitVec 64) : 0 ≤ W64 x ∧ W64 x < 18446744073709551616 := by unfold W64; have := x.isLt; omega
theorem num4 {n : Nat} (h : n < 4294967296) : bytes ((BitVec.ofInt 32 (n : Int)).setWidth 64) 4 = bytes (BitVec.ofNat 64 n) 4 := by
  have e : (BitVec.ofInt 32 (n : Int)).setWidth 64 = BitVec.ofNat 64 n := by
    apply BitVec.eq_of_toNat_eq
    rw [BitVec.toNat_setWidth, BitVec.toNat_ofInt, BitVec.toNat_ofNat]
    omega
  rw [e]
set_option maxHeartbeats 1000000 in
theorem put32_own (a : Option Addr) (len cap : Nat) (l : List (BitVec 8)) (x : Int) (hx : 0 ≤ x ∧ x < 4294967296) (w : World) (h : BRow w a len cap l) (hb : len + 4 ≤ 140737488355328) :
    Calls Tryz.prog 19 #[.slice a len cap, .int .u32 x] w fun e w' =>
      ∃ v base, e = .returned v ∧ w.heap.size ≤ base ∧ w'.ownsRow base 5 1 v (len + 4) ((l ++ bytes ((BitVec.ofInt 32 x).setWidth 64) 4).map fun y => .int .u8 (W8 y)) ∧ New w w' := by
  obtain ⟨x, rfl⟩ := ex32 x hx
  rw [ofInt_W32]
  obtain ⟨i0, hi, hz0, hz1, hz2⟩ := info_parts info_u8
  go_enter Tryz.func19, Tryz.ntmps19
  go_wp2_with fail
  refine (closed_any a len cap l w h).mono ?_
  rintro e w' ⟨rfl, rfl⟩
  have hn : New w' (w'.alloc (.cells #[.int .u8 (W8 (x.setWidth 8)), .int .u8 (W8 ((x >>> 8).setWidth 8)), .int .u8 (W8 ((x >>> 16).setWidth 8)), .int .u8 (W8 ((x >>> 24).setWidth 8))] 5)) := (New.refl w').alloc _
  have hb2 := h.stay hn
  go_wp2_with (at_builtin; refine wpList_append_grows _ rfl _ _ 29 rfl 5 i0 (.int .u8 0) 1 1 Tryz.underlying29 hi hz0 hz1 hz2 rfl (by decide) a len len (l.map fun y => .int .u8 (W8 y)) rfl ?c1 ?c2 ?c3 ⟨w'.heap.size, 0, none⟩ 4 4 ((bytes (x.setWidth 64) 4).map fun y => .int .u8 (W8 y)) rfl ?c4 ?c5 ?c6 (by omega) ?c7 (by omega) ?c8)
  case c1 => exact fun e => ⟨(h.none e).1, (h.none e).1⟩
  case c2 => rw [List.length_map, h.len_eq, Nat.mul_one]
  case c3 => exact fun b e => hb2.olds b e
  case c4 => rw [List.length_map, bytes_len]
  case c5 => intro j u hj; rw [← put4] at hj; exact new_cells w' _ _ j u hj
  case c6 => intro u hu; obtain ⟨y, _, rfl⟩ := List.mem_map.1 hu; rfl
  case c7 => unfold maxLen; omega
  case c8 =>
    intro v' w1 how hgr
    rw [← List.map_append] at how
    go_wp2
    go_ret
    exact ⟨_, _, rfl, by simp, how, hn.grown hgr⟩
/-- so many words as bytes -/
def wB (x : List (BitVec 64)) : Nat → List (BitVec 8)
  | 0 => []
  | j + 1 => wB x j ++ bytes (x.getD j 0) 8
theorem ow_ltB {w : World} {b : Nat} {v : Value} {n : Nat} {l : List Value} {T : TypeId} (h : w.ownsRow b T 1 v n l) (g : Nat) (e : v.ownBlock = some g) : b ≤ g ∧ g < w.heap.size := by
  rcases h with ⟨hl, h⟩
  rcases h with ⟨rfl, _⟩ | ⟨g', cap, cur, rfl, hb, hc, _⟩
  · cases e
  · cases e; exact ⟨hb, lt_of_block hc⟩
theorem ow_blkB {w w' : World} {base size : Nat} {e : TypeId} {v : Value} {n : Nat} {xs : List Value} (h : w.ownsRow base e size v n xs) (hb : ∀ g, v.ownBlock = some g → w'.heap[g]? = w.heap[g]?) : w'.ownsRow base e size v n xs := by
  refine ⟨h.1, ?_⟩
  rcases h.2 with h2 | ⟨g, cap, cur, rfl, hg, hc, rest⟩
  · exact .inl h2
  · exact .inr ⟨g, cap, cur, rfl, hg, (hb g rfl).trans hc, rest⟩
theorem own_leB {w : World} {b : Nat} {v : Value} {n : Nat} {l : List Value} {T : TypeId} (h : w.ownsRow b T 1 v n l) (hn : 0 < n) : b ≤ w.heap.size := by
  rcases h with ⟨hl, h⟩
  rcases h with ⟨rfl, rfl⟩ | ⟨g', cap, cur, rfl, hb, hc, _⟩
  · omega
  · have := lt_of_block hc
    omega
set_option maxHeartbeats 8000000 in
theorem enc_ok (t k b : Int) (h l : BitVec 64) (a : Option Addr) (n c : Nat) (x : List (BitVec 64)) (w : World) (hr : QRow w a n c x) (he : cfE t k b h l x = 0) (ht : 0 ≤ t ∧ t < 256) (hk : 0 ≤ k ∧ k < 256) (hb : 0 ≤ b ∧ b < 256) (hn4 : n ≤ 4096) : Calls Tryz.prog 6 #[.agg (cfc t k b h l a n c)] w fun e w' => (∃ a' c', e = .returned (.tuple #[.slice a' (28 + 8 * n : Nat) c', .int .i64 0]) ∧ BRow w' a' (28 + 8 * n) c' (seal16 (enH t k b h l n ++ wB x n))) ∧ New w w' := by
  obtain ⟨i0, hi, hz0, hz1, hz2⟩ := info_parts info_u8
  have W1 := small8 ht
  have W2 := small8 hk
  have W3 := small8 hb
  generalize hW : w.alloc (.cells (cfc t k b h l a n c) 27) = w0
  have HB : Hid (w0.heap[w.heap.size]? = some (.cells (cfc t k b h l a n c) 27 (0, 0))) := Lib.hid (by rw [← hW]; exact heap_alloc_new w _)
  have HN : Hid (New w w0) := Lib.hid (by rw [← hW]; exact (New.refl w).alloc _)
  have HC := Lib.hid (ccheck_47 t k b h l a n c x w0 (hr.stay HN.out))
  rw [he] at HC
  have HR := Lib.hid (four_row t k b)
  rw [W1, W2, W3] at HR
  have HROW := Lib.hid (hr.stay HN.out)
  have HBX := Lib.hid (fun (w' : World) (hn : New w0 w') => (hn.block _ (lt_of_block HB.out)).trans HB.out)
  have HLN := Lib.hid (enH_len t k b h l n)
  have HN4 := Lib.hid (num4 (n := n) (by omega))
  have HN32 : Hid (IntKind.u32.wrap (n : Int) = (n : Int)) := Lib.hid (by simp [IntKind.wrap, IntKind.bits, IntKind.signed]; omega)
  have v1 : IntKind.u8.wrap t = t := by have := ht; simp [IntKind.wrap, IntKind.bits, IntKind.signed]; omega
  have v2 : IntKind.u8.wrap k = k := by have := hk; simp [IntKind.wrap, IntKind.bits, IntKind.signed]; omega
  have v3 : IntKind.u8.wrap b = b := by have := hb; simp [IntKind.wrap, IntKind.bits, IntKind.signed]; omega
  obtain ⟨L4, hL4⟩ : ∃ z, [99#8, BitVec.ofInt 8 t, BitVec.ofInt 8 k, BitVec.ofInt 8 b] = z := ⟨_, rfl⟩
  have HEN : Hid (enH t k b h l n = ((L4 ++ bytes l 8) ++ bytes h 8) ++ bytes (BitVec.ofNat 64 n) 4) := Lib.hid (by unfold enH; rw [hL4])
  rw [hL4] at HR
  obtain ⟨L12, hL12⟩ : ∃ z, L4 ++ bytes l 8 = z := ⟨_, rfl⟩
  obtain ⟨L20, hL20⟩ : ∃ z, L12 ++ bytes h 8 = z := ⟨_, rfl⟩
  rw [hL12, hL20] at HEN
  have HL12 := Lib.hid hL12
  have HL20 := Lib.hid hL20
  clear hL12 hL20
  clear he W1 W2 W3 ht hk hb hr hL4
  have c0 := cell_of_row _ _ 0 _ _ _ HB.out
  have c1 := cell_of_row _ _ 1 _ _ _ HB.out
  have c2 := cell_of_row _ _ 2 _ _ _ HB.out
  have c3 := cell_of_row _ _ 3 _ _ _ HB.out
  have c4 := cell_of_row _ _ 4 _ _ _ HB.out
  have c5 := cell_of_row _ _ 5 _ _ _ HB.out
  go_enter Tryz.func6, Tryz.ntmps6
  go_wp2_with fail
  refine HC.out.mono ?_
  rintro e w1 ⟨rfl, hn⟩
  have HN1 := Lib.hid hn
  have HR1 := Lib.hid (HR.out w1)
  clear hn HC c0 c1 c2 c3 c4 c5 HR
  have c0 := cell_of_row _ _ 0 _ _ _ (HBX.out _ HN1.out)
  have c1 := cell_of_row _ _ 1 _ _ _ (HBX.out _ HN1.out)
  have c2 := cell_of_row _ _ 2 _ _ _ (HBX.out _ HN1.out)
  have c3 := cell_of_row _ _ 3 _ _ _ (HBX.out _ HN1.out)
  have c4 := cell_of_row _ _ 4 _ _ _ (HBX.out _ HN1.out)
  have c5 := cell_of_row _ _ 5 _ _ _ (HBX.out _ HN1.out)
  obtain ⟨w2, hw2⟩ : ∃ z, w1.alloc (.cells #[.int .u8 99, .int .u8 t, .int .u8 k, .int .u8 b] 5) = z := ⟨_, rfl⟩
  have HN2 : Hid (New w0 w2) := Lib.hid (by rw [← hw2]; exact HN1.out.alloc _)
  rw [hw2] at HR1
  have HW2 := Lib.hid hw2
  clear hw2
  obtain ⟨q2, hq2⟩ : ∃ z, w1.heap.size = z := ⟨_, rfl⟩
  rw [hq2] at HR1
  have HQ2 := Lib.hid hq2
  clear hq2
  have HP1 : Hid (∀ w', New w2 w' → Calls Tryz.prog 18 #[.slice (some ⟨q2, 0, none⟩) 4 4, .int .u64 (W64 l)] w' fun e w'' => ∃ v, e = .returned v ∧ (SVc 12 v ∧ SRc L12 12 v w'') ∧ New w' w'') := Lib.hid (fun w' hn => by
    rw [← HL12.out]
    have := put64_any (some ⟨q2, 0, none⟩) 4 4 L4 (W64 l) (w64_rngC l) w' w' (HR1.out.stay hn) (by omega) (New.refl _)
    rw [ofInt_W64] at this
    exact this.mono fun e w'' ⟨a', c', he, hrr, hn', _⟩ => ⟨_, he, ⟨⟨a', c', rfl⟩, fun a2 c2 e2 => by cases e2; exact hrr⟩, hn'⟩)
  have HP2 : Hid (∀ (a' : Option Addr) (c' : Nat) w', BRow w' a' 12 c' L12 → Calls Tryz.prog 18 #[.slice a' 12 c', .int .u64 (W64 h)] w' fun e w'' => ∃ v, e = .returned v ∧ (SVc 20 v ∧ SRc L20 20 v w'') ∧ New w' w'') := Lib.hid (fun a' c' w' hrr => by
    rw [← HL20.out]
    have := put64_any a' 12 c' _ (W64 h) (w64_rngC h) w' w' hrr (by omega) (New.refl _)
    rw [ofInt_W64] at this
    exact this.mono fun e w'' ⟨a', c', he, hrr, hn', _⟩ => ⟨_, he, ⟨⟨a', c', rfl⟩, fun a2 c2 e2 => by cases e2; exact hrr⟩, hn'⟩)
  go_wp2_with fail
  rw [HW2.out, HQ2.out]
  refine Grow.wp_region_growS (fun w' => w'.heap[w.heap.size]? = some (.cells (cfc t k b h l a n c) 27 (0, 0)) ∧ New w2 w') (fun k => [4, 8].contains k) (by kernel_rfl) (by kernel_rfl) (by kernel_rfl) ⟨HBX.out _ (HN2.out.trans (New.refl _).drew), (New.refl _).drew⟩ ?_
  intro I _ f hall hback
  have HALL := Lib.hid hall
  have HSTEP : Hid (∀ n w', New (f n) w' → ∃ m, w' = f m) := Lib.hid fun n w' hn => hback w' ⟨(hn.block _ (lt_of_block (hall n).1)).trans (hall n).1, (hall n).2.trans hn⟩
  have s0 := fun n => cell_of_row _ _ 0 _ _ _ (hall n).1
  have s1 := fun n => cell_of_row _ _ 1 _ _ _ (hall n).1
  have s2 := fun n => cell_of_row _ _ 2 _ _ _ (hall n).1
  have s3 := fun n => cell_of_row _ _ 3 _ _ _ (hall n).1
  have s4 := fun n => cell_of_row _ _ 4 _ _ _ (hall n).1
  have s5 := fun n => cell_of_row _ _ 5 _ _ _ (hall n).1
  clear hall hback
  refine Grow.wpGrow_take 4 (by kernel_rfl) ?_
  simp only [List.take, List.drop, List.length]
  repeat (go_big_quiet_step (fail))
  refine wpQuiet_nil ?_
  refine Grow.wpGrow_call (SVc 12) (SRc L12 12) rfl rfl (SVc.some _) (fun w1 hB hG => ?_) (fun v1 A1 hv1 hA => ?_)
  · obtain ⟨n, rfl⟩ := hB
    go_simp
    refine (HP1.out _ (HALL.out n).2).mono ?_
    rintro e w2 ⟨v, rfl, hv, hn⟩
    obtain ⟨hva, hvb⟩ := hv
    exact ⟨_, rfl, HSTEP.out _ _ hn, hva, hvb⟩
  simp [Act.put] at hA
  subst hA
  obtain ⟨a1, c1', rfl⟩ := hv1
  refine Grow.wpGrow_take 3 (by kernel_rfl) ?_
  simp only [List.take, List.drop, List.length]
  repeat (go_big_quiet_step (fail))
  refine wpQuiet_nil ?_
  refine Grow.wpGrow_call (SVc 20) (SRc L20 20) rfl rfl (SVc.some _) (fun w1 hB hG => ?_) (fun v2 A2 hv2 hA => ?_)
  · obtain ⟨n, rfl⟩ := hB
    go_simp
    refine (HP2.out _ _ _ hG.2.row).mono ?_
    rintro e w2 ⟨v, rfl, hv, hn⟩
    obtain ⟨hva, hvb⟩ := hv
    exact ⟨_, rfl, HSTEP.out _ _ hn, hva, ⟨hG.2.stay hn, hvb⟩⟩
  simp [Act.put] at hA
  subst hA
  obtain ⟨a2, c2', rfl⟩ := hv2
  refine Grow.wpGrow_take 1 (by kernel_rfl) ?_
  simp only [List.take, List.drop, List.length]
  repeat (go_big_quiet_step (fail))
  refine wpQuiet_nil ?_
  refine Grow.wpGrow_nil ?_
  rintro w9 ⟨n9, rfl⟩ hG
  have HR9 := Lib.hid hG.2.row
  have HN9 := Lib.hid (HN2.out.trans (HALL.out n9).2)
  clear HALL HSTEP s0 s1 s2 s3 s4 s5 hG
  generalize f n9 = w9 at *
  clear c0 c1 c2 c3 c4 c5
  have c0 := cell_of_row _ _ 0 _ _ _ (HBX.out _ HN9.out)
  have c1 := cell_of_row _ _ 1 _ _ _ (HBX.out _ HN9.out)
  have c2 := cell_of_row _ _ 2 _ _ _ (HBX.out _ HN9.out)
  have c3 := cell_of_row _ _ 3 _ _ _ (HBX.out _ HN9.out)
  have c4 := cell_of_row _ _ 4 _ _ _ (HBX.out _ HN9.out)
  have c5 := cell_of_row _ _ 5 _ _ _ (HBX.out _ HN9.out)
  have hwn := HN32.out
  have HP4 := Lib.hid (put32_own a2 20 c2' L20 (n : Int) (by omega) w9 HR9.out (by omega))
  rw [HN4.out, ← HEN.out] at HP4
  go_wp2_with fail
  refine HP4.out.mono ?_
  rintro e w5 ⟨v5, B0, rfl, hB0, how5, hn5⟩
  have HN5 := Lib.hid (HN9.out.trans hn5)
  have HO5 := Lib.hid how5
  have HB0 := Lib.hid (Nat.le_trans HN9.out.le hB0)
  clear hB0 how5 hn5 hwn HP4 c0 c1 c2 c3 c4 c5
  have c0 := cell_of_row _ _ 0 _ _ _ (HBX.out _ HN5.out)
  have c1 := cell_of_row _ _ 1 _ _ _ (HBX.out _ HN5.out)
  have c2 := cell_of_row _ _ 2 _ _ _ (HBX.out _ HN5.out)
  have c3 := cell_of_row _ _ 3 _ _ _ (HBX.out _ HN5.out)
  have c4 := cell_of_row _ _ 4 _ _ _ (HBX.out _ HN5.out)
  have c5 := cell_of_row _ _ 5 _ _ _ (HBX.out _ HN5.out)
  go_wp2_with fail
  clear c0 c1 c2 c3 c4 c5 v1 v2 v3
  go_loopw [5, 41] (fun v iv wr => ∃ j : Nat, j ≤ n ∧ iv = .int .i64 (j : Int) ∧ wr.ownsRow B0 5 1 v (24 + 8 * j) ((enH t k b h l n ++ wB x j).map fun y => .int .u8 (W8 y)) ∧ New w0 wr) (fun _ iv _ => n - (intOf iv).toNat)
  case atStart => exact ⟨0, Nat.zero_le _, rfl, by have := HO5.out; rw [wB, List.append_nil]; exact this, HN5.out⟩
  case round =>
    obtain ⟨j, hj, rfl, hown, hnew⟩ := hrel
    have HOWN := Lib.hid hown
    have HNJ := Lib.hid hnew
    clear hown hnew
    by_cases hlt : (j : Int) < (n : Int)
    · have hj0 : (0 : Int) ≤ (j : Int) := by omega
      have hjn : j < n := by omega
      obtain ⟨p, o, rfl, _⟩ := HROW.out.addr (by omega)
      have d1 := (HROW.out.stay HNJ.out).cell p o rfl j hjn
      have HSN : Hid (wB x (j + 1) = wB x j ++ bytes (x.getD j 0) 8) := Lib.hid rfl
      obtain ⟨xv, hxv⟩ : ∃ xv, x.getD j 0 = xv := ⟨_, rfl⟩
      rw [hxv] at d1 HSN
      have HP := Lib.hid (put64_any none 0 0 [] (W64 xv) (w64_rngC xv) wr wr ⟨rfl, Nat.le_refl _, by omega, by omega, fun _ => ⟨rfl, rfl⟩, (fun _ _ e => by cases e), (fun _ e => by cases e), (fun _ e => by cases e)⟩ (by omega) (New.refl _))
      rw [ofInt_W64] at HP
      clear hxv
      go_wp2_with fail
      refine HP.out.mono ?_
      rintro e w6 ⟨a6, c6, rfl, hr6, n6, _⟩
      have HN6 := Lib.hid (HNJ.out.trans n6)
      have hown6 := ow_blkB HOWN.out (fun g' e => n6.block g' (ow_ltB HOWN.out g' e).2)
      have HB6 := Lib.hid (own_leB hown6 (by omega))
      obtain ⟨p6, o6, rfl, _⟩ := hr6.addr (by omega)
      have HR6 := Lib.hid hr6
      clear n6 d1 HP hr6
      go_wp2_with (at_builtin; refine wpList_append_own _ rfl _ _ 29 rfl B0 5 i0 (.int .u8 0) 1 1 Tryz.underlying29 hi hz0 hz1 hz2 rfl (by decide) _ (24 + 8 * j) _ rfl hown6 ⟨p6, o6, none⟩ 8 c6 ((bytes xv 8).map fun y => .int .u8 (W8 y)) rfl ?c1 ?c2 ?c3 ?c4 ?c5 ?c6 ?_)
      case c1 => rw [List.length_map, bytes_len]
      case c2 => exact HR6.out.olds _ rfl
      case c3 => intro u hu; obtain ⟨y, _, rfl⟩ := List.mem_map.1 hu; rfl
      case c4 => unfold maxLen; omega
      case c5 => omega
      case c6 => exact HB6.out
      intro v' w7 how hgr _
      have hn7 : New w0 w7 := HN6.out.grown' hgr (fun g e => Nat.le_trans HB0.out (own_base hown6 g e))
      have HO7 : Hid (w7.ownsRow B0 5 1 v' (24 + 8 * (j + 1)) ((enH t k b h l n ++ wB x (j + 1)).map fun y => .int .u8 (W8 y))) := Lib.hid (by rw [HSN.out, ← List.append_assoc, List.map_append]; exact how)
      have HN7 := Lib.hid hn7
      clear how hgr hn7 hown6
      go_wp2
      exact ⟨⟨j + 1, by omega, by go_num, HO7.out, HN7.out⟩, by simp [intOf]; omega⟩
    · obtain rfl : j = n := by omega
      obtain ⟨a7, c7, rfl, hr7⟩ := BRow.of_owns HOWN.out (by omega)
      have HSL := Lib.hid (seal_16 a7 (24 + 8 * j) c7 _ wr hr7 (by omega))
      clear hr7 HOWN
      go_wp2_with fail
      refine HSL.out.mono ?_
      rintro e w8 ⟨a8, c8, rfl, hr8, n8⟩
      have HR8 := Lib.hid hr8
      have HN8 := Lib.hid (HN.out.trans (HNJ.out.trans n8))
      clear hr8 n8 HSL
      go_wp2
      go_ret2
      have e4 : 24 + 8 * j + 4 = 28 + 8 * j := by omega
      have hrr := HR8.out
      rw [e4] at hrr
      exact ⟨⟨a8, c8, by rw [← e4] <;> (try rfl) <;> (try simp <;> try omega), hrr⟩, HN8.out⟩
end Go.Proofs.YthkmcnlciefnfaaGreat
