/- shuffle.Take. -/
import Derived.Test.YtopepchfaomdoaaDrwB
import Derived.Maps.AppendAt
namespace Go.Bv
open Go Go.RowKit
theorem But2.more {b g : Nat} {w u v : World} (h : But2 b g w u) {row : Option Nat} (k : u.grownBy v row) (hr : ∀ x, row = some x → w.heap.size ≤ x) : But2 b g w v where
  size := Nat.le_trans h.size k.size
  block := fun i hi hb hg => (k.block i (Nat.lt_of_lt_of_le hi h.size) (fun e => by have := hr i e.symm; omega)).trans (h.block i hi hb hg)
  new := fun W h2 hb hg => (h.new W h2 hb hg).grown' k (fun x e => by have := hr x e; have := h2.le; omega)
end Go.Bv
namespace Go.Proofs.Ytopepchfaomdoaa
open Go Go.RowKit Go.Bv
set_option linter.unusedVariables false
theorem Tape.more {w v : World} {b g : Nat} {l : List (BitVec 64)} {k : Nat} (h : Tape w b g l k) {row : Option Nat} (hg : w.grownBy v row) (hr : ∀ x, row = some x → b < x ∧ x ≠ g) : Tape v b g l k := by
  have hlt := h.lt
  obtain ⟨c, vv, a, cap, h⟩ := h
  have ho : ∀ j, j < w.heap.size → (j ≤ b ∨ j = g) → v.heap[j]? = w.heap[j]? := fun j hj hjb => hg.block j hj (fun e => by
    have := hr j e.symm
    rcases hjb with e2 | e2 <;> omega)
  refine ⟨c, vv, a, cap, (ho b hlt.1 (.inl (Nat.le_refl _))).trans h.box, (ho c (lt_of_block h.cell) (.inl (by have := h.low.1; omega))).trans h.cell, h.cb, QRow.held h.words hg.size (fun y e h0 => ho _ (h.words.old y e h0) (.inl (by have := h.low.2 y e h0; omega))), h.wb, h.le, own_words h.taken _ (fun g' e => ho _ (h.taken.lt g' e).2 (.inr (h.own g' e).1)), h.own, h.nil, h.low⟩
theorem cdF_step {n r : Nat} {ds : List Drw} {d : Drw} (hr : n - 1 - ds.length = r) (hl : ds.length < n - 1) : liI (cdF n (ds ++ [d])) n = (liI (cdF n ds) n).set r ((d.1.toNat : Nat) : Int) := by
  rw [liI_set _ _ (by omega)]
  apply liI_ext
  intro x hx
  unfold cdF
  rw [List.length_append]
  by_cases e : x = r
  · subst e
    rw [if_pos rfl, if_pos (by simp; omega), List.getD_eq_getElem?_getD, List.getElem?_append_right (by omega), show n - 1 - x - ds.length = 0 by omega]
    rfl
  · rw [if_neg e]
    by_cases e2 : n - 1 - x < ds.length
    · rw [if_pos e2, if_pos (by omega), List.getD_eq_getElem?_getD, List.getElem?_append_left e2, ← List.getD_eq_getElem?_getD]
    · rw [if_neg e2, if_neg (by simp; omega)]
theorem cdF_zero (n : Nat) : liI (cdF n []) n = liI (fun _ => 0) n := liI_ext (fun x _ => by unfold cdF; rw [if_neg (by simp)])
set_option maxRecDepth 100000 in
set_option maxHeartbeats 8000000 in
theorem take40_q (b g0 n : Nat) (l : List (BitVec 64)) (w : World) (ht : Tape w b g0 l 0) (hn : n ≤ 256) :
    Calls Try.prog 20 #[.pointer (some ⟨b, 0, none⟩), .int .i64 (n : Int)] w fun e w' => (∃ ds k a1 c1 a2 c2, drS l (lmL n) (n - 1) = some (ds, k) ∧ e = .returned (.tuple #[.slice a1 (n : Nat) c1, .slice a2 (n - 1 : Nat) c2, .int .i64 0]) ∧ ZRow w' a1 n c1 (pmI (liI (cdF n ds) n)) ∧ KRow w' a2 (n - 1) c2 ds ∧ After w w' b g0 l k) ∨ (drS l (lmL n) (n - 1) = none ∧ e = .returned (.tuple #[.slice none 0 0, .slice none 0 0, .int .i64 7]) ∧ After w w' b g0 l l.length) := by
  obtain ⟨i0, hi, hz0, hz1, hz2⟩ := info_parts info_drw
  have HMK := Lib.hid (make_int n (by omega))
  have HBL : Hid (b < w.heap.size ∧ g0 < w.heap.size) := Lib.hid ht.lt
  have HT0 := Lib.hid (ht.stay ((New.refl w).alloc (.cells (madeCells #[.int .i64 0] n) 3)))
  have hneg : ¬ (n : Int) < 0 := by omega
  have hbig : ¬ (256 : Int) < (n : Int) := by omega
  clear ht
  go_enter Try.func20, Try.ntmps20
  go_wp2_with fail
  rw [HMK.out _ _ rfl]
  go_wp2_with fail
  go_loopw [8, 9] (fun dv iv wr => ∃ (q : Nat) (z : Int) (ds : List Drw) (k g : Nat), q ≤ n - 1 ∧ iv = .int .i64 z ∧ Hid (z = (n : Int) - 1 - (q : Int)) ∧ Hid (drS l (lmL n) q = some (ds, k)) ∧ wr.ownsRow w.heap.size 3 1 (.slice (some ⟨w.heap.size, 0, none⟩) n n) n ((liI (cdF n ds) n).map fun x => .int .i64 x) ∧ wr.ownsRow w.heap.size 59 3 dv q (drCs ds) ∧ Tape wr b g l k ∧ But2 b g0 w wr ∧ Hid ((g = g0 ∨ w.heap.size ≤ g) ∧ w.heap.size ≠ g ∧ ∀ x, dv.ownBlock = some x → x ≠ g ∧ x ≠ w.heap.size)) (fun _ iv _ => (intOf iv).toNat)
  case atStart => exact ⟨0, _, [], 0, g0, Nat.zero_le _, rfl, Lib.hid (by omega), Lib.hid rfl, ow_made w _ _ _ n _ (Nat.le_refl _) (by omega) (by rw [made_toList, zeros_li, cdF_zero]) (by rw [List.length_map, liI_len]), World.ownsRow_nil _ _ _ 3, HT0.out, But2.of_new ((New.refl w).alloc _), Lib.hid ⟨.inl rfl, by have := HBL.out.2; omega, fun x hx => by cases hx⟩⟩
  case round =>
    clear HT0 HMK
    obtain ⟨q, z, ds, k, g, hq, rfl, HZ, HS, ho1, ho2, ht, hb2, HG⟩ := hrel
    have HO1 := Lib.hid ho1
    have HO2 := Lib.hid ho2
    have HT := Lib.hid ht
    have HB := Lib.hid hb2
    obtain ⟨wq, hwq⟩ : ∃ z, z = wr := ⟨_, rfl⟩
    rw [← hwq] at HO1 HO2 HT HB ⊢
    clear ho1 ho2 ht hb2 hwq
    have hdl := (drS_len HS.out).1
    by_cases hlt : q < n - 1
    · obtain ⟨r, hr⟩ : ∃ r, n - 1 - q = r := ⟨_, rfl⟩
      obtain rfl : z = (r : Int) := by have := HZ.out; omega
      have hr0 : (0 : Int) < (r : Int) := by omega
      obtain ⟨s, hs⟩ : ∃ s, r + 1 = s := ⟨_, rfl⟩
      have hs1 : (r : Int) + 1 = (s : Int) := by omega
      have hgl : (lmL n).getD q 0 = BitVec.ofNat 64 s := by rw [lmL_get hlt, show n - q = s by omega]
      obtain ⟨hs0, hsn⟩ := ofNat_pos (r := s) (by omega) (by omega)
      have HX := Lib.hid (fun j h1 h2 h3 h4 => drS_next (j := j) HS.out h1 h2 h3 h4)
      have HF := Lib.hid (fun h3 => drS_few HS.out (drS_len HS.out).2 h3)
      rw [hgl] at HX HF
      have HTK : Hid (∀ x : BitVec 64, takO x (BitVec.ofNat 64 s) = takN x (BitVec.ofNat 64 s)) := Lib.hid (fun x => if_neg hs0)
      have HTL : Hid (∀ x : BitVec 64, (telN x (BitVec.ofNat 64 s)).toNat < s) := Lib.hid (fun x => by have := tel_lt x _ hs0; rwa [hsn] at this)
      have HC := Lib.hid (take_l b g l k (BitVec.ofNat 64 s) hs0 wq HT.out)
      have HDL := Lib.hid hdl
      clear hgl hs0 hsn hdl
      obtain ⟨lim, hlim⟩ : ∃ z, BitVec.ofNat 64 s = z := ⟨_, rfl⟩
      rw [hlim] at HX HF HTK HTL HC
      have HWQ : Hid (w.heap.size < wq.heap.size) := Lib.hid (by have := (ow_in HO1.out).2.1; exact this)
      go_wp2_with fail
      refine (HC.out).mono ?_
      rintro e w8 (⟨j, h1, h2, h3, h4, rfl, g', ht8, hb8, hg8⟩ | ⟨h3, rfl, g', ht8, hb8, hg8⟩)
      · have HD := Lib.hid (HX.out j h1 h2 (fun i a b => by rw [HTK.out]; exact h3 i a b) (by rw [HTK.out]; exact h4))
        have HDW : Hid (drw l lim k j = (telN (l.getD j 0) lim, rnkN (l.getD j 0) lim, j + 1 - k)) := Lib.hid rfl
        have hxl := HTL.out (l.getD j 0)
        obtain ⟨x, hx⟩ : ∃ z, telN (l.getD j 0) lim = z := ⟨_, rfl⟩
        obtain ⟨y, hy⟩ : ∃ z, rnkN (l.getD j 0) lim = z := ⟨_, rfl⟩
        obtain ⟨u, hu⟩ : ∃ z, j + 1 - k = z := ⟨_, rfl⟩
        rw [hx] at hxl
        rw [hx, hy, hu] at HDW ⊢
        rw [HDW.out] at HD
        obtain ⟨t, htx⟩ : ∃ t, x.toNat = t := ⟨_, rfl⟩
        rw [htx] at hxl
        have hx1 : wrap64 (W64 x) = (t : Int) := by unfold W64 wrap64; omega
        have HCS : Hid (liI (cdF n (ds ++ [(x, y, u)])) n = (liI (cdF n ds) n).set r ((t : Nat) : Int)) := Lib.hid (by
          rw [cdF_step (r := r) (by rw [HDL.out]; exact hr) (by rw [HDL.out]; exact hlt)]
          show (liI (cdF n ds) n).set r ((x.toNat : Nat) : Int) = _
          rw [htx])
        clear hx hy hu HDW HX HF HTK HTL HC h1 h2 h3 h4
        have hgl := HG.out
        have hwq := HWQ.out
        have hb0 := HBL.out.1
        have hgne : w.heap.size ≠ g' := by rcases hg8 with e | e <;> omega
        have o1 := ow_blk HO1.out (w' := w8) (fun z hz => by
          have e : w.heap.size = z := by simpa [Value.ownBlock] using hz
          subst e
          exact hb8.block _ hwq (by omega) hgl.2.1)
        have o2 := ow_blk HO2.out (w' := w8) (fun z hz => by
          have h9 := ow_lt HO2.out z hz
          exact hb8.block z h9.2 (by omega) (hgl.2.2 z hz).1)
        have hdg : ∀ z, u8.ownBlock = some z → z ≠ g' ∧ z ≠ w.heap.size := fun z hz => by
          have h9 := ow_lt HO2.out z hz
          have h8 := hgl.2.2 z hz
          refine ⟨?_, h8.2⟩
          rcases hg8 with e | e <;> omega
        have hbs := HB.out.step hgl.1 hb8
        have hrn : r < n := by omega
        have O1 : Hid (((w8.setCell ⟨w.heap.size, r, none⟩ (.int .i64 (t : Nat))).alloc (.cells #[.int .u64 (W64 x), .int .u64 (W64 y), .int .i64 (u : Int)] 59)).ownsRow w.heap.size 3 1 (.slice (some ⟨w.heap.size, 0, none⟩) n n) n ((liI (cdF n (ds ++ [(x, y, u)])) n).map fun x => .int .i64 x)) := Lib.hid (by
          rw [HCS.out, List.map_set]; exact ow_new (ow_set o1 r _) ((New.refl _).alloc _))
        have O2 : Hid (((w8.setCell ⟨w.heap.size, r, none⟩ (.int .i64 (t : Nat))).alloc (.cells #[.int .u64 (W64 x), .int .u64 (W64 y), .int .i64 (u : Int)] 59)).ownsRow w.heap.size 59 3 u8 q (drCs ds)) := Lib.hid (ow_new (ow_far3 o2 (fun e => (hdg _ e).2 rfl) _) ((New.refl _).alloc _))
        have TT : Hid (Tape ((w8.setCell ⟨w.heap.size, r, none⟩ (.int .i64 (t : Nat))).alloc (.cells #[.int .u64 (W64 x), .int .u64 (W64 y), .int .i64 (u : Int)] 59)) b g' l (j + 1)) := Lib.hid ((ht8.put (r := w.heap.size) hb0 hgne r _).stay ((New.refl _).alloc _))
        have BB : Hid (But2 b g0 w ((w8.setCell ⟨w.heap.size, r, none⟩ (.int .i64 (t : Nat))).alloc (.cells #[.int .u64 (W64 x), .int .u64 (W64 y), .int .i64 (u : Int)] 59))) := Lib.hid ((hbs.fresh (p := ⟨w.heap.size, r, none⟩) (Nat.le_refl _) _).then ((New.refl _).alloc _))
        have GG : Hid ((g' = g0 ∨ w.heap.size ≤ g') ∧ w.heap.size ≠ g' ∧ ∀ z, u8.ownBlock = some z → z ≠ g' ∧ z ≠ w.heap.size) := Lib.hid ⟨by rcases hg8 with e | e <;> rcases hgl.1 with e2 | e2 <;> omega, hgne, hdg⟩
        have hsz8 : w.heap.size < w8.heap.size := by have := hb8.size; omega
        have hS : (w8.setCell ⟨w.heap.size, r, none⟩ (.int .i64 (t : Nat))).heap.size = w8.heap.size := size_set _ _ _
        have hb1 := heap_alloc_new (w8.setCell ⟨w.heap.size, r, none⟩ (.int .i64 (t : Nat))) (.cells #[.int .u64 (W64 x), .int .u64 (W64 y), .int .i64 (u : Int)] 59)
        rw [hS] at hb1
        have d0 : ((w8.setCell ⟨w.heap.size, r, none⟩ (.int .i64 (t : Nat))).alloc (.cells #[.int .u64 (W64 x), .int .u64 (W64 y), .int .i64 (u : Int)] 59)).cell? ⟨w8.heap.size, 0, none⟩ = some (.int .u64 (W64 x)) := cell_of_row _ _ 0 _ _ _ hb1
        have d1 : ((w8.setCell ⟨w.heap.size, r, none⟩ (.int .i64 (t : Nat))).alloc (.cells #[.int .u64 (W64 x), .int .u64 (W64 y), .int .i64 (u : Int)] 59)).cell? ⟨w8.heap.size, 1, none⟩ = some (.int .u64 (W64 y)) := cell_of_row _ _ 1 _ _ _ hb1
        have d2 : ((w8.setCell ⟨w.heap.size, r, none⟩ (.int .i64 (t : Nat))).alloc (.cells #[.int .u64 (W64 x), .int .u64 (W64 y), .int .i64 (u : Int)] 59)).cell? ⟨w8.heap.size, 2, none⟩ = some (.int .i64 (u : Int)) := cell_of_row _ _ 2 _ _ _ hb1
        obtain ⟨c1, f1⟩ := ow_int (ow_new o1 ((New.refl w8).alloc (.cells #[.int .u64 (W64 x), .int .u64 (W64 y), .int .i64 (u : Int)] 59))) (k := r) hrn
        have hr00 : (0 : Int) ≤ (r : Int) := by omega
        have hrn1 : (r : Int) < (n : Int) := by omega
        have hne8 : ¬ w8.heap.size = w.heap.size := by omega
        have hne9 : ¬ w.heap.size = w8.heap.size := by omega
        clear hb1 o1 o2 hbs ht8 hb8 hgl hg8 htx HT HO1 HB
        go_wp2_with (at_builtin; refine wpList_append_own_at _ rfl _ _ 35 rfl w.heap.size 59 i0 (.agg #[.int .u64 0, .int .u64 0, .int .i64 0]) 3 24 Try.underlying35 hi hz0 hz1 hz2 rfl (by decide) _ q _ rfl (O2.out.alloc _) ⟨w8.heap.size + 1, 0, none⟩ 1 1 (drC (x, y, u)) rfl rfl ?c1 ?c2 ?c3 ?c4 ?c5 ?_)
        try (case c1 =>
          have h9 := drw_cells ((w8.setCell ⟨w.heap.size, r, none⟩ (.int .i64 (t : Nat))).alloc (.cells #[.int .u64 (W64 x), .int .u64 (W64 y), .int .i64 (u : Int)] 59)) x y u 59
          rw [show ((w8.setCell ⟨w.heap.size, r, none⟩ (.int .i64 (t : Nat))).alloc (.cells #[.int .u64 (W64 x), .int .u64 (W64 y), .int .i64 (u : Int)] 59)).heap.size = w8.heap.size + 1 by simp] at h9
          exact h9)
        try (case c2 => exact drw_one x y u)
        try (case c3 => unfold maxLen; omega)
        try (case c4 => omega)
        try (case c5 => simp; omega)
        intro v' w1 how hgr _ hob
        have HO3 : Hid (w1.ownsRow w.heap.size 59 3 v' (q + 1) (drCs (ds ++ [(x, y, u)]))) := Lib.hid (by
          rw [drCs_snoc]; exact how)
        have hlw := ow_lt O2.out
        have hsw : (((w8.setCell ⟨w.heap.size, r, none⟩ (.int .i64 (t : Nat))).alloc (.cells #[.int .u64 (W64 x), .int .u64 (W64 y), .int .i64 (u : Int)] 59)).alloc (.cells #[.int .u64 (W64 x), .int .u64 (W64 y), .int .i64 (u : Int)] 59)).heap.size = w8.heap.size + 2 := by simp
        have HO4 : Hid (w1.ownsRow w.heap.size 3 1 (.slice (some ⟨w.heap.size, 0, none⟩) n n) n ((liI (cdF n (ds ++ [(x, y, u)])) n).map fun x => .int .i64 x)) := Lib.hid (ow_blk (ow_new O1.out ((New.refl _).alloc (.cells #[.int .u64 (W64 x), .int .u64 (W64 y), .int .i64 (u : Int)] 59))) (fun z hz => by
          have e : w.heap.size = z := by simpa [Value.ownBlock] using hz
          subst e
          exact hgr.block _ (by rw [hsw]; omega) (fun e' => (hdg _ e'.symm).2 rfl)))
        have HT2 : Hid (Tape w1 b g' l (j + 1)) := Lib.hid ((TT.out.stay ((New.refl _).alloc (.cells #[.int .u64 (W64 x), .int .u64 (W64 y), .int .i64 (u : Int)] 59))).more hgr (fun z hz => ⟨by have := (hlw z hz).1; omega, (hdg z hz).1⟩))
        have HB3 : Hid (But2 b g0 w w1) := Lib.hid ((BB.out.then ((New.refl _).alloc (.cells #[.int .u64 (W64 x), .int .u64 (W64 y), .int .i64 (u : Int)] 59))).more hgr (fun z hz => (hlw z hz).1))
        have hgl2 := TT.out.lt.2
        have hsw2 : ((w8.setCell ⟨w.heap.size, r, none⟩ (.int .i64 (t : Nat))).alloc (.cells #[.int .u64 (W64 x), .int .u64 (W64 y), .int .i64 (u : Int)] 59)).heap.size = w8.heap.size + 1 := by simp
        rw [hsw2] at hgl2
        have HG3 : Hid ((g' = g0 ∨ w.heap.size ≤ g') ∧ w.heap.size ≠ g' ∧ ∀ z, v'.ownBlock = some z → z ≠ g' ∧ z ≠ w.heap.size) := Lib.hid ⟨GG.out.1, hgne, fun z hz => by
          rcases hob with e | e
          · exact hdg z (e ▸ hz)
          · rw [e] at hz
            have e2 : w8.heap.size + 2 = z := by simpa using hz
            omega⟩
        have HZ2 : Hid ((r : Int) - 1 = (n : Int) - 1 - ((q + 1 : Nat) : Int)) := Lib.hid (by have := HZ.out; omega)
        clear how hgr hob O1 O2 TT BB GG hlw hsw hsw2 hgl2 hdg d0 d1 d2 c1 f1 hS HCS
        go_wp2
        exact ⟨⟨q + 1, _, _, _, g', by omega, rfl, HZ2, HD, HO4.out, HO3.out, HT2.out, HB3.out, HG3⟩, by simp [intOf]; omega⟩
      · have HD := Lib.hid (HF.out (fun i a b => by rw [HTK.out]; exact h3 i a b))
        have HNO : Hid (drS l (lmL n) (n - 1) = none) := Lib.hid (by
          have := drS_none HD.out (n - 1 - (q + 1))
          rw [show q + 1 + (n - 1 - (q + 1)) = n - 1 by omega] at this
          exact this)
        have HAF : Hid (After w (w8.alloc (.cells #[.int .u64 0, .int .u64 0, .int .i64 0] 59)) b g0 l l.length) := Lib.hid ⟨g', ht8.stay ((New.refl _).alloc _), (HB.out.step HG.out.1 hb8).then ((New.refl _).alloc _), by
          have h9 := HG.out.1
          have h8 := HWQ.out
          rcases hg8 with e | e <;> rcases h9 with e2 | e2 <;> omega⟩
        clear HX HF HTK HTL HC h3 ht8 hb8 hg8
        go_wp2
        go_ret3
        exact .inr ⟨HNO.out, rfl, HAF.out⟩
    · obtain rfl : q = n - 1 := by omega
      have hz0' : ¬ (0 : Int) < z := by have := HZ.out; omega
      have HRT := Lib.hid (cdF_rt (by omega) HS.out)
      obtain ⟨a1, c1, he, hz⟩ := ZRow.of_owns HO1.out (by omega) (in64_li _ (fun x hx => by
        have := HRT.out x (by rw [liI_len]; exact hx)
        rw [liI_get _ hx] at this
        omega))
      cases he
      obtain ⟨a2, c2, rfl, hk⟩ := KRow.of_owns HO2.out (by omega)
      have HPM := Lib.hid (perm_ok _ _ _ _ wq hz HRT.out (by omega))
      have HK := Lib.hid hk
      have HIN : Hid (∀ z ∈ pmI (liI (cdF n ds) n), In64 z) := Lib.hid (by
        have h2 := rtI_F HRT.out
        unfold pmI
        rw [liI_len] at h2 ⊢
        exact in64_li _ (fun x hx => by have := st_lt h2 n (Nat.le_refl _) x hx; omega))
      clear hz hk hdl
      go_wp2_with fail
      refine (HPM.out).mono ?_
      rintro e w8 ⟨gp, rfl, how, hnw⟩
      obtain ⟨a3, c3, he, hz⟩ := ZRow.of_owns how (by omega) HIN.out
      cases he
      have HZR := Lib.hid hz
      replace HK := Lib.hid (HK.out.stay hnw)
      have HAF : Hid (After w w8 b g0 l k) := Lib.hid ⟨g, HT.out.stay hnw, HB.out.then hnw, HG.out.1⟩
      clear how hz hnw HPM
      go_wp2
      go_ret3
      exact .inl ⟨ds, k, _, _, _, _, HS.out, rfl, HZR.out, HK.out, HAF.out⟩
end Go.Proofs.Ytopepchfaomdoaa
