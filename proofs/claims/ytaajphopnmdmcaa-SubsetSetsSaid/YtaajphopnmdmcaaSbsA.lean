/- subset.Pick and subset.Take: the pick is a row of one's own. -/
import Derived.Test.YtaajphopnmdmcaaSubF
namespace Go.Proofs.Ytaajphopnmdmcaa
open Go Go.RowKit Go.Bv
set_option linter.unusedVariables false
set_option maxRecDepth 100000 in
set_option maxHeartbeats 4000000 in
theorem pick_own (n : Nat) (hn : n ≤ 256) (a : Option Addr) (m c : Nat) (l : List Int) (w : World) (h : ZRow w a m c l) (hl : rp2 n l) :
    Calls Try.prog 9 #[.int .i64 (n : Int), .slice a m c] w fun e w' => ∃ g, e = .returned (.tuple #[.slice (some ⟨g, 0, none⟩) (m : Nat) (m : Nat), .int .i64 0]) ∧ w'.ownsRow w.heap.size 3 1 (.slice (some ⟨g, 0, none⟩) n n) n ((liI (s2 (JF l) m) n).map fun x => .int .i64 x) ∧ New w w' := by
  have HL := Lib.hid h.len_eq
  have HH := Lib.hid h
  have HR := Lib.hid hl
  have HF := Lib.hid (rp2_F hl)
  rw [HL.out] at HF
  have hmn : m ≤ n := by have := hl.1; rw [HL.out] at this; exact this
  have HS := Lib.hid (fun w => sorted_41 n w (by omega))
  have HZ : Hid (szE (n : Int) (m : Int) = 0) := Lib.hid (if_neg (by omega))
  have HSZ := Lib.hid (fun w => sizes_41 (n : Int) (m : Int) w)
  rw [HZ.out] at HSZ
  clear h hl HZ
  go_enter Try.func9, Try.ntmps9
  go_wp2_with fail
  refine (HSZ.out _).mono ?_
  rintro e w' ⟨rfl, hw⟩
  replace hw := hw.symm
  subst hw
  go_wp2_with fail
  go_loop [21] (fun i => ∃ k : Nat, k ≤ m ∧ i = .int .i64 (k : Int)) (fun i => m - (intOf i).toNat)
  case atStart => exact ⟨0, Nat.zero_le _, rfl⟩
  case round =>
    obtain ⟨k, hk, rfl⟩ := hrel
    by_cases hlt : (k : Int) < (m : Int)
    · obtain ⟨b, off, rfl, hc⟩ := HH.out.addr (by omega)
      have c1 := hc k (by omega)
      clear hc
      have hk0 : (0 : Int) ≤ (k : Int) := by omega
      obtain ⟨h1, h2⟩ := HR.out.2 k (by rw [HL.out]; omega)
      obtain ⟨y, hy⟩ : ∃ z, l.getD k 0 = z := ⟨_, rfl⟩
      rw [hy] at c1 h1 h2
      clear hy
      have h1' : ¬ y < 0 := by omega
      have h2' : ¬ (n : Int) - 1 - (k : Int) < y := by omega
      go_wp2
      exact ⟨⟨k + 1, by omega, by go_num⟩, by simp [intOf]; omega⟩
    · obtain rfl : k = m := by omega
      go_wp2_with fail
      refine (HS.out _).mono ?_
      rintro e w9 ⟨g, rfl, how, hnew⟩
      have HO := Lib.hid how
      have HN := Lib.hid hnew
      have hgb : w.heap.size ≤ g := (ow_in how).1
      clear how hnew
      go_wp2_with fail
      go_loopw [41] (fun iv wr => ∃ j : Nat, j ≤ k ∧ iv = .int .i64 (j : Int) ∧ wr.ownsRow w.heap.size 3 1 (.slice (some ⟨g, 0, none⟩) n n) n ((liI (s2 (JF l) j) n).map fun x => .int .i64 x) ∧ New w wr) (fun iv _ => k - (intOf iv).toNat)
      case atStart => exact ⟨0, Nat.zero_le _, rfl, HO.out, HN.out⟩
      case round =>
        clear HO HN
        obtain ⟨j, hj, rfl, hown, hnew⟩ := hrel
        have HO2 := Lib.hid hown
        have HN2 := Lib.hid hnew
        obtain ⟨wq, hwq⟩ : ∃ z, z = wr := ⟨_, rfl⟩
        rw [← hwq] at HO2 HN2 ⊢
        clear hown hnew hwq
        by_cases hlt2 : (j : Int) < (k : Int)
        · have hj0 : (0 : Int) ≤ (j : Int) := by omega
          have hjn : (j : Int) < (n : Int) := by omega
          obtain ⟨b, off, rfl, hc⟩ := (HH.out.stay HN2.out).addr (by omega)
          have c1 := hc j (by omega)
          clear hc
          obtain ⟨x, hx, hJ, hJn⟩ := JF_at HR.out (k := j) (by rw [HL.out]; omega)
          rw [hx] at c1
          have HST : Hid (s2 (JF l) (j + 1) = sw (s2 (JF l) j) j (j + x)) := Lib.hid (by show sw _ _ _ = _; rw [hJ])
          obtain ⟨f, hf⟩ : ∃ f, s2 (JF l) j = f := ⟨_, rfl⟩
          rw [hf] at HO2 HST
          obtain ⟨q, hq⟩ : ∃ q, j + x = q := ⟨_, rfl⟩
          rw [hq] at hJn HST
          have hq1 : (j : Int) + (x : Int) = (q : Int) := by omega
          have hq0 : (0 : Int) ≤ (q : Int) := by omega
          have hqn : (q : Int) < (n : Int) := by omega
          clear hx hJ hf
          obtain ⟨hci, hfi⟩ := ow_int HO2.out (k := j) (by omega)
          obtain ⟨hcq, hfq⟩ := ow_int HO2.out (k := q) hJn
          rw [liI_get f (show j < n by omega)] at hci
          rw [liI_get f hJn] at hcq
          obtain ⟨hs1, hs2⟩ := ow_int (l := (liI f n).set j (f q : Int)) (by rw [List.map_set]; exact ow_set HO2.out j (.int .i64 (f q : Nat))) (k := q) hJn
          have HO3 : Hid (((wq.setCell ⟨g, j, none⟩ (.int .i64 (f q : Nat))).setCell ⟨g, q, none⟩ (.int .i64 (f j : Nat))).ownsRow w.heap.size 3 1 (.slice (some ⟨g, 0, none⟩) n n) n ((liI (s2 (JF l) (j + 1)) n).map fun x => .int .i64 x)) := Lib.hid (by
            rw [HST.out, ← liI_sw f (show j < n by omega) hJn, List.map_set, List.map_set]
            exact ow_set (ow_set HO2.out _ _) _ _)
          have HN3 : Hid (New w ((wq.setCell ⟨g, j, none⟩ (.int .i64 (f q : Nat))).setCell ⟨g, q, none⟩ (.int .i64 (f j : Nat)))) := Lib.hid ((HN2.out.setCell hgb _).setCell hgb _)
          go_wp2_with fail
          go_region
          have HO4 := Lib.hid (ow_new HO3.out (New.refl _).drew)
          have HN4 := Lib.hid (New.drew HN3.out)
          clear HO3 HN3 hs1 hs2 c1 hci hcq hfi hfq
          obtain ⟨W2, hW2⟩ : ∃ z, ((wq.setCell ⟨g, j, none⟩ (.int .i64 (f q : Nat))).setCell ⟨g, q, none⟩ (.int .i64 (f j : Nat))).drew = z := ⟨_, rfl⟩
          rw [hW2] at HO4 HN4 ⊢
          clear hW2
          go_wp2
          exact ⟨⟨j + 1, by omega, by go_num, HO4.out, HN4.out⟩, by simp [intOf]; omega⟩
        · obtain rfl : j = k := by omega
          obtain ⟨_, _, he, hz⟩ := ZRow.of_owns HO2.out (by omega) (in64_li _ (fun x hx => by have := s2_lt HF.out j (Nat.le_refl _) x hx; omega))
          cases he
          have hzs := hz.slice 0 j j (by omega) (Nat.le_refl _) (by omega)
          rw [List.drop_zero, liI_takes _ hmn] at hzs
          have HZR : Hid (ZRow wq (some ⟨g, 0, none⟩) j j (pkI l)) := Lib.hid (by
            unfold pkI; rw [HL.out]; exact hzs)
          clear hz hzs
          have hj0 : (0 : Int) ≤ (j : Int) := by omega
          have hjn : (j : Int) ≤ (n : Int) := by omega
          go_wp2
          go_ret2
          exact ⟨_, rfl, HO2.out, HN2.out⟩
set_option maxRecDepth 100000 in
set_option maxHeartbeats 8000000 in
theorem take41_own (b g0 n K : Nat) (l : List (BitVec 64)) (w : World) (ht : Tape w b g0 l 0) (hn : n ≤ 256) (hK : K ≤ n) :
    Calls Try.prog 19 #[.pointer (some ⟨b, 0, none⟩), .int .i64 (n : Int), .int .i64 (K : Int)] w fun e w' => (∃ ds k g a2 c2 B, drS l (lmP n K) K = some (ds, k) ∧ e = .returned (.tuple #[.slice (some ⟨g, 0, none⟩) (K : Nat) (K : Nat), .slice a2 (K : Nat) c2, .int .i64 0]) ∧ w.heap.size ≤ B ∧ w'.ownsRow B 3 1 (.slice (some ⟨g, 0, none⟩) n n) n ((liI (s2 (JF (cdS ds K)) K) n).map fun x => .int .i64 x) ∧ After w w' b g0 l k) ∨ (drS l (lmP n K) K = none ∧ e = .returned (.tuple #[.slice none 0 0, .slice none 0 0, .int .i64 7]) ∧ After w w' b g0 l l.length) := by
  have HBL : Hid (b < w.heap.size ∧ g0 < w.heap.size) := Lib.hid ht.lt
  have HT0 := Lib.hid (fun w' (h : New w w') => ht.stay h)
  have hmk : ∀ W : World, (Instr.makeSlice 22 (.int .i64 (K : Int)) (.int .i64 (K : Int))).run Try.prog W = .ok (.slice (some ⟨W.heap.size, 0, none⟩) K K) (W.alloc (.cells (madeCells #[.int .i64 0] K) 3)) := fun W => make_int K (by omega) _ W rfl
  have hmk2 : ∀ W : World, (Instr.makeSlice 36 (.int .i64 (K : Int)) (.int .i64 (K : Int))).run Try.prog W = .ok (.slice (some ⟨W.heap.size, 0, none⟩) K K) (W.alloc (.cells (madeCells #[.int .u64 0, .int .u64 0, .int .i64 0] (K * 3)) 63)) := fun W => make_drw K (by omega) W
  have hneg : ¬ (n : Int) < 0 := by omega
  have hneg2 : ¬ (K : Int) < 0 := by omega
  have hneg3 : ¬ (n : Int) < (K : Int) := by omega
  have hbig : ¬ (256 : Int) < (n : Int) := by omega
  clear ht
  go_enter Try.func19, Try.ntmps19
  go_wp2_with fail
  go_cut [9, 10] (fun c d wx => ∃ g1 g2, c = .slice (some ⟨g1, 0, none⟩) K K ∧ d = .slice (some ⟨g2, 0, none⟩) K K ∧ wx.ownsRow w.heap.size 3 1 (.slice (some ⟨g1, 0, none⟩) K K) K ((cqL [] K).map fun x => .int .i64 x) ∧ wx.ownsRow w.heap.size 63 3 (.slice (some ⟨g2, 0, none⟩) K K) K (drCs (dpL [] K)) ∧ g1 ≠ g2 ∧ New w wx)
  case first =>
    go_region_held3 (fun w' => New w w')
      (repeat (first | with_reducible assumption | with_reducible exact New.refl _ | with_reducible apply New.drew | with_reducible refine New.alloc ?_ _))
      (fail)
    all_goals (
      go_wp2_with fail
      go_meet
      case rel =>
        rw [cqL_zero, dpL_zero]
        first
          | exact ⟨_, _, rfl, rfl, ow_new (ow_made w _ _ _ K _ (Nat.le_refl _) (by omega) (by rw [made_toList, zeros_li]) (by rw [List.length_map, liI_len])) (((New.refl _).alloc _).drew), ow_new (at_size (by simp) (ow_made3 (w.alloc (.cells (madeCells #[.int .i64 0] K) 3)) w.heap.size _ K (by simp) (by omega))) ((New.refl _).drew), (fun e => by omega), by assumption⟩
          | exact ⟨_, _, rfl, rfl, ow_new (at_size (by simp) (ow_made (w.alloc (.cells (madeCells #[.int .u64 0, .int .u64 0, .int .i64 0] (K * 3)) 63)) w.heap.size _ _ K _ (by simp) (by omega) (by rw [made_toList, zeros_li]) (by rw [List.length_map, liI_len]))) ((New.refl _).drew), ow_new (ow_made3 w w.heap.size _ K (Nat.le_refl _) (by omega)) (((New.refl _).alloc _).drew), (fun e => by omega), by assumption⟩)
  case rest =>
    obtain ⟨g1, g2, rfl, rfl, ho1, ho2, hg12, hn9⟩ := hcut
    clear hmk hmk2
    have HO1 := Lib.hid ho1
    have HO2 := Lib.hid ho2
    have HN9 := Lib.hid hn9
    have HG12 : Hid (w.heap.size ≤ g1 ∧ w.heap.size ≤ g2 ∧ g1 ≠ g2) := Lib.hid ⟨(ow_in ho1).1, (ow_lt3 ho2).1, hg12⟩
    have HLT : Hid (g1 < wc.heap.size ∧ g2 < wc.heap.size) := Lib.hid ⟨(ow_in ho1).2.1, (ow_lt3 ho2).2.1⟩
    replace HT0 := Lib.hid (HT0.out wc hn9)
    clear ho1 ho2 hg12 hn9
    go_wp2_with fail
    go_loopw [35] (fun iv wr => ∃ (q : Nat) (ds : List Drw) (k g : Nat), q ≤ K ∧ iv = .int .i64 (q : Int) ∧ Hid (drS l (lmP n K) q = some (ds, k)) ∧ wr.ownsRow w.heap.size 3 1 (.slice (some ⟨g1, 0, none⟩) K K) K ((cqL ds K).map fun x => .int .i64 x) ∧ wr.ownsRow w.heap.size 63 3 (.slice (some ⟨g2, 0, none⟩) K K) K (drCs (dpL ds K)) ∧ Tape wr b g l k ∧ But2 b g0 w wr ∧ Hid ((g = g0 ∨ w.heap.size ≤ g) ∧ g1 ≠ g ∧ g2 ≠ g)) (fun iv _ => K - (intOf iv).toNat)
    case atStart => exact ⟨0, [], 0, g0, Nat.zero_le _, rfl, Lib.hid rfl, HO1.out, HO2.out, HT0.out, But2.of_new HN9.out, Lib.hid ⟨.inl rfl, by have := HG12.out; have := HBL.out; omega, by have := HG12.out; have := HBL.out; omega⟩⟩
    case round =>
      clear HT0 HO1 HO2
      obtain ⟨q, ds, k, g, hq, rfl, HS, ho1, ho2, ht, hb2, HG⟩ := hrel
      have HO1 := Lib.hid ho1
      have HO2 := Lib.hid ho2
      have HT := Lib.hid ht
      have HB := Lib.hid hb2
      obtain ⟨wq, hwq⟩ : ∃ z, z = wr := ⟨_, rfl⟩
      rw [← hwq] at HO1 HO2 HT HB ⊢
      clear ho1 ho2 ht hb2 hwq
      have hdl := (drS_len HS.out).1
      by_cases hlt : (q : Int) < (K : Int)
      · have hq0 : (0 : Int) ≤ (q : Int) := by omega
        obtain ⟨s, hs⟩ : ∃ s, n - q = s := ⟨_, rfl⟩
        have hs1 : (n : Int) - (q : Int) = (s : Int) := by omega
        have hgl : (lmP n K).getD q 0 = BitVec.ofNat 64 s := by rw [lmP_get (by omega), hs]
        obtain ⟨hs0, hsn⟩ := ofNat_pos (r := s) (by omega) (by omega)
        have HX := Lib.hid (fun j h1 h2 h3 h4 => drS_next (j := j) HS.out h1 h2 h3 h4)
        have HF := Lib.hid (fun h3 => drS_few HS.out (drS_len HS.out).2 h3)
        rw [hgl] at HX HF
        have HTK : Hid (∀ x : BitVec 64, takO x (BitVec.ofNat 64 s) = takN x (BitVec.ofNat 64 s)) := Lib.hid (fun x => if_neg hs0)
        have HTL : Hid (∀ x : BitVec 64, (telN x (BitVec.ofNat 64 s)).toNat < s) := Lib.hid (fun x => by have := tel_lt x _ hs0; rwa [hsn] at this)
        have HC := Lib.hid (fun w' (h : New wq w') => take_l b g l k (BitVec.ofNat 64 s) hs0 w' (HT.out.stay h))
        have HDL := Lib.hid hdl
        clear hgl hs0 hsn hdl
        obtain ⟨lim, hlim⟩ : ∃ z, BitVec.ofNat 64 s = z := ⟨_, rfl⟩
        rw [hlim] at HX HF HTK HTL HC
        have HWQ : Hid (g1 < wq.heap.size ∧ g2 < wq.heap.size) := Lib.hid ⟨(ow_in HO1.out).2.1, (ow_lt3 HO2.out).2.1⟩
        go_wp2_with fail
        refine (HC.out wq (New.refl _)).mono ?_
        rintro e w8 (⟨j, h1, h2, h3, h4, rfl, g', ht8, hb8, hg8⟩ | ⟨h3, rfl, g', ht8, hb8, hg8⟩)
        · have HD := Lib.hid (HX.out j h1 h2 (fun i a b => by rw [HTK.out]; exact h3 i a b) (by rw [HTK.out]; exact h4))
          have HDW : Hid (drw l lim k j = (telN (l.getD j 0) lim, rnkN (l.getD j 0) lim, j + 1 - k)) := Lib.hid rfl
          have hxl := HTL.out (l.getD j 0)
          obtain ⟨x, hx⟩ : ∃ z, telN (l.getD j 0) lim = z := ⟨_, rfl⟩
          obtain ⟨y, hy⟩ : ∃ z, rnkN (l.getD j 0) lim = z := ⟨_, rfl⟩
          obtain ⟨u, hu⟩ : ∃ z, j + 1 - k = z := ⟨_, rfl⟩
          rw [hx] at hxl
          rw [hx, hy, hu] at HDW ⊢
          rw [HDW.out] at HD
          obtain ⟨t, htx⟩ : ∃ t, x.toNat = t := ⟨_, rfl⟩
          rw [htx] at hxl
          have hx1 : wrap64 (W64 x) = (t : Int) := by unfold W64 wrap64; omega
          have HCS : Hid (cqL (ds ++ [(x, y, u)]) K = (cqL ds K).set q ((t : Nat) : Int)) := Lib.hid (by
            rw [cqL_set HDL.out (by omega)]
            show (cqL ds K).set q ((x.toNat : Nat) : Int) = _
            rw [htx])
          have HDS : Hid (drCs (dpL (ds ++ [(x, y, u)]) K) = (((drCs (dpL ds K)).set (q * 3) (.int .u64 (W64 x))).set (q * 3 + 1) (.int .u64 (W64 y))).set (q * 3 + 2) (.int .i64 (u : Int))) := Lib.hid (by
            rw [← dpL_set HDL.out (by omega), drCs_set _ _ _ (by rw [dpL_len (by have := HDL.out; omega)]; omega)])
          clear hx hy hu HDW HX HF HTK HTL HC h1 h2 h3 h4 htx
          have hgl := HG.out
          have hwq := HWQ.out
          have hb0 := HBL.out.1
          have hg0 := HG12.out
          have o1 := ow_blk HO1.out (w' := w8) (fun z hz => by
            have e : g1 = z := by simpa [Value.ownBlock] using hz
            subst e
            exact hb8.block _ hwq.1 (by omega) hgl.2.1)
          have o2 := ow_blk HO2.out (w' := w8) (fun z hz => by
            have e : g2 = z := by simpa [Value.ownBlock] using hz
            subst e
            exact hb8.block _ hwq.2 (by omega) hgl.2.2)
          have hbs := HB.out.step hgl.1 hb8
          have hne1 : g1 ≠ g' := by rcases hg8 with e | e <;> omega
          have hne2 : g2 ≠ g' := by rcases hg8 with e | e <;> omega
          obtain ⟨W9, hW9⟩ : ∃ z, w8.alloc (.cells #[.int .u64 (W64 x), .int .u64 (W64 y), .int .i64 (u : Int)] 63) = z := ⟨_, rfl⟩
          have hb1 := heap_alloc_new w8 (.cells #[.int .u64 (W64 x), .int .u64 (W64 y), .int .i64 (u : Int)] 63)
          rw [hW9] at hb1
          have hN9 : New w8 W9 := by rw [← hW9]; exact (New.refl _).alloc _
          have d0 : W9.cell? ⟨w8.heap.size, 0, none⟩ = some (.int .u64 (W64 x)) := cell_of_row _ _ 0 _ _ _ hb1
          have d1 : W9.cell? ⟨w8.heap.size, 1, none⟩ = some (.int .u64 (W64 y)) := cell_of_row _ _ 1 _ _ _ hb1
          have d2 : W9.cell? ⟨w8.heap.size, 2, none⟩ = some (.int .i64 (u : Int)) := cell_of_row _ _ 2 _ _ _ hb1
          have p1 := ow_new o1 hN9
          have p2 := ow_new o2 hN9
          have HT9 := Lib.hid (ht8.stay hN9)
          have HB9 := Lib.hid (hbs.then hN9)
          have hsz8 := hb8.size
          have hn81 : ¬ w8.heap.size = g1 := by omega
          have hn82 : ¬ w8.heap.size = g2 := by omega
          have hn18 : ¬ g1 = w8.heap.size := by omega
          have hn28 : ¬ g2 = w8.heap.size := by omega
          have hn12 : ¬ g1 = g2 := hg0.2.2
          have hn21 : ¬ g2 = g1 := fun e => hg0.2.2 e.symm
          obtain ⟨c1, f1⟩ := ow_int p1 (k := q) (by omega)
          obtain ⟨⟨e0, e1, e2⟩, f2⟩ := ow_three p2 (k := q) (by omega)
          have f20 := f2 (q * 3)
          have f21 := f2 (q * 3 + 1)
          have f22 := f2 (q * 3 + 2)
          have HP1 := Lib.hid p1
          have HP2 := Lib.hid p2
          have GG : Hid ((g' = g0 ∨ w.heap.size ≤ g') ∧ g1 ≠ g' ∧ g2 ≠ g') := Lib.hid ⟨by rcases hg8 with e | e <;> rcases hgl.1 with e2 | e2 <;> omega, hne1, hne2⟩
          clear hb1 o1 o2 hbs ht8 hb8 hgl hg8 HT HO1 HB f2 p1 p2 hN9 hg0 hwq hsz8
          go_wp2_with fail
          clear hW9
          go_region
          have hg0 := HG12.out
          have HV1 : Hid ((((((W9.setCell ⟨g1, q, none⟩ (.int .i64 (t : Nat))).setCell ⟨g2, q * 3, none⟩ (.int .u64 (W64 x))).setCell ⟨g2, q * 3 + 1, none⟩ (.int .u64 (W64 y))).setCell ⟨g2, q * 3 + 2, none⟩ (.int .i64 (u : Int))).drew).ownsRow w.heap.size 3 1 (.slice (some ⟨g1, 0, none⟩) K K) K ((cqL (ds ++ [(x, y, u)]) K).map fun x => .int .i64 x)) := Lib.hid (by
            have hv : (Value.slice (some ⟨g1, 0, none⟩) K K).ownBlock ≠ some g2 := by simp [Value.ownBlock]; exact hn12
            rw [HCS.out, List.map_set]
            exact ow_new (ow_far (ow_far (ow_far (ow_set HP1.out q (.int .i64 (t : Nat))) (a := ⟨g2, q * 3, none⟩) hv _) (a := ⟨g2, q * 3 + 1, none⟩) hv _) (a := ⟨g2, q * 3 + 2, none⟩) hv _) (New.refl _).drew)
          have HV2 : Hid ((((((W9.setCell ⟨g1, q, none⟩ (.int .i64 (t : Nat))).setCell ⟨g2, q * 3, none⟩ (.int .u64 (W64 x))).setCell ⟨g2, q * 3 + 1, none⟩ (.int .u64 (W64 y))).setCell ⟨g2, q * 3 + 2, none⟩ (.int .i64 (u : Int))).drew).ownsRow w.heap.size 63 3 (.slice (some ⟨g2, 0, none⟩) K K) K (drCs (dpL (ds ++ [(x, y, u)]) K))) := Lib.hid (by
            have hv : (Value.slice (some ⟨g2, 0, none⟩) K K).ownBlock ≠ some g1 := by simp [Value.ownBlock]; exact hn21
            rw [HDS.out]
            exact ow_new ((((ow_far3 HP2.out (a := ⟨g1, q, none⟩) hv (.int .i64 (t : Nat))).stored (q * 3) _).1.stored (q * 3 + 1) _).1.stored (q * 3 + 2) _).1 (New.refl _).drew)
          have HV3 : Hid (Tape (((((W9.setCell ⟨g1, q, none⟩ (.int .i64 (t : Nat))).setCell ⟨g2, q * 3, none⟩ (.int .u64 (W64 x))).setCell ⟨g2, q * 3 + 1, none⟩ (.int .u64 (W64 y))).setCell ⟨g2, q * 3 + 2, none⟩ (.int .i64 (u : Int))).drew) b g' l (j + 1)) := Lib.hid (((((HT9.out.put (r := g1) (by omega) hne1 q _).put (r := g2) (by omega) hne2 (q * 3) _).put (r := g2) (by omega) hne2 (q * 3 + 1) _).put (r := g2) (by omega) hne2 (q * 3 + 2) _).stay (New.refl _).drew)
          have HV4 : Hid (But2 b g0 w (((((W9.setCell ⟨g1, q, none⟩ (.int .i64 (t : Nat))).setCell ⟨g2, q * 3, none⟩ (.int .u64 (W64 x))).setCell ⟨g2, q * 3 + 1, none⟩ (.int .u64 (W64 y))).setCell ⟨g2, q * 3 + 2, none⟩ (.int .i64 (u : Int))).drew)) := Lib.hid (((((HB9.out.fresh (p := ⟨g1, q, none⟩) hg0.1 _).fresh (p := ⟨g2, q * 3, none⟩) hg0.2.1 _).fresh (p := ⟨g2, q * 3 + 1, none⟩) hg0.2.1 _).fresh (p := ⟨g2, q * 3 + 2, none⟩) hg0.2.1 _).then (New.refl _).drew)
          clear hg0 d0 d1 d2 c1 f1 e0 e1 e2 f20 f21 f22 HP1 HP2 HT9 HB9
          obtain ⟨V, hV⟩ : ∃ z, ((((W9.setCell ⟨g1, q, none⟩ (.int .i64 (t : Nat))).setCell ⟨g2, q * 3, none⟩ (.int .u64 (W64 x))).setCell ⟨g2, q * 3 + 1, none⟩ (.int .u64 (W64 y))).setCell ⟨g2, q * 3 + 2, none⟩ (.int .i64 (u : Int))).drew = z := ⟨_, rfl⟩
          rw [hV] at HV1 HV2 HV3 HV4 ⊢
          clear hV
          go_wp2
          exact ⟨⟨q + 1, _, _, g', by omega, by go_num, HD, HV1.out, HV2.out, HV3.out, HV4.out, GG⟩, by simp [intOf]; omega⟩
        · have HD := Lib.hid (HF.out (fun i a b => by rw [HTK.out]; exact h3 i a b))
          have HNO : Hid (drS l (lmP n K) K = none) := Lib.hid (by
            have := drS_none HD.out (K - (q + 1))
            rw [show q + 1 + (K - (q + 1)) = K by omega] at this
            exact this)
          have HAF : Hid (After w (w8.alloc (.cells #[.int .u64 0, .int .u64 0, .int .i64 0] 63)) b g0 l l.length) := Lib.hid ⟨g', ht8.stay ((New.refl _).alloc _), (HB.out.step HG.out.1 hb8).then ((New.refl _).alloc _), by
            have h9 := HG.out.1
            have h8 := HB.out.size
            rcases hg8 with e | e <;> rcases h9 with e2 | e2 <;> omega⟩
          clear HX HF HTK HTL HC h3 ht8 hb8 hg8
          go_wp2
          go_ret3
          exact .inr ⟨HNO.out, rfl, HAF.out⟩
      · obtain rfl : q = K := by omega
        have HRP := Lib.hid (cdS_rp (by omega) hK HS.out)
        obtain ⟨a1, c1, he, hz⟩ := ZRow.of_owns HO1.out (by omega) (by
          rw [cqL_all hdl]
          exact in64_li _ (fun x hx => by have := lmP_lt (by omega) hK HS.out x hx; omega))
        cases he
        rw [cqL_all hdl] at hz
        obtain ⟨a2, c2, he, hk⟩ := KRow.of_owns HO2.out (by omega)
        cases he
        rw [dpL_all hdl] at hk
        have HPK := Lib.hid (pick_own n hn _ _ _ _ wq hz HRP.out)
        have hwb := HB.out.size
        have HK := Lib.hid hk
        clear hz hk
        go_wp2_with fail
        refine (HPK.out).mono ?_
        rintro e w8 ⟨g3, rfl, hz3, hnw⟩
        have HZR := Lib.hid hz3
        have HAF : Hid (After w w8 b g0 l k) := Lib.hid ⟨g, HT.out.stay hnw, HB.out.then hnw, HG.out.1⟩
        have HWB := Lib.hid hwb
        clear hz3 hnw HPK hwb
        go_wp2
        go_ret3
        exact .inl ⟨ds, k, _, _, _, _, HS.out, rfl, HWB.out, HZR.out, HAF.out⟩
end Go.Proofs.Ytaajphopnmdmcaa
