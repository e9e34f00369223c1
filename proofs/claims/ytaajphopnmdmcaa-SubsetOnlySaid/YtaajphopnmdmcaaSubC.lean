/- subset.Choices. -/
import Derived.Test.YtaajphopnmdmcaaSubB
namespace Go.Proofs.Ytaajphopnmdmcaa
open Go Go.RowKit Go.Bv
set_option linter.unusedVariables false
theorem pk_cells {n : Nat} {c : List Int} (h : rp2 n c) : (∀ k, k < c.length → 0 ≤ (pkI c).getD k 0 ∧ (pkI c).getD k 0 < (n : Int)) ∧ (∀ j k, j < k → k < c.length → (pkI c).getD j 0 ≠ (pkI c).getD k 0) := by
  have h1 := h.1
  have h2 := rp2_F h
  unfold pkI
  constructor
  · intro k hk
    rw [liI_get _ hk]
    have := s2_lt h2 _ (Nat.le_refl _) k (by omega)
    omega
  · intro j k hj hk he
    rw [liI_get _ (by omega), liI_get _ hk] at he
    have := s2_inj h2 (Nat.le_refl _) (x := j) (y := k) (by omega) (by omega) (by omega)
    omega
set_option maxRecDepth 100000 in
set_option maxHeartbeats 8000000 in
theorem chc_41 (n : Nat) (hn : n ≤ 256) (a : Option Addr) (m c : Nat) (cl : List Int) (w : World) (h : ZRow w a m c (pkI cl)) (hl : rp2 n cl) (hlm : cl.length = m) :
    Calls Try.prog 14 #[.int .i64 (n : Int), .slice a m c] w fun e w' => ∃ a' c', e = .returned (.tuple #[.slice a' (m : Nat) c', .int .i64 0]) ∧ ZRow w' a' m c' cl ∧ New w w' := by
  have HL := Lib.hid hlm
  have HH := Lib.hid h
  have HR := Lib.hid hl
  have HF := Lib.hid (rp2_F hl)
  rw [HL.out] at HF
  have hmn : m ≤ n := by have := hl.1; rw [HL.out] at this; exact this
  have HZ : Hid (szE (n : Int) (m : Int) = 0) := Lib.hid (if_neg (by omega))
  have HSZ := Lib.hid (fun w => sizes_41 (n : Int) (m : Int) w)
  rw [HZ.out] at HSZ
  have HPC := Lib.hid (pk_cells hl)
  rw [HL.out] at HPC
  have HI := Lib.hid (ispick_41 n (by omega) a m c (pkI cl) w h (by omega) HPC.out.1 HPC.out.2)
  have HS := Lib.hid (fun w => sorted_41 n w (by omega))
  have hmk : ∀ W : World, (Instr.makeSlice 22 (.int .i64 (m : Int)) (.int .i64 (m : Int))).run Try.prog W = .ok (.slice (some ⟨W.heap.size, 0, none⟩) m m) (W.alloc (.cells (madeCells #[.int .i64 0] m) 3)) := fun W => make_int m (by omega) _ W rfl
  have M0 : Hid True := Lib.hid trivial
  clear h hl hlm HZ
  go_enter Try.func14, Try.ntmps14
  go_wp2_with fail
  refine (HSZ.out _).mono ?_
  rintro e w' ⟨rfl, hw⟩
  replace hw := hw.symm
  subst hw
  go_wp2_with fail
  refine (HI.out).mono ?_
  rintro e w9 ⟨rfl, hn9⟩
  have HN := Lib.hid hn9
  have HN9 := Lib.hid hn9
  clear hn9 HI HSZ HPC
  go_wp2_with fail
  go_cut [7, 8, 9] (fun c r t wx => ∃ g1 g2 g3, c = .slice (some ⟨g1, 0, none⟩) m m ∧ r = .slice (some ⟨g2, 0, none⟩) n n ∧ t = .slice (some ⟨g3, 0, none⟩) n n ∧ wx.ownsRow w9.heap.size 3 1 (.slice (some ⟨g1, 0, none⟩) m m) m ((liI (fun _ => 0) m).map fun x => .int .i64 x) ∧ wx.ownsRow w9.heap.size 3 1 (.slice (some ⟨g2, 0, none⟩) n n) n ((liI (fun x => x) n).map fun x => .int .i64 x) ∧ wx.ownsRow w9.heap.size 3 1 (.slice (some ⟨g3, 0, none⟩) n n) n ((liI (fun x => x) n).map fun x => .int .i64 x) ∧ (g1 ≠ g2 ∧ g1 ≠ g3 ∧ g2 ≠ g3) ∧ New w9 wx)
  case first =>
    go_region_held3 (fun w' => New w9 w')
      (first | with_reducible assumption | with_reducible exact (New.refl _).drew | with_reducible exact New.drew (by assumption) | with_reducible exact ((New.refl _).alloc _).drew | with_reducible exact (((New.refl _).drew).alloc _).drew | with_reducible exact ((New.refl _).drew).alloc _ | with_reducible exact New.alloc (by assumption) _ | with_reducible exact (New.drew (by assumption)).alloc _ | with_reducible exact (New.alloc (by assumption) _).drew | with_reducible exact ((New.drew (by assumption)).alloc _).drew | with_reducible exact (New.drew (by assumption)).drew)
      (first
      | (go_at_call 31
         clear M0
         refine (HS.out _).mono ?_
         rintro e wA ⟨gA, rfl, howA, hnA⟩
         have hn5 : New w9 wA := by first
           | with_reducible exact (New.refl w9).drew.trans hnA
           | with_reducible exact ((New.refl w9).drew.alloc _).trans hnA
           | with_reducible exact ((New.refl w9).alloc _).drew.trans hnA
           | with_reducible exact (((New.refl w9).drew.alloc _).drew).trans hnA
           | with_reducible exact (New.refl w9).trans hnA)
      | (go_at_call 31
         refine (HS.out _).mono ?_
         rintro e wB ⟨gB, rfl, howB, hnB⟩
         have hnAB := hnB.le
         have hn6 : New w9 wB := by first
           | with_reducible exact hn5.drew.trans hnB
           | with_reducible exact (hn5.drew.alloc _).trans hnB
           | with_reducible exact ((hn5.alloc _).drew).trans hnB
           | with_reducible exact ((hn5.drew.alloc _).drew).trans hnB
           | with_reducible exact (hn5.alloc _).trans hnB
           | with_reducible exact hn5.trans hnB))
    all_goals (
      go_wp2_with fail
      go_meet
      case rel =>
        have kA := ow_in howA
        have kB := ow_in howB
        have k5 := hn5.le
        try simp at kA
        try simp at kB
        first
          | exact ⟨_, _, _, rfl, rfl, rfl, ow_new (ow_new (ow_made w9 _ _ _ m _ (Nat.le_refl _) (by omega) (by rw [made_toList, zeros_li]) (by rw [List.length_map, liI_len])) ((New.refl _).drew.trans hnA)) hnB, ow_new (ow_base howA (by simp)) hnB, ow_base howB k5, ⟨fun e => by omega, fun e => by omega, fun e => by omega⟩, by assumption⟩
          | exact ⟨_, _, _, rfl, rfl, rfl, ow_new (ow_made wA _ _ _ m _ k5 (by omega) (by rw [made_toList, zeros_li]) (by rw [List.length_map, liI_len])) hnB, ow_new (ow_base howA (by simp)) (((New.refl _).alloc _).trans hnB), ow_base howB (by simp; omega), ⟨fun e => by omega, fun e => by omega, fun e => by omega⟩, by assumption⟩
          | exact ⟨_, _, _, rfl, rfl, rfl, ow_made wB _ _ _ m _ hn6.le (by omega) (by rw [made_toList, zeros_li]) (by rw [List.length_map, liI_len]), ow_new (ow_new (ow_base howA (by simp)) hnB) ((New.refl _).alloc _), ow_new (ow_base howB k5) ((New.refl _).alloc _), ⟨fun e => by omega, fun e => by omega, fun e => by omega⟩, by assumption⟩)
  case rest =>
    obtain ⟨g1, g2, g3, rfl, rfl, rfl, ho1, ho2, ho3, ⟨hg12, hg13, hg23⟩, hn⟩ := hcut
    clear hmk M0
    rw [← HL.out, ← ctI_zero cl, HL.out] at ho1
    have HO1 := Lib.hid ho1
    have HO2 := Lib.hid ho2
    have HO3 := Lib.hid ho3
    replace HN := Lib.hid (HN.out.trans hn)
    have HG : Hid (w.heap.size ≤ g1 ∧ w.heap.size ≤ g2 ∧ w.heap.size ≤ g3) := Lib.hid (by
      have h0 := HN9.out.le
      have h1 := (ow_in ho1).1
      have h2 := (ow_in ho2).1
      have h3 := (ow_in ho3).1
      omega)
    have hne12 : ¬ g1 = g2 := hg12
    have hne21 : ¬ g2 = g1 := fun e => hg12 e.symm
    have hne13 : ¬ g1 = g3 := hg13
    have hne31 : ¬ g3 = g1 := fun e => hg13 e.symm
    have hne23 : ¬ g2 = g3 := hg23
    have hne32 : ¬ g3 = g2 := fun e => hg23 e.symm
    clear ho1 ho2 ho3 hn hg12 hg13 hg23
    go_wp2_with fail
    go_loopw [33] (fun iv wr => ∃ k : Nat, k ≤ m ∧ iv = .int .i64 (k : Int) ∧ wr.ownsRow w9.heap.size 3 1 (.slice (some ⟨g1, 0, none⟩) m m) m ((ctI cl k).map fun x => .int .i64 x) ∧ wr.ownsRow w9.heap.size 3 1 (.slice (some ⟨g2, 0, none⟩) n n) n ((liI (s2 (JF cl) k) n).map fun x => .int .i64 x) ∧ wr.ownsRow w9.heap.size 3 1 (.slice (some ⟨g3, 0, none⟩) n n) n ((liI (i2 (JF cl) k) n).map fun x => .int .i64 x) ∧ New w wr) (fun iv _ => m - (intOf iv).toNat)
    case atStart => exact ⟨0, Nat.zero_le _, rfl, HO1.out, HO2.out, HO3.out, HN.out⟩
    case round =>
      clear HO1 HO2 HO3 HN
      obtain ⟨k, hk, rfl, h1, h2, h3, hnew⟩ := hrel
      have HO1 := Lib.hid h1
      have HO2 := Lib.hid h2
      have HO3 := Lib.hid h3
      have HN := Lib.hid hnew
      obtain ⟨wq, hwq⟩ : ∃ z, z = wr := ⟨_, rfl⟩
      rw [← hwq] at HO1 HO2 HO3 HN ⊢
      clear h1 h2 h3 hnew hwq
      by_cases hlt : (k : Int) < (m : Int)
      · have hk0 : (0 : Int) ≤ (k : Int) := by omega
        have hkn : (k : Int) < (n : Int) := by omega
        have hkn' : k < n := by omega
        obtain ⟨b, off, rfl, hc⟩ := (HH.out.stay HN.out).addr (by omega)
        have c1 := hc k (by omega)
        clear hc
        obtain ⟨x, hx, hJ, hJn⟩ := JF_at HR.out (k := k) (by rw [HL.out]; omega)
        have hP0 : (pkI cl).getD k 0 = ((s2 (JF cl) k (k + x) : Nat) : Int) := by
          unfold pkI
          rw [HL.out, liI_get _ (show k < m by omega), s2_put HF.out (show k < m by omega), hJ]
        rw [hP0] at c1
        have hE1 : ctI cl (k + 1) = (ctI cl k).set k (x : Int) := by rw [← hx, ctI_set cl (by rw [HL.out]; omega)]
        have hN2 : s2 (JF cl) (k + 1) = sw (s2 (JF cl) k) k (k + x) := by show sw _ _ _ = _; rw [hJ]
        have hN3 : i2 (JF cl) (k + 1) = swI (s2 (JF cl) k) (i2 (JF cl) k) k (k + x) := by show swI _ _ _ _ = _; rw [hJ]
        have hlk := s2_lt HF.out k (by omega)
        have hinv := (s2_i2 HF.out k (by omega)).1 (k + x) hJn
        obtain ⟨f, hf⟩ : ∃ z, s2 (JF cl) k = z := ⟨_, rfl⟩
        rw [hf] at HO2 c1 hN2 hN3 hlk hinv
        obtain ⟨gf, hgf⟩ : ∃ z, i2 (JF cl) k = z := ⟨_, rfl⟩
        rw [hgf] at HO3 hN3 hinv
        obtain ⟨q, hq⟩ : ∃ z, k + x = z := ⟨_, rfl⟩
        rw [hq] at hJn c1 hN2 hN3 hinv
        have hqx : (q : Int) - (k : Int) = (x : Int) := by omega
        have hfk := hlk k hkn'
        have hfq := hlk q hJn
        have HE1 := Lib.hid hE1
        have HE2 : Hid (liI (s2 (JF cl) (k + 1)) n = ((liI f n).set k (f q : Int)).set q (f k : Int)) := Lib.hid (by rw [hN2, liI_sw f hkn' hJn])
        have HE3 : Hid (liI (i2 (JF cl) (k + 1)) n = ((liI gf n).set (f q) (k : Int)).set (f k) (q : Int)) := Lib.hid (by rw [hN3, liI_swI f gf hfq hfk])
        clear hP0 hx hJ hE1 hN2 hN3 hlk hf hgf
        obtain ⟨d1, e1⟩ := ow_int HO3.out (k := f q) hfq
        rw [liI_get gf hfq, hinv] at d1
        obtain ⟨d2, e2⟩ := ow_int HO1.out (k := k) (by omega)
        have hx0 : (0 : Int) ≤ (f q : Nat) := by omega
        have hxn : ((f q : Nat) : Int) < (n : Int) := by omega
        go_wp2_with fail
        have HA1 : Hid ((wq.setCell ⟨g1, k, none⟩ (.int .i64 (x : Nat))).ownsRow w9.heap.size 3 1 (.slice (some ⟨g1, 0, none⟩) m m) m ((ctI cl (k + 1)).map fun x => .int .i64 x)) := Lib.hid (by
          rw [HE1.out, List.map_set]; exact ow_set HO1.out _ _)
        have HA2 := Lib.hid (ow_far HO2.out (a := ⟨g1, k, none⟩) (by simp [Value.ownBlock]; exact hne21) (.int .i64 (x : Nat)))
        have HA3 := Lib.hid (ow_far HO3.out (a := ⟨g1, k, none⟩) (by simp [Value.ownBlock]; exact hne31) (.int .i64 (x : Nat)))
        have HA4 : Hid (New w (wq.setCell ⟨g1, k, none⟩ (.int .i64 (x : Nat)))) := Lib.hid (HN.out.setCell (by have := HG.out; show _ ≤ g1; omega) _)
        clear HO1 HO2 HO3 HN c1 d1 d2 e1 e2
        obtain ⟨W1, hW1⟩ : ∃ z, wq.setCell ⟨g1, k, none⟩ (.int .i64 (x : Nat)) = z := ⟨_, rfl⟩
        rw [hW1] at HA1 HA2 HA3 HA4 ⊢
        clear hW1
        obtain ⟨d1, e1⟩ := ow_int HA2.out (k := k) hkn'
        obtain ⟨d2, e2⟩ := ow_int HA2.out (k := q) hJn
        rw [liI_get f hkn'] at d1
        rw [liI_get f hJn] at d2
        have hq0 : (0 : Int) ≤ (q : Int) := by omega
        have hqm : (q : Int) < (n : Int) := by omega
        obtain ⟨hs1, hs2⟩ := ow_int (l := (liI f n).set k (f q : Int)) (by rw [List.map_set]; exact ow_set HA2.out k (.int .i64 (f q : Nat))) (k := q) hJn
        have HB2 : Hid (((W1.setCell ⟨g2, k, none⟩ (.int .i64 (f q : Nat))).setCell ⟨g2, q, none⟩ (.int .i64 (f k : Nat))).ownsRow w9.heap.size 3 1 (.slice (some ⟨g2, 0, none⟩) n n) n ((((liI f n).set k (f q : Int)).set q (f k : Int)).map fun x => .int .i64 x)) := Lib.hid (by
          rw [List.map_set, List.map_set]; exact ow_set (ow_set HA2.out _ _) _ _)
        have HB1 := Lib.hid (ow_far (ow_far HA1.out (a := ⟨g2, k, none⟩) (by simp [Value.ownBlock]; exact hne12) (.int .i64 (f q : Nat))) (a := ⟨g2, q, none⟩) (by simp [Value.ownBlock]; exact hne12) (.int .i64 (f k : Nat)))
        have HB3 := Lib.hid (ow_far (ow_far HA3.out (a := ⟨g2, k, none⟩) (by simp [Value.ownBlock]; exact hne32) (.int .i64 (f q : Nat))) (a := ⟨g2, q, none⟩) (by simp [Value.ownBlock]; exact hne32) (.int .i64 (f k : Nat)))
        have HB4 : Hid (New w ((W1.setCell ⟨g2, k, none⟩ (.int .i64 (f q : Nat))).setCell ⟨g2, q, none⟩ (.int .i64 (f k : Nat)))) := Lib.hid ((HA4.out.setCell (by have := HG.out; show _ ≤ g2; omega) _).setCell (by have := HG.out; show _ ≤ g2; omega) _)
        go_region
        replace HB1 := Lib.hid (ow_new HB1.out (New.refl _).drew)
        replace HB2 := Lib.hid (ow_new HB2.out (New.refl _).drew)
        replace HB3 := Lib.hid (ow_new HB3.out (New.refl _).drew)
        replace HB4 := Lib.hid (New.drew HB4.out)
        clear HA1 HA2 HA3 HA4 d1 e1 d2 e2 hs1 hs2
        obtain ⟨W2, hW2⟩ : ∃ z, ((W1.setCell ⟨g2, k, none⟩ (.int .i64 (f q : Nat))).setCell ⟨g2, q, none⟩ (.int .i64 (f k : Nat))).drew = z := ⟨_, rfl⟩
        rw [hW2] at HB1 HB2 HB3 HB4 ⊢
        clear hW2
        have hr1 : W2.cell? ⟨g2, k, none⟩ = some (.int .i64 (f q : Nat)) := by
          have h1 := (ow_int HB2.out (k := k) hkn').1
          rw [liI_sw f hkn' hJn, liI_get _ hkn', sw_at] at h1
          exact h1
        have hr2 : W2.cell? ⟨g2, q, none⟩ = some (.int .i64 (f k : Nat)) := by
          have h1 := (ow_int HB2.out (k := q) hJn).1
          rw [liI_sw f hkn' hJn, liI_get _ hJn, sw_at2] at h1
          exact h1
        obtain ⟨d1, e1⟩ := ow_int HB3.out (k := f q) hfq
        obtain ⟨d2, e2⟩ := ow_int HB3.out (k := f k) hfk
        obtain ⟨hs1, hs2⟩ := ow_int (l := (liI gf n).set (f q) (k : Int)) (by rw [List.map_set]; exact ow_set HB3.out (f q) (.int .i64 (k : Int))) (k := f k) hfk
        have HC3 : Hid (((W2.setCell ⟨g3, f q, none⟩ (.int .i64 (k : Int))).setCell ⟨g3, f k, none⟩ (.int .i64 (q : Nat))).ownsRow w9.heap.size 3 1 (.slice (some ⟨g3, 0, none⟩) n n) n ((((liI gf n).set (f q) (k : Int)).set (f k) (q : Int)).map fun x => .int .i64 x)) := Lib.hid (by
          rw [List.map_set, List.map_set]; exact ow_set (ow_set HB3.out _ _) _ _)
        have HC1 := Lib.hid (ow_far (ow_far HB1.out (a := ⟨g3, f q, none⟩) (by simp [Value.ownBlock]; exact hne13) (.int .i64 (k : Int))) (a := ⟨g3, f k, none⟩) (by simp [Value.ownBlock]; exact hne13) (.int .i64 (q : Nat)))
        have HC2 := Lib.hid (ow_far (ow_far HB2.out (a := ⟨g3, f q, none⟩) (by simp [Value.ownBlock]; exact hne23) (.int .i64 (k : Int))) (a := ⟨g3, f k, none⟩) (by simp [Value.ownBlock]; exact hne23) (.int .i64 (q : Nat)))
        have HC4 : Hid (New w ((W2.setCell ⟨g3, f q, none⟩ (.int .i64 (k : Int))).setCell ⟨g3, f k, none⟩ (.int .i64 (q : Nat)))) := Lib.hid ((HB4.out.setCell (by have := HG.out; show _ ≤ g3; omega) _).setCell (by have := HG.out; show _ ≤ g3; omega) _)
        have hx20 : (0 : Int) ≤ (f k : Nat) := by omega
        have hx2m : ((f k : Nat) : Int) < (n : Int) := by omega
        go_wp2_with fail
        go_region
        rw [← HE3.out] at HC3
        rw [← HE2.out] at HC2
        replace HC1 := Lib.hid (ow_new HC1.out (New.refl _).drew)
        replace HC2 := Lib.hid (ow_new HC2.out (New.refl _).drew)
        replace HC3 := Lib.hid (ow_new HC3.out (New.refl _).drew)
        replace HC4 := Lib.hid (New.drew HC4.out)
        clear HB1 HB2 HB3 HB4 d1 e1 d2 e2 hs1 hs2 hr1 hr2
        obtain ⟨W3, hW3⟩ : ∃ z, ((W2.setCell ⟨g3, f q, none⟩ (.int .i64 (k : Int))).setCell ⟨g3, f k, none⟩ (.int .i64 (q : Nat))).drew = z := ⟨_, rfl⟩
        rw [hW3] at HC1 HC2 HC3 HC4 ⊢
        clear hW3
        go_wp2
        exact ⟨⟨k + 1, by omega, by go_num, HC1.out, HC2.out, HC3.out, HC4.out⟩, by simp [intOf]; omega⟩
      · obtain rfl : k = m := by omega
        have hE : ctI cl k = cl := by rw [← HL.out]; exact ctI_all cl
        rw [hE] at HO1
        clear hE
        have HIN : Hid (∀ z ∈ cl, In64 z) := Lib.hid (by
          intro z hz
          obtain ⟨i, hi, rfl⟩ := List.getElem_of_mem hz
          have := HR.out.2 i hi
          rw [List.getD_eq_getElem?_getD, List.getElem?_eq_getElem hi, Option.getD_some] at this
          unfold In64; omega)
        obtain ⟨ar, cr, he, hzr⟩ := ZRow.of_owns HO1.out (by omega) HIN.out
        cases he
        have HZR := Lib.hid hzr
        clear hzr
        go_wp2_with fail
        go_ret2
        exact ⟨_, _, rfl, HZR.out, HN.out⟩
end Go.Proofs.Ytaajphopnmdmcaa
