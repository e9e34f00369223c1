/- subset.Pick; the document's own Pick. -/
import Derived.Test.YtaajphopnmdmcaaSubA
namespace Go.Proofs.Ytaajphopnmdmcaa
open Go Go.RowKit Go.Bv
set_option linter.unusedVariables false
theorem liI_takes (f : Nat → Nat) {n m : Nat} (h : m ≤ n) : (liI f n).take m = liI f m := by
  apply ints_eq (n := m) (by rw [List.length_take, liI_len]; omega) (liI_len _ _)
  intro i hi
  rw [List.getD_eq_getElem?_getD, List.getElem?_take, if_pos hi, ← List.getD_eq_getElem?_getD, liI_get f (show i < n by omega), liI_get f hi]
theorem JF_at {n : Nat} {c : List Int} (h : rp2 n c) {k : Nat} (hk : k < c.length) : ∃ x : Nat, c.getD k 0 = (x : Int) ∧ JF c k = k + x ∧ k + x < n := by
  have h1 := h.2 k hk
  refine ⟨(c.getD k 0).toNat, by omega, rfl, by omega⟩
set_option maxRecDepth 100000 in
set_option maxHeartbeats 4000000 in
theorem pick_ok (n : Nat) (hn : n ≤ 256) (a : Option Addr) (m c : Nat) (l : List Int) (w : World) (h : ZRow w a m c l) (hl : rp2 n l) :
    Calls Try.prog 9 #[.int .i64 (n : Int), .slice a m c] w fun e w' => ∃ a' c', e = .returned (.tuple #[.slice a' (m : Nat) c', .int .i64 0]) ∧ ZRow w' a' m c' (pkI l) ∧ New w w' := by
  have HL := Lib.hid h.len_eq
  have HH := Lib.hid h
  have HR := Lib.hid hl
  have HF := Lib.hid (rp2_F hl)
  rw [HL.out] at HF
  have hmn : m ≤ n := by have := hl.1; rw [HL.out] at this; exact this
  have HS := Lib.hid (fun w => sorted_41 n w (by omega))
  have HZ : Hid (szE (n : Int) (m : Int) = 0) := Lib.hid (if_neg (by omega))
  have HSZ := Lib.hid (fun w => sizes_41 (n : Int) (m : Int) w)
  rw [HZ.out] at HSZ
  clear h hl HZ
  go_enter Try.func9, Try.ntmps9
  go_wp2_with fail
  refine (HSZ.out _).mono ?_
  rintro e w' ⟨rfl, hw⟩
  replace hw := hw.symm
  subst hw
  go_wp2_with fail
  go_loop [21] (fun i => ∃ k : Nat, k ≤ m ∧ i = .int .i64 (k : Int)) (fun i => m - (intOf i).toNat)
  case atStart => exact ⟨0, Nat.zero_le _, rfl⟩
  case round =>
    obtain ⟨k, hk, rfl⟩ := hrel
    by_cases hlt : (k : Int) < (m : Int)
    · obtain ⟨b, off, rfl, hc⟩ := HH.out.addr (by omega)
      have c1 := hc k (by omega)
      clear hc
      have hk0 : (0 : Int) ≤ (k : Int) := by omega
      obtain ⟨h1, h2⟩ := HR.out.2 k (by rw [HL.out]; omega)
      obtain ⟨y, hy⟩ : ∃ z, l.getD k 0 = z := ⟨_, rfl⟩
      rw [hy] at c1 h1 h2
      clear hy
      have h1' : ¬ y < 0 := by omega
      have h2' : ¬ (n : Int) - 1 - (k : Int) < y := by omega
      go_wp2
      exact ⟨⟨k + 1, by omega, by go_num⟩, by simp [intOf]; omega⟩
    · obtain rfl : k = m := by omega
      go_wp2_with fail
      refine (HS.out _).mono ?_
      rintro e w9 ⟨g, rfl, how, hnew⟩
      have HO := Lib.hid how
      have HN := Lib.hid hnew
      have hgb : w.heap.size ≤ g := (ow_in how).1
      clear how hnew
      go_wp2_with fail
      go_loopw [41] (fun iv wr => ∃ j : Nat, j ≤ k ∧ iv = .int .i64 (j : Int) ∧ wr.ownsRow w.heap.size 3 1 (.slice (some ⟨g, 0, none⟩) n n) n ((liI (s2 (JF l) j) n).map fun x => .int .i64 x) ∧ New w wr) (fun iv _ => k - (intOf iv).toNat)
      case atStart => exact ⟨0, Nat.zero_le _, rfl, HO.out, HN.out⟩
      case round =>
        clear HO HN
        obtain ⟨j, hj, rfl, hown, hnew⟩ := hrel
        have HO2 := Lib.hid hown
        have HN2 := Lib.hid hnew
        obtain ⟨wq, hwq⟩ : ∃ z, z = wr := ⟨_, rfl⟩
        rw [← hwq] at HO2 HN2 ⊢
        clear hown hnew hwq
        by_cases hlt2 : (j : Int) < (k : Int)
        · have hj0 : (0 : Int) ≤ (j : Int) := by omega
          have hjn : (j : Int) < (n : Int) := by omega
          obtain ⟨b, off, rfl, hc⟩ := (HH.out.stay HN2.out).addr (by omega)
          have c1 := hc j (by omega)
          clear hc
          obtain ⟨x, hx, hJ, hJn⟩ := JF_at HR.out (k := j) (by rw [HL.out]; omega)
          rw [hx] at c1
          have HST : Hid (s2 (JF l) (j + 1) = sw (s2 (JF l) j) j (j + x)) := Lib.hid (by show sw _ _ _ = _; rw [hJ])
          obtain ⟨f, hf⟩ : ∃ f, s2 (JF l) j = f := ⟨_, rfl⟩
          rw [hf] at HO2 HST
          obtain ⟨q, hq⟩ : ∃ q, j + x = q := ⟨_, rfl⟩
          rw [hq] at hJn HST
          have hq1 : (j : Int) + (x : Int) = (q : Int) := by omega
          have hq0 : (0 : Int) ≤ (q : Int) := by omega
          have hqn : (q : Int) < (n : Int) := by omega
          clear hx hJ hf
          obtain ⟨hci, hfi⟩ := ow_int HO2.out (k := j) (by omega)
          obtain ⟨hcq, hfq⟩ := ow_int HO2.out (k := q) hJn
          rw [liI_get f (show j < n by omega)] at hci
          rw [liI_get f hJn] at hcq
          obtain ⟨hs1, hs2⟩ := ow_int (l := (liI f n).set j (f q : Int)) (by rw [List.map_set]; exact ow_set HO2.out j (.int .i64 (f q : Nat))) (k := q) hJn
          have HO3 : Hid (((wq.setCell ⟨g, j, none⟩ (.int .i64 (f q : Nat))).setCell ⟨g, q, none⟩ (.int .i64 (f j : Nat))).ownsRow w.heap.size 3 1 (.slice (some ⟨g, 0, none⟩) n n) n ((liI (s2 (JF l) (j + 1)) n).map fun x => .int .i64 x)) := Lib.hid (by
            rw [HST.out, ← liI_sw f (show j < n by omega) hJn, List.map_set, List.map_set]
            exact ow_set (ow_set HO2.out _ _) _ _)
          have HN3 : Hid (New w ((wq.setCell ⟨g, j, none⟩ (.int .i64 (f q : Nat))).setCell ⟨g, q, none⟩ (.int .i64 (f j : Nat)))) := Lib.hid ((HN2.out.setCell hgb _).setCell hgb _)
          go_wp2_with fail
          go_region
          have HO4 := Lib.hid (ow_new HO3.out (New.refl _).drew)
          have HN4 := Lib.hid (New.drew HN3.out)
          clear HO3 HN3 hs1 hs2 c1 hci hcq hfi hfq
          obtain ⟨W2, hW2⟩ : ∃ z, ((wq.setCell ⟨g, j, none⟩ (.int .i64 (f q : Nat))).setCell ⟨g, q, none⟩ (.int .i64 (f j : Nat))).drew = z := ⟨_, rfl⟩
          rw [hW2] at HO4 HN4 ⊢
          clear hW2
          go_wp2
          exact ⟨⟨j + 1, by omega, by go_num, HO4.out, HN4.out⟩, by simp [intOf]; omega⟩
        · obtain rfl : j = k := by omega
          obtain ⟨_, _, he, hz⟩ := ZRow.of_owns HO2.out (by omega) (in64_li _ (fun x hx => by have := s2_lt HF.out j (Nat.le_refl _) x hx; omega))
          cases he
          have hzs := hz.slice 0 j j (by omega) (Nat.le_refl _) (by omega)
          rw [List.drop_zero, liI_takes _ hmn] at hzs
          have HZR : Hid (ZRow wq (some ⟨g, 0, none⟩) j j (pkI l)) := Lib.hid (by
            unfold pkI; rw [HL.out]; exact hzs)
          clear hz hzs
          have hj0 : (0 : Int) ≤ (j : Int) := by omega
          have hjn : (j : Int) ≤ (n : Int) := by omega
          go_wp2
          go_ret2
          exact ⟨_, _, rfl, HZR.out, HN2.out⟩
set_option maxRecDepth 100000 in
set_option maxHeartbeats 4000000 in
theorem pickr_41 (n : Nat) (hn : n ≤ 100000) (a : Option Addr) (m c : Nat) (l : List Int) (w : World) (h : ZRow w a m c l) (hl : rp2 n l) :
    Calls Try.prog 13 #[.int .i64 (n : Int), .slice a m c] w fun e w' => ∃ a' c', e = .returned (.slice a' (m : Nat) c') ∧ ZRow w' a' m c' (pkI l) ∧ New w w' := by
  obtain ⟨i0, hi, hz0, hz1, hz2⟩ := info_parts info_int40
  have HL := Lib.hid h.len_eq
  have HH := Lib.hid h
  have HR := Lib.hid hl
  have HF := Lib.hid (rp2_F hl)
  rw [HL.out] at HF
  have hmn : m ≤ n := by have := hl.1; rw [HL.out] at this; exact this
  have HS := Lib.hid (fun w => row_ref40 n w (by omega))
  have HIN : Hid (∀ z ∈ pkI l, In64 z) := Lib.hid (by
    unfold pkI
    rw [HL.out]
    exact in64_li _ (fun x hx => by have := s2_lt HF.out m (Nat.le_refl _) x (by omega); omega))
  have HPK : Hid (liI (s2 (JF l) m) m = pkI l) := Lib.hid (by unfold pkI; rw [HL.out])
  clear h hl
  go_enter Try.func13, Try.ntmps13
  go_wp2_with fail
  refine (HS.out _).mono ?_
  rintro e w9 ⟨v, rfl, how, hnew⟩
  have HO := Lib.hid how
  have HN := Lib.hid hnew
  clear how hnew
  rcases Nat.eq_zero_or_pos m with hm0 | hm0
  · subst hm0
    have HZR : Hid (ZRow w9 none 0 0 (pkI l)) := Lib.hid (by rw [List.eq_nil_of_length_eq_zero (show (pkI l).length = 0 by rw [pkI_len, HL.out])]; exact nil_zrow _)
    go_wp2_with fail
    go_loop [6, 13] (fun o i => o = .slice none 0 0 ∧ i = .int .i64 0) (fun _ _ => 0)
    case atStart => exact ⟨rfl, rfl⟩
    case round =>
      obtain ⟨rfl, rfl⟩ := hrel
      go_wp2
      go_ret
      exact ⟨none, 0, rfl, HZR.out, HN.out⟩
  · obtain ⟨g, cap, rfl, hgb, hg9, hnc, hcap⟩ := ow_shape HO.out (by omega)
    go_wp2_with fail
    go_loopw [5, 6, 13] (fun rv bv iv wr => ∃ (k off : Nat), k ≤ m ∧ iv = .int .i64 (k : Int) ∧ rv = .slice (some ⟨g, off, none⟩) (n - k) (cap - k) ∧ Hid (k < n → off = k) ∧ wr.ownsRow w.heap.size 3 1 (.slice (some ⟨g, 0, none⟩) n cap) n ((liI (b2 (JF l) k) n).map fun x => .int .i64 x) ∧ wr.ownsRow w9.heap.size 3 1 bv k ((liI (s2 (JF l) m) k).map fun x => .int .i64 x) ∧ New w wr ∧ Hid (w9.heap.size ≤ wr.heap.size)) (fun _ _ iv _ => m - (intOf iv).toNat)
    case atStart => exact ⟨0, 0, Nat.zero_le _, rfl, rfl, Lib.hid (fun _ => rfl), HO.out, World.ownsRow_nil _ _ _ 1, HN.out, Lib.hid (Nat.le_refl _)⟩
    case round =>
      obtain ⟨k, off, hk, rfl, rfl, HOF, hrow, hbk, hnew, HSZ⟩ := hrel
      have HRW := Lib.hid hrow
      have HBK := Lib.hid hbk
      have HN2 := Lib.hid hnew
      obtain ⟨wq, hwq⟩ : ∃ z, z = wr := ⟨_, rfl⟩
      rw [← hwq] at HRW HBK HN2 HSZ ⊢
      clear hrow hbk hnew hwq
      by_cases hlt : (k : Int) < (m : Int)
      · obtain rfl : off = k := HOF.out (by omega)
        have hk0 : (0 : Int) ≤ (off : Int) := by omega
        obtain ⟨b, o2, rfl, hc⟩ := (HH.out.stay HN2.out).addr (by omega)
        have c1 := hc off (by omega)
        clear hc
        obtain ⟨x, hx, hJ, hJn⟩ := JF_at HR.out (k := off) (by rw [HL.out]; omega)
        rw [hx] at c1
        have hbs : liI (s2 (JF l) m) (off + 1) = liI (s2 (JF l) m) off ++ [((b2 (JF l) off (off + x) : Nat) : Int)] := by
          rw [liI_succ, s2_put HF.out (show off < m by omega), ← hJ, b2_s2 HF.out off (by omega) (JF l off) (by rw [hJ]; omega)]
        have hst : liI (b2 (JF l) (off + 1)) n = (liI (b2 (JF l) off) n).set (off + x) ((b2 (JF l) off off : Nat) : Int) := by
          rw [liI_set _ _ hJn]
          apply liI_ext
          intro y _
          show (if y = JF l off then _ else _) = _
          rw [hJ]
        obtain ⟨f, hf⟩ : ∃ f, b2 (JF l) off = f := ⟨_, rfl⟩
        rw [hf] at HRW hbs hst
        have HBS := Lib.hid hbs
        have HST := Lib.hid hst
        clear hx hJ hf hbs hst
        obtain ⟨bl, hbl⟩ : ∃ z, liI (s2 (JF l) m) off = z := ⟨_, rfl⟩
        rw [hbl] at HBK HBS
        clear hbl
        obtain ⟨hci, hfi⟩ := ow_int HRW.out (k := off) (by omega)
        obtain ⟨hcq, hfq⟩ := ow_int HRW.out (k := off + x) hJn
        rw [liI_get f (show off < n by omega)] at hci
        rw [liI_get f hJn] at hcq
        have hx0 : (0 : Int) ≤ (x : Int) := by omega
        have hxn : (x : Int) < ((n - off : Nat) : Int) := by omega
        have h0n : (0 : Int) < ((n - off : Nat) : Int) := by omega
        have hbk := HBK.out
        have hrow := HRW.out
        have hnew := HN2.out
        have hne : (Value.slice (some ⟨g, 0, none⟩) n cap).ownBlock ≠ u6.ownBlock := fun e' => by
          have h1 := own_base hbk g (by rw [← e']; rfl)
          omega
        go_wp2_with (at_builtin; refine wpList_append_own _ rfl _ _ 22 rfl w9.heap.size 3 i0 (.int .i64 0) 1 8 Try.underlying22 hi hz0 hz1 hz2 rfl (by decide) _ off _ rfl (hbk.alloc _) ⟨wq.heap.size, 0, none⟩ 1 1 [.int .i64 (f (off + x) : Nat)] rfl rfl ?d1 ?d2 ?d3 ?d4 ?d5 ?_)
        try (case d1 => exact one_cell wq _ _)
        try (case d2 => first | rfl | (intro u hu; simp at hu; subst hu; rfl))
        try (case d3 => first | (unfold maxLen; omega) | omega)
        try (case d4 => omega)
        try (case d5 => first | (simp; have := HSZ.out; omega) | (have := HSZ.out; omega))
        intro v' w1 how hgr _
        have hrow1 := (hrow.alloc (.cells #[.int .i64 (f (off + x) : Nat)] 3)).kept hgr (.inr hne)
        have hnew1 := (hnew.alloc (.cells #[.int .i64 (f (off + x) : Nat)] 3)).grown' hgr (fun k hk => by
          have h1 := own_base hbk k hk
          have h2 := HN.out.le
          omega)
        have hsz1 : w9.heap.size ≤ w1.heap.size := by
          have h1 := hgr.size
          have h2 := HSZ.out
          simp at h1
          omega
        have HB2 : Hid (w1.ownsRow w9.heap.size 3 1 v' (off + 1) ((liI (s2 (JF l) m) (off + 1)).map fun x => .int .i64 x)) := Lib.hid (by
          rw [HBS.out, List.map_append]; exact how)
        obtain ⟨hci1, hfi1⟩ := ow_int hrow1 (k := off) (by omega)
        obtain ⟨hcq1, hfq1⟩ := ow_int hrow1 (k := off + x) hJn
        rw [liI_get f (show off < n by omega)] at hci1
        have HQ2 : Hid ((w1.setCell ⟨g, off + x, none⟩ (.int .i64 (f off : Nat))).ownsRow w.heap.size 3 1 (.slice (some ⟨g, 0, none⟩) n cap) n ((liI (b2 (JF l) (off + 1)) n).map fun x => .int .i64 x)) := Lib.hid (by
          rw [HST.out, List.map_set]; exact ow_set hrow1 _ _)
        have HB3 : Hid ((w1.setCell ⟨g, off + x, none⟩ (.int .i64 (f off : Nat))).ownsRow w9.heap.size 3 1 v' (off + 1) ((liI (s2 (JF l) m) (off + 1)).map fun x => .int .i64 x)) := Lib.hid (ow_far HB2.out (fun e' => by
          have := own_base HB2.out g e'
          omega) _)
        have HN5 : Hid (New w (w1.setCell ⟨g, off + x, none⟩ (.int .i64 (f off : Nat)))) := Lib.hid (hnew1.setCell hgb _)
        have HS5 : Hid (w9.heap.size ≤ (w1.setCell ⟨g, off + x, none⟩ (.int .i64 (f off : Nat))).heap.size) := Lib.hid (by simpa using hsz1)
        clear how hgr hrow hnew hbk hrow1 hnew1 hsz1 HB2 c1 hci hfi hcq hfq hne HST HBS
        have e1 : n - off - 1 = n - (off + 1) := by omega
        have e2 : cap - off - 1 = cap - (off + 1) := by omega
        by_cases hck : cap - off = 1
        · go_wp2_with fail
          have e3 : (0 : Nat) = cap - (off + 1) := by omega
          refine ⟨⟨off + 1, off, by omega, by go_num, ?_, Lib.hid (fun h => by omega), HQ2.out, HB3.out, HN5.out, HS5⟩, by simp [intOf]; omega⟩
          rw [← e1, ← e3]
        · go_wp2_with fail
          refine ⟨⟨off + 1, off + 1, by omega, by go_num, ?_, Lib.hid (fun h => rfl), HQ2.out, HB3.out, HN5.out, HS5⟩, by simp [intOf]; omega⟩
          rw [← e1, ← e2]
      · obtain rfl : k = m := by omega
        have how := HBK.out
        rw [HPK.out] at how
        obtain ⟨a1, c1, rfl, hz⟩ := ZRow.of_owns how (by omega) HIN.out
        have HZR := Lib.hid hz
        clear how hz HBK HRW
        go_wp2
        go_ret
        exact ⟨a1, c1, rfl, HZR.out, HN2.out⟩
end Go.Proofs.Ytaajphopnmdmcaa
