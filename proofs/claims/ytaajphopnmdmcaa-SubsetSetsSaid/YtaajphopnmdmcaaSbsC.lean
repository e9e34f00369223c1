/- The document's own Move of layer 41; subset.AimSet where it refuses. -/
import Derived.Test.YtaajphopnmdmcaaSbsM
import Derived.Test.YtaajphopnmdmcaaSubF
namespace Go.Proofs.Ytaajphopnmdmcaa
open Go Go.RowKit Go.Bv
set_option linter.unusedVariables false
theorem has_41r (a : Option Addr) (m cap : Nat) (v : Int) (l : List Int) (w : World) (h : ZRow w a m cap l) :
    Calls Try.prog 46 #[.slice a m cap, .int .i64 v] w fun e w' => e = .returned (.bool (l.contains v)) ∧ w' = w := by
  have hm := h.most
  have HH := Lib.hid h
  have HNO : Hid ((∀ i, i < m → l.getD i 0 ≠ v) → l.contains v = false) := Lib.hid (fun h2 => by
    rw [← Bool.not_eq_true]
    intro h9
    obtain ⟨j, hj, he⟩ := mem_at.1 (show v ∈ l by simpa using h9)
    exact h2 j (by rw [← h.len_eq]; exact hj) he)
  have HYES : Hid (∀ i, i < m → l.getD i 0 = v → l.contains v = true) := Lib.hid (fun i hi he => by
    have : v ∈ l := mem_at.2 ⟨i, by rw [h.len_eq]; exact hi, he⟩
    simpa using this)
  obtain ⟨B, hB⟩ : ∃ B, l.contains v = B := ⟨_, rfl⟩
  rw [hB] at HNO HYES ⊢
  clear h hB
  go_enter Try.func46, Try.ntmps46
  go_wp2_with fail
  go_loop [9] (fun iv => ∃ j : Nat, j ≤ m ∧ iv = .int .i64 (j : Int) ∧ Hid (∀ i, i < j → l.getD i 0 ≠ v)) (fun iv => m - (intOf iv).toNat)
  case atStart => exact ⟨0, Nat.zero_le _, rfl, Lib.hid (fun i hi => by omega)⟩
  case round =>
    obtain ⟨j, hj, rfl, HJ⟩ := hrel
    by_cases hlt : (j : Int) < (m : Int)
    · have hj0 : (0 : Int) ≤ (j : Int) := by omega
      obtain ⟨b, off, rfl, hc⟩ := HH.out.addr (by omega)
      have c1 := hc j (by omega)
      clear hc
      obtain ⟨x, hx⟩ : ∃ x, l.getD j 0 = x := ⟨_, rfl⟩
      rw [hx] at c1
      have HX := Lib.hid hx
      clear hx
      by_cases he : x = v
      · subst he
        have HF := Lib.hid (HYES.out j (by omega) HX.out)
        have hb : (x == x) = true := by simp
        go_wp2
        go_ret
        rw [HF.out]; exact ⟨rfl, rfl⟩
      · have hb : (x == v) = false := by rw [beq_eq_false_iff_ne]; exact he
        have HF : Hid (∀ i, i < j + 1 → l.getD i 0 ≠ v) := Lib.hid (fun i hi => by
          by_cases e : i = j
          · subst e; rw [HX.out]; exact he
          · exact HJ.out i (by omega))
        go_wp2
        exact ⟨⟨j + 1, by omega, by go_num, HF⟩, by simp [intOf]; omega⟩
    · obtain rfl : j = m := by omega
      have HF := Lib.hid (HNO.out HJ.out)
      go_wp2
      go_ret
      rw [HF.out]; exact ⟨rfl, rfl⟩
theorem ow_some {w : World} {base n : Nat} {e : TypeId} {v : Value} {xs : List Value} (h : w.ownsRow base e 1 v n xs) (h0 : 0 < n) : ∃ g cap, v = .slice (some ⟨g, 0, none⟩) n cap := by
  obtain ⟨hl, h | ⟨g, cap, cur, hv, _⟩⟩ := h
  · obtain ⟨_, h2⟩ := h
    rw [h2] at hl
    simp at hl
    omega
  · exact ⟨g, cap, hv⟩
set_option maxRecDepth 100000 in
set_option maxHeartbeats 4000000 in
theorem rmove_41 (n : Nat) (hn : n ≤ 256) (a b : Option Addr) (m c c2 : Nat) (s t : List Int) (w : World) (h : ZRow w a m c s) (h2 : ZRow w b m c2 t) (hs : stP n s) (ht : stP n t) :
    Calls Try.prog 28 #[.int .i64 (n : Int), .slice a m c, .slice b m c2] w fun e w' => ∃ a' c', e = .returned (.slice a' (n : Nat) c') ∧ ZRow w' a' n c' (mvI n s t) ∧ New w w' := by
  have hls := h.len_eq
  have hlt := h2.len_eq
  have hst : s.length = t.length := hls.trans hlt.symm
  have hmn : m ≤ n := by rw [← hls]; exact st_le hs
  have HRZ := Lib.hid (rv_zero hs ht hst)
  rw [hls] at HRZ
  have HAT := Lib.hid (fun (x a : Nat) hx hxs ha => rv_at hs ht hst (x := x) (a := a) hx hxs ha)
  have HSR : Hid (∀ j, j < m → 0 ≤ s.getD j 0 ∧ s.getD j 0 < (n : Int)) := Lib.hid (fun j hj => hs.1 j (by omega))
  have HIN : Hid (∀ z ∈ mvI n s t, In64 z) := Lib.hid (in64_li _ (fun x hx => by have := mvF_lt hs ht hst hx; omega))
  have HRW := Lib.hid (row_ref40 n w (by omega))
  have HH := Lib.hid h
  have HH2 := Lib.hid h2
  clear h h2 hs ht hls hlt hst
  go_enter Try.func28, Try.ntmps28
  go_wp2_with fail
  refine HRW.out.mono ?_
  rintro e w1 ⟨v, rfl, how, hn1⟩
  have HO := Lib.hid how
  have HN := Lib.hid hn1
  clear how hn1 HRW
  go_wp2_with fail
  go_loopw [15] (fun iv wr => ∃ j : Nat, j ≤ m ∧ iv = .int .i64 (j : Int) ∧ wr.ownsRow w.heap.size 3 1 v n ((stL (liI (fun x => x) n) s t j).map fun x => .int .i64 x) ∧ New w wr) (fun iv _ => m - (intOf iv).toNat)
  case atStart => exact ⟨0, Nat.zero_le _, rfl, HO.out, HN.out⟩
  case round =>
    clear HO HN
    obtain ⟨j, hj, rfl, hown, hnew⟩ := hrel
    obtain ⟨wq, hwq⟩ : ∃ z, z = wr := ⟨_, rfl⟩
    rw [← hwq] at hown hnew ⊢
    clear hwq
    by_cases hlt : (j : Int) < (m : Int)
    · have hj0 : (0 : Int) ≤ (j : Int) := by omega
      obtain ⟨hx0, hxn⟩ := HSR.out j (by omega)
      obtain ⟨b1, off1, rfl, hc1⟩ := (HH.out.stay hnew).addr (by omega)
      have d1 := hc1 j (by omega)
      clear hc1
      obtain ⟨b2, off2, rfl, hc2⟩ := (HH2.out.stay hnew).addr (by omega)
      have d2 := hc2 j (by omega)
      clear hc2
      have HST : Hid (stL (liI (fun x => x) n) s t (j + 1) = (stL (liI (fun x => x) n) s t j).set (s.getD j 0).toNat (t.getD j 0)) := Lib.hid rfl
      obtain ⟨x, hx⟩ : ∃ x : Nat, s.getD j 0 = (x : Int) := ⟨(s.getD j 0).toNat, by omega⟩
      obtain ⟨y, hy⟩ : ∃ y, t.getD j 0 = y := ⟨_, rfl⟩
      rw [hx] at d1 hx0 hxn HST
      rw [hy] at d2 HST
      rw [Int.toNat_natCast] at HST
      clear hx hy
      obtain ⟨g, cap, rfl⟩ := ow_some hown (by omega)
      have hgb := (ow_in hown).1
      obtain ⟨d3, e3⟩ := ow_int hown (k := x) (by omega)
      have HO2 : Hid (((wq.setCell ⟨g, x, none⟩ (.int .i64 y)).drew).ownsRow w.heap.size 3 1 (.slice (some ⟨g, 0, none⟩) n cap) n ((stL (liI (fun x => x) n) s t (j + 1)).map fun x => .int .i64 x)) := Lib.hid (by
        rw [HST.out, List.map_set]; exact ow_new (ow_set hown x _) (New.refl _).drew)
      have HN2 : Hid (New w ((wq.setCell ⟨g, x, none⟩ (.int .i64 y)).drew)) := Lib.hid (New.drew (hnew.setCell hgb _))
      clear hown hnew HST
      go_wp2_with fail
      go_region
      clear d1 d2 d3 e3
      obtain ⟨W2, hW2⟩ : ∃ z, (wq.setCell ⟨g, x, none⟩ (.int .i64 y)).drew = z := ⟨_, rfl⟩
      rw [hW2] at HO2 HN2 ⊢
      clear hW2
      go_wp2
      exact ⟨⟨j + 1, by omega, by go_num, HO2.out, HN2.out⟩, by simp [intOf]; omega⟩
    · have hjm : j = m := by omega
      rw [hjm, HRZ.out] at hown
      have HO := Lib.hid hown
      have HN := Lib.hid hnew
      clear hjm HSR hown hnew
      go_wp2_with fail
      go_loopw [9, 10] (fun av xv wr => ∃ a x : Nat, x ≤ n ∧ a ≤ n ∧ av = .int .i64 (a : Int) ∧ xv = .int .i64 (x : Int) ∧ Hid ((rsN t a).length = (rsN s x).length) ∧ wr.ownsRow w.heap.size 3 1 v n ((rvL n s t x).map fun x => .int .i64 x) ∧ New w wr) (fun _ xv _ => n - (intOf xv).toNat)
      case atStart => exact ⟨0, 0, Nat.zero_le _, Nat.zero_le _, rfl, rfl, Lib.hid rfl, HO.out, HN.out⟩
      case round =>
        clear HO HN
        obtain ⟨a, x, hx, ha, rfl, rfl, HA, hown, hnew⟩ := hrel
        obtain ⟨wz, hwz⟩ : ∃ z, z = wr := ⟨_, rfl⟩
        rw [← hwz] at hown hnew ⊢
        clear hwz
        by_cases hlt2 : (x : Int) < (n : Int)
        · have hx0 : (0 : Int) ≤ (x : Int) := by omega
          have HC := Lib.hid (has_41r _ m c (x : Int) s wz (HH.out.stay hnew))
          by_cases hs1 : (x : Int) ∈ s
          · have hsc : s.contains (x : Int) = true := by simpa using hs1
            rw [hsc] at HC
            have HO2 : Hid (wz.ownsRow w.heap.size 3 1 v n ((rvL n s t (x + 1)).map fun x => .int .i64 x)) := Lib.hid (by rw [rv_in hs1]; exact hown)
            have HA2 : Hid ((rsN t a).length = (rsN s (x + 1)).length) := Lib.hid (by rw [rsN_succ, if_pos hs1, List.append_nil]; exact HA.out)
            have HN2 := Lib.hid hnew
            clear hown hnew hs1 hsc HA
            go_wp2_with fail
            refine HC.out.mono ?_
            rintro e w' ⟨rfl, hw⟩
            replace hw := hw.symm
            subst hw
            clear HC
            go_wp2
            exact ⟨⟨a, x + 1, by omega, ha, rfl, by go_num, HA2, HO2.out, HN2.out⟩, by simp [intOf]; omega⟩
          · have hsc : s.contains (x : Int) = false := by simpa using hs1
            rw [hsc] at HC
            have HR := Lib.hid (fun a' ha' => HAT.out x a' (by omega) hs1 ha')
            have HS1 := Lib.hid hs1
            have HOW := Lib.hid hown
            have HNW := Lib.hid hnew
            clear hsc hs1 hown hnew
            go_wp2_with fail
            refine HC.out.mono ?_
            rintro e w' ⟨rfl, hw⟩
            replace hw := hw.symm
            subst hw
            clear HC
            go_wp2_with fail
            go_loop [9] (fun av => ∃ a : Nat, av = .int .i64 (a : Int) ∧ Hid ((rsN t a).length = (rsN s x).length)) (fun av => n - (intOf av).toNat)
            case atStart => exact ⟨a, rfl, HA⟩
            case round =>
              clear HA
              obtain ⟨a2, rfl, HA⟩ := hrel
              obtain ⟨han, hmv⟩ := HR.out a2 HA.out
              have HC2 := Lib.hid (has_41r _ m c2 (a2 : Int) t wz (HH2.out.stay HNW.out))
              have ha0 : (0 : Int) ≤ (a2 : Int) := by omega
              by_cases ht1 : (a2 : Int) ∈ t
              · have htc : t.contains (a2 : Int) = true := by simpa using ht1
                rw [htc] at HC2
                have HA3 : Hid ((rsN t (a2 + 1)).length = (rsN s x).length) := Lib.hid (by rw [rsN_succ, if_pos ht1, List.append_nil]; exact HA.out)
                clear htc ht1 hmv
                go_wp2_with fail
                refine HC2.out.mono ?_
                rintro e w' ⟨rfl, hw⟩
                replace hw := hw.symm
                subst hw
                clear HC2
                go_wp2
                exact ⟨⟨a2 + 1, by go_num, HA3⟩, by simp [intOf]; omega⟩
              · have htc : t.contains (a2 : Int) = false := by simpa using ht1
                rw [htc] at HC2
                have HMV := Lib.hid (hmv ht1)
                obtain ⟨g, cap, rfl⟩ := ow_some HOW.out (by omega)
                have hgb := (ow_in HOW.out).1
                obtain ⟨d3, e3⟩ := ow_int HOW.out (k := x) (by omega)
                have HO2 : Hid ((wz.setCell ⟨g, x, none⟩ (.int .i64 (a2 : Int))).ownsRow w.heap.size 3 1 (.slice (some ⟨g, 0, none⟩) n cap) n ((rvL n s t (x + 1)).map fun x => .int .i64 x)) := Lib.hid (by
                  rw [rv_out (by omega), HMV.out, List.map_set]; exact ow_set HOW.out x _)
                have HN2 : Hid (New w (wz.setCell ⟨g, x, none⟩ (.int .i64 (a2 : Int)))) := Lib.hid (HNW.out.setCell hgb _)
                have HA3 : Hid ((rsN t (a2 + 1)).length = (rsN s (x + 1)).length) := Lib.hid (by
                  rw [rsN_succ, if_neg ht1, rsN_succ, if_neg HS1.out, List.length_append, List.length_append, HA.out]; rfl)
                clear htc ht1 hmv HOW HNW
                go_wp2_with fail
                refine HC2.out.mono ?_
                rintro e w' ⟨rfl, hw⟩
                replace hw := hw.symm
                subst hw
                clear HC2
                go_wp2
                exact ⟨⟨a2 + 1, x + 1, by omega, by omega, by go_num, by go_num, HA3, HO2.out, HN2.out⟩, by simp [intOf]; omega⟩
        · have hxn : x = n := by omega
          rw [hxn, rv_all] at hown
          obtain ⟨a', c', he, hz⟩ := ZRow.of_owns hown (by omega) HIN.out
          subst he
          have HZ := Lib.hid hz
          have HN := Lib.hid hnew
          clear hown hz hnew hxn
          go_wp2
          go_ret
          exact ⟨_, _, rfl, HZ.out, HN.out⟩
theorem aims41_size (n : Int) (a a2 : Option Addr) (nl c m c2 : Nat) (w : World) (h : szE n (m : Int) = 1) :
    Calls Try.prog 29 #[.slice a nl c, .int .i64 n, .slice a2 m c2] w fun e w' => e = .returned (.tuple #[.slice none 0 0, .int .i64 1]) ∧ w' = w := by
  have HC := Lib.hid (chc41_size n a2 m c2 w h)
  clear h
  go_enter Try.func29, Try.ntmps29
  go_wp2_with fail
  refine HC.out.mono ?_
  rintro e w' ⟨rfl, hw⟩
  replace hw := hw.symm
  subst hw
  go_wp2
  go_ret2
  exact ⟨rfl, rfl⟩
theorem aims41_bad (n : Nat) (hn : n ≤ 256) (a a2 : Option Addr) (nl c m c2 : Nat) (s : List Int) (w : World) (h : ZRow w a2 m c2 s) (hm : m ≤ n) (hb : (ipB n s && acB s m) = false) :
    Calls Try.prog 29 #[.slice a nl c, .int .i64 (n : Int), .slice a2 m c2] w fun e w' => e = .returned (.tuple #[.slice none 0 0, .int .i64 2]) ∧ New w w' := by
  have hsl := h.len_eq
  rcases hp : ipB n s with _ | _
  · have HC := Lib.hid (chc41_bad n hn a2 m c2 s w h hm (fun h9 => by rw [ipB_iff.2 h9] at hp; cases hp))
    clear h hb hp hsl
    go_enter Try.func29, Try.ntmps29
    go_wp2_with fail
    refine HC.out.mono ?_
    rintro e w1 ⟨rfl, hn1⟩
    have HN := Lib.hid hn1
    clear hn1
    go_wp2
    go_ret2
    exact ⟨rfl, HN.out⟩
  · rw [hp, Bool.true_and] at hb
    obtain ⟨cs, hcs, hrs, hpe⟩ := pk_all (n := n) (ipB_iff.1 hp) (by omega)
    have HCH := Lib.hid (chc_41 n hn a2 m c2 cs w (by rw [hpe]; exact h) hrs (by omega))
    have HAS := Lib.hid (fun w' (hn' : New w w') => asc_q a2 m c2 s w' (h.stay hn'))
    rw [hb] at HAS
    clear h hb hp hsl hcs hrs hpe
    go_enter Try.func29, Try.ntmps29
    go_wp2_with fail
    refine HCH.out.mono ?_
    rintro e w1 ⟨a3, c3, rfl, hz, hn1⟩
    have HN := Lib.hid hn1
    clear hz hn1 HCH
    go_wp2_with fail
    refine (HAS.out _ HN.out).mono ?_
    rintro e w2 ⟨rfl, hn2⟩
    replace HN := Lib.hid (HN.out.trans hn2)
    clear hn2 HAS
    go_wp2
    go_ret2
    exact ⟨rfl, HN.out⟩
theorem aims41_no (n : Nat) (hn : n ≤ 256) (a b : Option Addr) (nl c m c2 : Nat) (l : List (BitVec 64)) (s : List Int) (w : World) (hl : QRow w a nl c l) (hz : ZRow w b m c2 s) (hm : m ≤ n) (hs : stP n s) (ha : acB s m = true) (hd : drS l (lmP n m) m = none) :
    Calls Try.prog 29 #[.slice a nl c, .int .i64 (n : Int), .slice b m c2] w fun e w' => e = .returned (.tuple #[.slice none 0 0, .int .i64 7]) ∧ New w w' := by
  have hsl := hz.len_eq
  obtain ⟨cs, hcs, hrs, hpe⟩ := pk_all (n := n) hs (by omega)
  have HCH := Lib.hid (chc_41 n hn b m c2 cs w (by rw [hpe]; exact hz) hrs (by omega))
  have HAS := Lib.hid (fun w' (hn' : New w w') => asc_q b m c2 s w' (hz.stay hn'))
  rw [ha] at HAS
  have HNT := Lib.hid (fun w' (hn' : New w w') => new_t a nl c l w' (hl.stay hn'))
  have HTK := Lib.hid (fun b w' (ht : Tape w' b b l 0) => take41_q b b n m l w' ht hn hm)
  have HD := Lib.hid hd
  clear hl hz hs ha hd hsl hcs hrs hpe
  go_enter Try.func29, Try.ntmps29
  go_wp2_with fail
  refine HCH.out.mono ?_
  rintro e w1 ⟨a3, c3, rfl, hz, hn1⟩
  have HN := Lib.hid hn1
  clear hz hn1 HCH
  go_wp2_with fail
  refine (HAS.out _ HN.out).mono ?_
  rintro e w2 ⟨rfl, hn2⟩
  replace HN := Lib.hid (HN.out.trans hn2)
  clear hn2 HAS
  go_wp2_with fail
  refine (HNT.out _ HN.out).mono ?_
  rintro e wB ⟨b, rfl, hb, ht, hn2⟩
  have HT := Lib.hid ht
  have HNB := Lib.hid hn2
  have HBB := Lib.hid hb
  clear ht hn2 hb HNT
  go_wp2_with fail
  refine (HTK.out _ _ HT.out).mono ?_
  rintro e wC (⟨ds2, k2, p1, p2, p3, p4, hd2, _⟩ | ⟨hd2, rfl, g9, ht9, hb9, _⟩)
  · rw [HD.out] at hd2; cases hd2
  have hnc : New w2 wC := hb9.new w2 HNB.out HBB.out HBB.out
  replace HN := Lib.hid (HN.out.trans hnc)
  clear ht9 hb9 hnc HT HNB HBB hd2 HTK
  go_wp2
  go_ret2
  exact ⟨rfl, HN.out⟩
end Go.Proofs.Ytaajphopnmdmcaa
