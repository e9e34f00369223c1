/- subset.AimSet where it aims; subset.Move with its row owned. -/
import Derived.Test.YtaajphopnmdmcaaSbsM
import Derived.Test.YtaajphopnmdmcaaSbsA
import Derived.Test.YtaajphopnmdmcaaSetA
namespace Go.Proofs.Ytaajphopnmdmcaa
open Go Go.RowKit Go.Bv
set_option linter.unusedVariables false
theorem ow_base {w : World} {base b2 n size : Nat} {e : TypeId} {v : Value} {xs : List Value} (h : w.ownsRow base e size v n xs) (hb : b2 ≤ base) : w.ownsRow b2 e size v n xs := by
  obtain ⟨hl, h | ⟨g, cap, cur, hv, hg, h2⟩⟩ := h
  · exact ⟨hl, .inl h⟩
  · exact ⟨hl, .inr ⟨g, cap, cur, hv, by omega, h2⟩⟩
set_option maxRecDepth 100000 in
set_option maxHeartbeats 4000000 in
theorem move_own (n : Nat) (hn : n ≤ 256) (a b : Option Addr) (m c c2 : Nat) (s t : List Int) (w : World) (h : ZRow w a m c s) (h2 : ZRow w b m c2 t) (hs : stP n s) (ht : stP n t) (ha : acB s m = true) (hb : acB t m = true) :
    Calls Try.prog 26 #[.int .i64 (n : Int), .slice a m c, .slice b m c2] w fun e w' => ∃ g, e = .returned (.tuple #[.slice (some ⟨g, 0, none⟩) (n : Nat) (n : Nat), .int .i64 0]) ∧ w'.ownsRow w.heap.size 3 1 (.slice (some ⟨g, 0, none⟩) n n) n ((mvI n s t).map fun x => .int .i64 x) ∧ New w w' := by
  have hls := h.len_eq
  have hlt := h2.len_eq
  have hmn := rsN_len hs.1 hs.2
  have hmt := rsN_len ht.1 ht.2
  have hfin := mv_fin hs ht (hls.trans hlt.symm)
  have HIN : Hid (∀ z ∈ mvI n s t, In64 z) := Lib.hid (in64_li _ (fun x hx => by have := mvF_lt hs ht (hls.trans hlt.symm) hx; omega))
  have HSZ := Lib.hid (fun w => sizes_41 (n : Int) 0 w)
  rw [show szE (n : Int) 0 = 0 from if_neg (by omega)] at HSZ
  have HP1 := Lib.hid (fun w' (hn' : New w w') => ispick_any n (by omega) a m c s w' (h.stay hn') (by omega))
  rw [show ipB n s = true from ipB_iff.2 hs] at HP1
  have HP2 := Lib.hid (fun w' (hn' : New w w') => ispick_any n (by omega) b m c2 t w' (h2.stay hn') (by omega))
  rw [show ipB n t = true from ipB_iff.2 ht] at HP2
  have HA1 := Lib.hid (fun w' (hn' : New w w') => asc_q a m c s w' (h.stay hn'))
  rw [ha] at HA1
  have HA2 := Lib.hid (fun w' (hn' : New w w') => asc_q b m c2 t w' (h2.stay hn'))
  rw [hb] at HA2
  have HRM := Lib.hid (fun w => rem_q n w)
  have HR1 := Lib.hid (fun w' bk (hn' : New w w') hb => rem1_q n (by omega) bk a m c s w' (h.stay hn') hb)
  have HR2 := Lib.hid (fun w' bk (hn' : New w w') hb => rem1_q n (by omega) bk b m c2 t w' (h2.stay hn') hb)
  have HMK := Lib.hid (make_int n (by omega))
  have HSR : Hid (∀ j, j < m → 0 ≤ s.getD j 0 ∧ s.getD j 0 < (n : Int)) := Lib.hid (fun j hj => hs.1 j (by omega))
  have HRR : Hid (∀ j, j < (rsN s n).length → 0 ≤ (rsI s n).getD j 0 ∧ (rsI s n).getD j 0 < (n : Int)) := Lib.hid (fun j hj => rsI_rt hj)
  rw [show (rsN t n).length = (rsN s n).length by omega] at HR2
  rw [hls] at hfin
  have hmm : m ≤ 256 := by omega
  have hRn : (rsN s n).length ≤ 256 := by omega
  have hb2 : ((m : Int) != (m : Int)) = false := by simp
  have HH := Lib.hid h
  have HH2 := Lib.hid h2
  clear hmn hmt hls hlt h h2 hs ht ha hb
  obtain ⟨R, hR⟩ : ∃ R, (rsN s n).length = R := ⟨_, rfl⟩
  rw [hR] at HR1 HR2 HRR hfin hRn
  clear hR
  obtain ⟨s', hs'⟩ : ∃ z, rsI s n = z := ⟨_, rfl⟩
  rw [hs'] at HR1 HRR hfin
  clear hs'
  obtain ⟨t', ht'⟩ : ∃ z, rsI t n = z := ⟨_, rfl⟩
  rw [ht'] at HR2 hfin
  clear ht'
  have HFIN := Lib.hid hfin
  clear hfin
  go_enter Try.func26, Try.ntmps26
  go_wp2_with fail
  refine (HSZ.out _).mono ?_
  rintro e w9 ⟨rfl, hw⟩
  replace hw := hw.symm
  subst hw
  clear HSZ
  go_wp2_with fail
  refine (HP1.out _ (New.refl _)).mono ?_
  rintro e w1 ⟨rfl, hn1⟩
  have HN := Lib.hid hn1
  clear hn1 HP1
  go_wp2_with fail
  refine (HP2.out _ HN.out).mono ?_
  rintro e w2 ⟨rfl, hn2⟩
  replace HN := Lib.hid (HN.out.trans hn2)
  clear hn2 HP2
  go_wp2_with fail
  refine (HA1.out _ HN.out).mono ?_
  rintro e w3 ⟨rfl, hn3⟩
  replace HN := Lib.hid (HN.out.trans hn3)
  clear hn3 HA1
  go_wp2_with fail
  refine (HA2.out _ HN.out).mono ?_
  rintro e w4 ⟨rfl, hn4⟩
  replace HN := Lib.hid (HN.out.trans hn4)
  clear hn4 HA2
  go_wp2_with fail
  refine (HRM.out _).mono ?_
  rintro e w5 ⟨rfl, hbk, hn5⟩
  replace HN := Lib.hid (HN.out.trans hn5)
  have HBK := Lib.hid hbk
  have HLT := Lib.hid (at_lt hbk)
  clear hn5 hbk HRM
  go_wp2_with fail
  refine (HR1.out _ _ HN.out HBK.out).mono ?_
  rintro e w6 ⟨a6, c6, rfl, hz6, hn6⟩
  replace HN := Lib.hid (HN.out.trans hn6)
  replace HBK := Lib.hid ((hn6.block _ HLT.out).trans HBK.out)
  have HZ6 := Lib.hid hz6
  clear hn6 hz6 HR1
  go_wp2_with fail
  refine (HR2.out _ _ HN.out HBK.out).mono ?_
  rintro e w7 ⟨a7, c7, rfl, hz7, hn7⟩
  replace HN := Lib.hid (HN.out.trans hn7)
  replace HZ6 := Lib.hid (HZ6.out.stay hn7)
  have HZ7 := Lib.hid hz7
  replace HH := Lib.hid (HH.out.stay HN.out)
  replace HH2 := Lib.hid (HH2.out.stay HN.out)
  clear hn7 hz7 HR2 HBK HLT
  go_wp2_with fail
  rw [HMK.out _ _ rfl]
  go_wp2_with fail
  go_loopw [61] (fun iv wr => ∃ j : Nat, j ≤ m ∧ iv = .int .i64 (j : Int) ∧ wr.ownsRow w7.heap.size 3 1 (.slice (some ⟨w7.heap.size, 0, none⟩) n n) n ((stL (List.replicate n 0) s t j).map fun x => .int .i64 x) ∧ New w7 wr) (fun iv _ => m - (intOf iv).toNat)
  case atStart => exact ⟨0, Nat.zero_le _, rfl, ow_made w7 _ _ _ n _ (Nat.le_refl _) (by omega) (by rw [made_toList]; exact (List.map_replicate).symm) (by rw [List.length_map]; exact List.length_replicate), (New.refl w7).alloc _⟩
  case round =>
    obtain ⟨j, hj, rfl, hown, hnew⟩ := hrel
    by_cases hlt : (j : Int) < (m : Int)
    · have hj0 : (0 : Int) ≤ (j : Int) := by omega
      obtain ⟨hx0, hxn⟩ := HSR.out j (by omega)
      obtain ⟨b1, off1, rfl, hc1⟩ := (HH.out.stay hnew).addr (by omega)
      have d1 := hc1 j (by omega)
      clear hc1
      obtain ⟨b2, off2, rfl, hc2⟩ := (HH2.out.stay hnew).addr (by omega)
      have d2 := hc2 j (by omega)
      clear hc2
      have HST : Hid (stL (List.replicate n 0) s t (j + 1) = (stL (List.replicate n 0) s t j).set (s.getD j 0).toNat (t.getD j 0)) := Lib.hid rfl
      obtain ⟨x, hx⟩ : ∃ x : Nat, s.getD j 0 = (x : Int) := ⟨(s.getD j 0).toNat, by omega⟩
      obtain ⟨y, hy⟩ : ∃ y, t.getD j 0 = y := ⟨_, rfl⟩
      rw [hx] at d1 hx0 hxn HST
      rw [hy] at d2 HST
      rw [Int.toNat_natCast] at HST
      clear hx hy
      obtain ⟨d3, e3⟩ := ow_int hown (k := x) (by omega)
      have HO2 : Hid ((wr.setCell ⟨w7.heap.size, x, none⟩ (.int .i64 y)).ownsRow w7.heap.size 3 1 (.slice (some ⟨w7.heap.size, 0, none⟩) n n) n ((stL (List.replicate n 0) s t (j + 1)).map fun x => .int .i64 x)) := Lib.hid (by
        rw [HST.out, List.map_set]; exact ow_set hown x _)
      have HN2 : Hid (New w7 (wr.setCell ⟨w7.heap.size, x, none⟩ (.int .i64 y))) := Lib.hid (hnew.setCell (Nat.le_refl _) _)
      clear hown hnew HST
      go_wp2
      exact ⟨⟨j + 1, by omega, by go_num, HO2.out, HN2.out⟩, by simp [intOf]; omega⟩
    · have hjm : j = m := by omega
      rw [hjm] at hown
      clear hjm HSR
      have HO := Lib.hid hown
      have HNW := Lib.hid hnew
      clear hown hnew
      go_wp2_with fail
      go_loopw [76] (fun iv wr => ∃ i : Nat, i ≤ R ∧ iv = .int .i64 (i : Int) ∧ wr.ownsRow w7.heap.size 3 1 (.slice (some ⟨w7.heap.size, 0, none⟩) n n) n ((stL (stL (List.replicate n 0) s t m) s' t' i).map fun x => .int .i64 x) ∧ New w7 wr) (fun iv _ => R - (intOf iv).toNat)
      case atStart => exact ⟨0, Nat.zero_le _, rfl, HO.out, HNW.out⟩
      case round =>
        clear HO HNW
        obtain ⟨i, hi, rfl, hown, hnew⟩ := hrel
        by_cases hlt2 : (i : Int) < (R : Int)
        · have hi0 : (0 : Int) ≤ (i : Int) := by omega
          obtain ⟨hx0, hxn⟩ := HRR.out i (by omega)
          obtain ⟨b1, off1, rfl, hc1⟩ := (HZ6.out.stay hnew).addr (by omega)
          have d1 := hc1 i (by omega)
          clear hc1
          obtain ⟨b2, off2, rfl, hc2⟩ := (HZ7.out.stay hnew).addr (by omega)
          have d2 := hc2 i (by omega)
          clear hc2
          have HST : Hid (stL (stL (List.replicate n 0) s t m) s' t' (i + 1) = (stL (stL (List.replicate n 0) s t m) s' t' i).set (s'.getD i 0).toNat (t'.getD i 0)) := Lib.hid rfl
          obtain ⟨x, hx⟩ : ∃ x : Nat, s'.getD i 0 = (x : Int) := ⟨(s'.getD i 0).toNat, by omega⟩
          obtain ⟨y, hy⟩ : ∃ y, t'.getD i 0 = y := ⟨_, rfl⟩
          rw [hx] at d1 hx0 hxn HST
          rw [hy] at d2 HST
          rw [Int.toNat_natCast] at HST
          clear hx hy
          obtain ⟨d3, e3⟩ := ow_int hown (k := x) (by omega)
          have HO2 : Hid ((wr.setCell ⟨w7.heap.size, x, none⟩ (.int .i64 y)).ownsRow w7.heap.size 3 1 (.slice (some ⟨w7.heap.size, 0, none⟩) n n) n ((stL (stL (List.replicate n 0) s t m) s' t' (i + 1)).map fun x => .int .i64 x)) := Lib.hid (by
            rw [HST.out, List.map_set]; exact ow_set hown x _)
          have HN2 : Hid (New w7 (wr.setCell ⟨w7.heap.size, x, none⟩ (.int .i64 y))) := Lib.hid (hnew.setCell (Nat.le_refl _) _)
          clear hown hnew HST
          go_wp2
          exact ⟨⟨i + 1, by omega, by go_num, HO2.out, HN2.out⟩, by simp [intOf]; omega⟩
        · have hiR : i = R := by omega
          rw [hiR, HFIN.out] at hown
          have HZ := Lib.hid (ow_base hown HN.out.le)
          have HNN := Lib.hid (HN.out.trans hnew)
          clear hown hnew hiR
          go_wp2
          go_ret2
          exact ⟨_, rfl, HZ.out, HNN.out⟩
set_option maxRecDepth 100000 in
set_option maxHeartbeats 4000000 in
theorem aims41_ok (n : Nat) (hn : n ≤ 256) (a b : Option Addr) (nl c m c2 : Nat) (l : List (BitVec 64)) (s cl : List Int) (ds : List Drw) (k1 : Nat) (w : World) (hl : QRow w a nl c l) (hz : ZRow w b m c2 s) (hm : m ≤ n) (hs : stP n s) (ha : acB s m = true) (hd : drS l (lmP n m) m = some (ds, k1)) (hcl : rp2 n cl) (hcm : cl.length = m) (hpk : pkI cl = tkI n (pkI (cdS ds m)) s) :
    Calls Try.prog 29 #[.slice a nl c, .int .i64 (n : Int), .slice b m c2] w fun e w' => ∃ v' c', e = .returned (.tuple #[.slice v' nl c', .int .i64 0]) ∧ QRow w' v' nl c' (amS l (lmP n m) (fun i => BitVec.ofNat 64 (fnI cl i)) ds m) ∧ New w w' := by
  have hsl := hz.len_eq
  obtain ⟨cs, hcs, hrs, hpe⟩ := pk_all (n := n) hs (by omega)
  have HCH := Lib.hid (chc_41 n hn b m c2 cs w (by rw [hpe]; exact hz) hrs (by omega))
  have HAS := Lib.hid (fun w' (hn' : New w w') => asc_q b m c2 s w' (hz.stay hn'))
  rw [ha] at HAS
  have hrp := cdS_rp (by omega) hm hd
  obtain ⟨F, hF⟩ : ∃ F, s2 (JF (cdS ds m)) m = F := ⟨_, rfl⟩
  have hpF : pkI (cdS ds m) = liI F m := by unfold pkI; rw [cdS_len, hF]
  have hp : stP n (pkI (cdS ds m)) := pk_ip hrp
  have hFn : ∀ x, x < n → F x < n := fun x hx => by
    have h9 := rp2_F hrp
    rw [cdS_len] at h9
    rw [← hF]
    exact s2_lt h9 m (Nat.le_refl _) x hx
  rw [hpF] at hp hpk
  obtain ⟨hms, hma⟩ := ms_stp hp
  rw [liI_len] at hma
  have HNT := Lib.hid (fun w' (hn' : New w w') => new_t a nl c l w' (hl.stay hn'))
  have HTK := Lib.hid (fun b w' (ht : Tape w' b b l 0) => take41_own b b n m l w' ht hn hm)
  have HSE := Lib.hid (fun w' a1 c1 (hz : ZRow w' a1 m c1 (liI F m)) => set_41 a1 m c1 _ w' hz hp.2)
  have HMV := Lib.hid (fun w' a4 c4 (h4 : ZRow w' a4 m c4 (msI (liI F m))) (hn' : New w w') => move_own n hn a4 b m c4 c2 _ s w' h4 (hz.stay hn') hms hs hma ha)
  have HAM := Lib.hid (fun w' a1 c1 (h1 : ZRow w' a1 m c1 (pkI cl)) (hn' : New w w') => aim41_ok n hn a a1 nl c m c1 l cl ds k1 w' (hl.stay hn') h1 hcl hcm hd)
  obtain ⟨Q, hQ⟩ : ∃ Q, mvF n (msI (liI F m)) s = Q := ⟨_, rfl⟩
  have hQn : ∀ x, x < n → Q x < n := fun x hx => by
    rw [← hQ]; exact mvF_lt hms hs (by rw [msI_len, liI_len, hsl]) hx
  have hmvQ : mvI n (msI (liI F m)) s = liI Q n := by unfold mvI; rw [hQ]
  have HMQ := Lib.hid hmvQ
  have htk : liI (fun i => Q (F i)) m = pkI cl := by
    rw [hpk]
    unfold tkI
    rw [liI_len, hmvQ]
    apply liI_ext
    intro x hx
    rw [fnI_li _ hx, fnI_li _ (hFn x (by omega))]
  have HTQ := Lib.hid htk
  have HD := Lib.hid hd
  have HFE := Lib.hid hF
  have HFN := Lib.hid hFn
  have HQN := Lib.hid hQn
  clear hl hz hs ha hd hcl hpk hsl hcs hrs hpe hrp hpF hp hms hma hQ hQn hmvQ htk hF hFn hcm
  go_enter Try.func29, Try.ntmps29
  go_wp2_with fail
  refine HCH.out.mono ?_
  rintro e w1 ⟨a3, c3, rfl, hz, hn1⟩
  have HN := Lib.hid hn1
  clear hz hn1 HCH
  go_wp2_with fail
  refine (HAS.out _ HN.out).mono ?_
  rintro e w2 ⟨rfl, hn2⟩
  replace HN := Lib.hid (HN.out.trans hn2)
  clear hn2 HAS
  go_wp2_with fail
  refine (HNT.out _ HN.out).mono ?_
  rintro e wB ⟨b, rfl, hb, ht, hn2⟩
  have HT := Lib.hid ht
  have HNB := Lib.hid hn2
  have HBB := Lib.hid hb
  clear ht hn2 hb HNT
  go_wp2_with fail
  refine (HTK.out _ _ HT.out).mono ?_
  rintro e wC (⟨ds2, k2, g, a9, c9, B, hd2, rfl, hB, how, g9, ht9, hb9, _⟩ | ⟨hd2, _⟩)
  case inr => rw [HD.out] at hd2; cases hd2
  rw [HD.out] at hd2
  cases hd2
  rw [HFE.out] at how
  have hnc : New w2 wC := hb9.new w2 HNB.out HBB.out HBB.out
  have hwB : w.heap.size ≤ B := by
    have h8 := HNB.out.le
    have h7 := HN.out.le
    omega
  replace HN := Lib.hid (HN.out.trans hnc)
  have hg := ow_in how
  have HOW := Lib.hid how
  obtain ⟨_, _, he, hz⟩ := ZRow.of_owns how (by omega) (in64_li _ (fun x hx => by have := HFN.out x hx; omega))
  cases he
  have hzs := hz.slice 0 m m (by omega) (Nat.le_refl _) (by omega)
  rw [List.drop_zero, liI_takes _ hm] at hzs
  have HZS := Lib.hid hzs
  clear ht9 hb9 hnc HT HNB HBB how hz hzs hB HTK
  go_wp2_with fail
  refine (HSE.out _ _ _ HZS.out).mono ?_
  rintro e w3 ⟨a4, c4, rfl, hz4, hn3⟩
  have HZ4 := Lib.hid hz4
  replace HOW := Lib.hid (ow_new HOW.out hn3)
  replace HN := Lib.hid (HN.out.trans hn3)
  clear hz4 hn3 HSE HZS hg
  go_wp2_with fail
  refine (HMV.out _ _ _ HZ4.out HN.out).mono ?_
  rintro e w4 ⟨g5, rfl, hz5, hn4⟩
  have hg3 := ow_in HOW.out
  have hg5 := ow_in hz5
  replace HOW := Lib.hid (ow_new HOW.out hn4)
  replace HN := Lib.hid (HN.out.trans hn4)
  rw [HMQ.out] at hz5
  have HMR := Lib.hid hz5
  have HG : Hid (g5 ≠ g ∧ w.heap.size ≤ g) := Lib.hid ⟨by omega, by omega⟩
  clear hz5 hn4 HMV HZ4 hg3 hg5 hwB
  go_wp2_with fail
  go_loopw [52] (fun iv wr => ∃ j : Nat, j ≤ m ∧ iv = .int .i64 (j : Int) ∧ wr.ownsRow B 3 1 (.slice (some ⟨g, 0, none⟩) n n) n ((liI (fun i => if i < j then Q (F i) else F i) n).map fun x => .int .i64 x) ∧ wr.ownsRow w3.heap.size 3 1 (.slice (some ⟨g5, 0, none⟩) n n) n ((liI Q n).map fun x => .int .i64 x) ∧ New w wr) (fun iv _ => m - (intOf iv).toNat)
  case atStart =>
    refine ⟨0, Nat.zero_le _, rfl, ?_, HMR.out, HN.out⟩
    rw [liI_ext (g := F) (fun x _ => if_neg (by omega))]
    exact HOW.out
  case round =>
    clear HOW HMR HN
    obtain ⟨j, hj, rfl, ho, hmr, hnew⟩ := hrel
    obtain ⟨wq, hwq⟩ : ∃ z, z = wr := ⟨_, rfl⟩
    rw [← hwq] at ho hmr hnew ⊢
    clear hwq
    by_cases hlt : (j : Int) < (m : Int)
    · have hj0 : (0 : Int) ≤ (j : Int) := by omega
      have hjn : (j : Int) < (n : Int) := by omega
      obtain ⟨d1, e1⟩ := ow_int ho (k := j) (by omega)
      rw [liI_get _ (show j < n by omega), if_neg (Nat.lt_irrefl j)] at d1
      have hx1 := HFN.out j (by omega)
      obtain ⟨d2, e2⟩ := ow_int hmr (k := F j) hx1
      rw [liI_get _ hx1] at d2
      have HST : Hid (liI (fun i => if i < j + 1 then Q (F i) else F i) n = (liI (fun i => if i < j then Q (F i) else F i) n).set j ((Q (F j) : Nat) : Int)) := Lib.hid (by
        rw [liI_set _ _ (show j < n by omega)]
        apply liI_ext
        intro x _
        by_cases e : x = j
        · subst e; rw [if_pos (by omega), if_pos rfl]
        · rw [if_neg e]
          by_cases e2 : x < j
          · rw [if_pos (by omega), if_pos e2]
          · rw [if_neg (by omega), if_neg e2])
      obtain ⟨x, hx⟩ : ∃ x, F j = x := ⟨_, rfl⟩
      rw [hx] at d1 d2 hx1 HST
      have hx0 : (0 : Int) ≤ (x : Int) := by omega
      have hxn : (x : Int) < (n : Int) := by omega
      obtain ⟨y, hy⟩ : ∃ y, Q x = y := ⟨_, rfl⟩
      rw [hy] at d2 HST
      have HO2 : Hid ((wq.setCell ⟨g, j, none⟩ (.int .i64 (y : Int))).ownsRow B 3 1 (.slice (some ⟨g, 0, none⟩) n n) n ((liI (fun i => if i < j + 1 then Q (F i) else F i) n).map fun x => .int .i64 x)) := Lib.hid (by
        rw [HST.out, List.map_set]; exact ow_set ho j _)
      have HO3 : Hid ((wq.setCell ⟨g, j, none⟩ (.int .i64 (y : Int))).ownsRow w3.heap.size 3 1 (.slice (some ⟨g5, 0, none⟩) n n) n ((liI Q n).map fun x => .int .i64 x)) := Lib.hid (by
        have hv : (Value.slice (some ⟨g5, 0, none⟩) n n).ownBlock ≠ some g := by simp [Value.ownBlock]; exact HG.out.1
        exact ow_far hmr (a := ⟨g, j, none⟩) hv _)
      have HN2 : Hid (New w (wq.setCell ⟨g, j, none⟩ (.int .i64 (y : Int)))) := Lib.hid (hnew.setCell HG.out.2 _)
      clear ho hmr hnew HST hx hy
      go_wp2
      exact ⟨⟨j + 1, by omega, by go_num, HO2.out, HO3.out, HN2.out⟩, by simp [intOf]; omega⟩
    · have hjm : j = m := by omega
      rw [hjm] at ho
      obtain ⟨_, _, he, hz⟩ := ZRow.of_owns ho (by omega) (in64_li _ (fun x hx => by
        have h1 := HFN.out x hx
        have h2 := HQN.out (F x) h1
        by_cases e : x < m
        · rw [if_pos e]; omega
        · rw [if_neg e]; omega))
      cases he
      have hzs := hz.slice 0 m m (by omega) (Nat.le_refl _) (by omega)
      rw [List.drop_zero, liI_takes _ hm, liI_ext (g := fun i => Q (F i)) (fun x hx => if_pos hx), HTQ.out] at hzs
      have HAA := Lib.hid (HAM.out wq _ _ hzs hnew)
      have HNN := Lib.hid hnew
      clear ho hmr hnew hz hzs hjm HAM
      go_wp2_with fail
      refine HAA.out.mono ?_
      rintro e w9 ⟨v', c', rfl, hq, hn9⟩
      have HQ := Lib.hid hq
      replace HNN := Lib.hid (HNN.out.trans hn9)
      clear hq hn9 HAA
      go_wp2
      go_ret2
      exact ⟨_, _, rfl, HQ.out, HNN.out⟩
end Go.Proofs.Ytaajphopnmdmcaa
