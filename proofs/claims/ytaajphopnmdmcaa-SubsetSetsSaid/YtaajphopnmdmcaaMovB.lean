/- subset.Move. -/
import Derived.Test.YtaajphopnmdmcaaMovA
namespace Go.Bv
open Go Go.RowKit
set_option linter.unusedVariables false
/-- a list after its places s are stored with t, one by one -/
def stL (b s t : List Int) : Nat → List Int
  | 0 => b
  | k + 1 => (stL b s t k).set (s.getD k 0).toNat (t.getD k 0)
theorem stL_len (b s t : List Int) : ∀ k, (stL b s t k).length = b.length
  | 0 => rfl
  | k + 1 => by
    show ((stL b s t k).set _ _).length = _
    rw [List.length_set, stL_len b s t k]
theorem getD_set_eq {l : List Int} {i : Nat} (h : i < l.length) (v : Int) : (l.set i v).getD i 0 = v := by
  rw [List.getD_eq_getElem?_getD, List.getElem?_set, if_pos rfl, if_pos h]; rfl
theorem getD_set_ne {l : List Int} {i j : Nat} (h : i ≠ j) (v : Int) : (l.set i v).getD j 0 = l.getD j 0 := by
  rw [List.getD_eq_getElem?_getD, List.getElem?_set, if_neg h, ← List.getD_eq_getElem?_getD]
theorem stL_out {b s t : List Int} {x : Nat} : ∀ {k}, (∀ j, j < k → 0 ≤ s.getD j 0) → (∀ j, j < k → s.getD j 0 ≠ (x : Int)) → (stL b s t k).getD x 0 = b.getD x 0
  | 0, _, _ => rfl
  | k + 1, h0, h => by
    show ((stL b s t k).set (s.getD k 0).toNat (t.getD k 0)).getD x 0 = _
    have h1 := h0 k (by omega)
    have h2 := h k (by omega)
    rw [getD_set_ne (by omega)]
    exact stL_out (fun j hj => h0 j (by omega)) (fun j hj => h j (by omega))
theorem stL_in {b s t : List Int} {x j : Nat} (hx : x < b.length) (hd : ∀ i k, i < k → k < s.length → s.getD i 0 ≠ s.getD k 0) (hj : s.getD j 0 = (x : Int)) : ∀ {k}, k ≤ s.length → (∀ j, j < k → 0 ≤ s.getD j 0) → j < k → (stL b s t k).getD x 0 = t.getD j 0
  | 0, _, _, h => by omega
  | k + 1, hk, h0, h => by
    show ((stL b s t k).set (s.getD k 0).toNat (t.getD k 0)).getD x 0 = _
    by_cases e : j = k
    · subst e
      rw [hj, Int.toNat_natCast, getD_set_eq (by rw [stL_len]; exact hx)]
    · have h1 := h0 k (by omega)
      have h2 := hd j k (by omega) (by omega)
      rw [getD_set_ne (by omega)]
      exact stL_in hx hd hj (by omega) (fun j hj => h0 j (by omega)) (by omega)
end Go.Bv
namespace Go.Proofs.Ytaajphopnmdmcaa
open Go Go.RowKit Go.Bv
set_option linter.unusedVariables false
theorem at_lt {w : World} {k : Nat} {o : Obj} (h : w.heap[k]? = some o) : k < w.heap.size := by
  rcases Nat.lt_or_ge k w.heap.size with h1 | h1
  · exact h1
  · rw [Array.getElem?_eq_none h1] at h; cases h
theorem rsI_get (s : List Int) (n : Nat) {j : Nat} (hj : j < (rsN s n).length) : (rsI s n).getD j 0 = (((rsN s n).getD j 0 : Nat) : Int) := by
  unfold rsI
  rw [List.getD_eq_getElem?_getD, List.getElem?_map, List.getElem?_eq_getElem hj, List.getD_eq_getElem?_getD, List.getElem?_eq_getElem hj]; rfl
theorem rsI_rt {s : List Int} {n j : Nat} (hj : j < (rsN s n).length) : 0 ≤ (rsI s n).getD j 0 ∧ (rsI s n).getD j 0 < (n : Int) := by
  rw [rsI_get s n hj]
  have h := (rsN_mem.1 (getD_memN hj)).1
  omega
theorem mv_fin {n : Nat} {s t : List Int} (hs : stP n s) (ht : stP n t) (hl : s.length = t.length) :
    stL (stL (List.replicate n 0) s t s.length) (rsI s n) (rsI t n) (rsN s n).length = mvI n s t := by
  have hz : (List.replicate n (0 : Int)).length = n := List.length_replicate
  apply ints_eq (n := n) (by rw [stL_len, stL_len, hz]) (mvI_len _ _ _)
  intro x hx
  have hR : (mvI n s t).getD x 0 = ((mvF n s t x : Nat) : Int) := by unfold mvI; rw [liI_get _ hx]
  rw [hR]
  have h0 : ∀ j, j < (rsN s n).length → 0 ≤ (rsI s n).getD j 0 := fun j hj => (rsI_rt hj).1
  by_cases h : (x : Int) ∈ s
  · rw [stL_out h0 (fun j hj he => by
      rw [rsI_get s n hj] at he
      have h9 := (rsN_mem.1 (getD_memN hj)).2
      rw [he] at h9
      exact h9 h)]
    obtain ⟨h1, h2⟩ := at_idx h
    rw [stL_in (by rw [hz]; exact hx) hs.2 h2 (Nat.le_refl _) (fun j hj => (hs.1 j hj).1) h1]
    exact (mvF_in hs ht hl h).1.symm
  · obtain ⟨h1, h2⟩ := at_idxN (rsN_mem.2 ⟨hx, h⟩)
    obtain ⟨e1, _, _, h3⟩ := mvF_out hs ht hl hx h
    rw [stL_in (by rw [stL_len, hz]; exact hx) (fun i k hik hk => by
      rw [rsI_len] at hk
      rw [rsI_get s n (by omega), rsI_get s n hk]
      have h9 := rsN_nodup s n
      intro he
      have e2 := idx_atN h9 (show i < (rsN s n).length by omega)
      have e3 := idx_atN h9 hk
      have he2 : (rsN s n).getD i 0 = (rsN s n).getD k 0 := by omega
      rw [he2] at e2
      omega) (by rw [rsI_get s n h1, h2]) (by rw [rsI_len]; exact Nat.le_refl _) h0 h1]
    rw [rsI_get t n h3, e1]
set_option maxRecDepth 100000 in
set_option maxHeartbeats 4000000 in
theorem move_q (n : Nat) (hn : n ≤ 256) (a b : Option Addr) (m c c2 : Nat) (s t : List Int) (w : World) (h : ZRow w a m c s) (h2 : ZRow w b m c2 t) (hs : stP n s) (ht : stP n t) (ha : acB s m = true) (hb : acB t m = true) :
    Calls Try.prog 26 #[.int .i64 (n : Int), .slice a m c, .slice b m c2] w fun e w' => ∃ a' c', e = .returned (.tuple #[.slice a' (n : Nat) c', .int .i64 0]) ∧ ZRow w' a' n c' (mvI n s t) ∧ New w w' := by
  have hls := h.len_eq
  have hlt := h2.len_eq
  have hmn := rsN_len hs.1 hs.2
  have hmt := rsN_len ht.1 ht.2
  have hfin := mv_fin hs ht (hls.trans hlt.symm)
  have HIN : Hid (∀ z ∈ mvI n s t, In64 z) := Lib.hid (in64_li _ (fun x hx => by have := mvF_lt hs ht (hls.trans hlt.symm) hx; omega))
  have HSZ := Lib.hid (fun w => sizes_41 (n : Int) 0 w)
  rw [show szE (n : Int) 0 = 0 from if_neg (by omega)] at HSZ
  have HP1 := Lib.hid (fun w' (hn' : New w w') => ispick_any n (by omega) a m c s w' (h.stay hn') (by omega))
  rw [show ipB n s = true from ipB_iff.2 hs] at HP1
  have HP2 := Lib.hid (fun w' (hn' : New w w') => ispick_any n (by omega) b m c2 t w' (h2.stay hn') (by omega))
  rw [show ipB n t = true from ipB_iff.2 ht] at HP2
  have HA1 := Lib.hid (fun w' (hn' : New w w') => asc_q a m c s w' (h.stay hn'))
  rw [ha] at HA1
  have HA2 := Lib.hid (fun w' (hn' : New w w') => asc_q b m c2 t w' (h2.stay hn'))
  rw [hb] at HA2
  have HRM := Lib.hid (fun w => rem_q n w)
  have HR1 := Lib.hid (fun w' bk (hn' : New w w') hb => rem1_q n (by omega) bk a m c s w' (h.stay hn') hb)
  have HR2 := Lib.hid (fun w' bk (hn' : New w w') hb => rem1_q n (by omega) bk b m c2 t w' (h2.stay hn') hb)
  have HMK := Lib.hid (make_int n (by omega))
  have HSR : Hid (∀ j, j < m → 0 ≤ s.getD j 0 ∧ s.getD j 0 < (n : Int)) := Lib.hid (fun j hj => hs.1 j (by omega))
  have HRR : Hid (∀ j, j < (rsN s n).length → 0 ≤ (rsI s n).getD j 0 ∧ (rsI s n).getD j 0 < (n : Int)) := Lib.hid (fun j hj => rsI_rt hj)
  rw [show (rsN t n).length = (rsN s n).length by omega] at HR2
  rw [hls] at hfin
  have hmm : m ≤ 256 := by omega
  have hRn : (rsN s n).length ≤ 256 := by omega
  have hb2 : ((m : Int) != (m : Int)) = false := by simp
  have HH := Lib.hid h
  have HH2 := Lib.hid h2
  clear hmn hmt hls hlt h h2 hs ht ha hb
  obtain ⟨R, hR⟩ : ∃ R, (rsN s n).length = R := ⟨_, rfl⟩
  rw [hR] at HR1 HR2 HRR hfin hRn
  clear hR
  obtain ⟨s', hs'⟩ : ∃ z, rsI s n = z := ⟨_, rfl⟩
  rw [hs'] at HR1 HRR hfin
  clear hs'
  obtain ⟨t', ht'⟩ : ∃ z, rsI t n = z := ⟨_, rfl⟩
  rw [ht'] at HR2 hfin
  clear ht'
  have HFIN := Lib.hid hfin
  clear hfin
  go_enter Try.func26, Try.ntmps26
  go_wp2_with fail
  refine (HSZ.out _).mono ?_
  rintro e w9 ⟨rfl, hw⟩
  replace hw := hw.symm
  subst hw
  clear HSZ
  go_wp2_with fail
  refine (HP1.out _ (New.refl _)).mono ?_
  rintro e w1 ⟨rfl, hn1⟩
  have HN := Lib.hid hn1
  clear hn1 HP1
  go_wp2_with fail
  refine (HP2.out _ HN.out).mono ?_
  rintro e w2 ⟨rfl, hn2⟩
  replace HN := Lib.hid (HN.out.trans hn2)
  clear hn2 HP2
  go_wp2_with fail
  refine (HA1.out _ HN.out).mono ?_
  rintro e w3 ⟨rfl, hn3⟩
  replace HN := Lib.hid (HN.out.trans hn3)
  clear hn3 HA1
  go_wp2_with fail
  refine (HA2.out _ HN.out).mono ?_
  rintro e w4 ⟨rfl, hn4⟩
  replace HN := Lib.hid (HN.out.trans hn4)
  clear hn4 HA2
  go_wp2_with fail
  refine (HRM.out _).mono ?_
  rintro e w5 ⟨rfl, hbk, hn5⟩
  replace HN := Lib.hid (HN.out.trans hn5)
  have HBK := Lib.hid hbk
  have HLT := Lib.hid (at_lt hbk)
  clear hn5 hbk HRM
  go_wp2_with fail
  refine (HR1.out _ _ HN.out HBK.out).mono ?_
  rintro e w6 ⟨a6, c6, rfl, hz6, hn6⟩
  replace HN := Lib.hid (HN.out.trans hn6)
  replace HBK := Lib.hid ((hn6.block _ HLT.out).trans HBK.out)
  have HZ6 := Lib.hid hz6
  clear hn6 hz6 HR1
  go_wp2_with fail
  refine (HR2.out _ _ HN.out HBK.out).mono ?_
  rintro e w7 ⟨a7, c7, rfl, hz7, hn7⟩
  replace HN := Lib.hid (HN.out.trans hn7)
  replace HZ6 := Lib.hid (HZ6.out.stay hn7)
  have HZ7 := Lib.hid hz7
  replace HH := Lib.hid (HH.out.stay HN.out)
  replace HH2 := Lib.hid (HH2.out.stay HN.out)
  clear hn7 hz7 HR2 HBK HLT
  go_wp2_with fail
  rw [HMK.out _ _ rfl]
  go_wp2_with fail
  go_loopw [61] (fun iv wr => ∃ j : Nat, j ≤ m ∧ iv = .int .i64 (j : Int) ∧ wr.ownsRow w7.heap.size 3 1 (.slice (some ⟨w7.heap.size, 0, none⟩) n n) n ((stL (List.replicate n 0) s t j).map fun x => .int .i64 x) ∧ New w7 wr) (fun iv _ => m - (intOf iv).toNat)
  case atStart => exact ⟨0, Nat.zero_le _, rfl, ow_made w7 _ _ _ n _ (Nat.le_refl _) (by omega) (by rw [made_toList]; exact (List.map_replicate).symm) (by rw [List.length_map]; exact List.length_replicate), (New.refl w7).alloc _⟩
  case round =>
    obtain ⟨j, hj, rfl, hown, hnew⟩ := hrel
    by_cases hlt : (j : Int) < (m : Int)
    · have hj0 : (0 : Int) ≤ (j : Int) := by omega
      obtain ⟨hx0, hxn⟩ := HSR.out j (by omega)
      obtain ⟨b1, off1, rfl, hc1⟩ := (HH.out.stay hnew).addr (by omega)
      have d1 := hc1 j (by omega)
      clear hc1
      obtain ⟨b2, off2, rfl, hc2⟩ := (HH2.out.stay hnew).addr (by omega)
      have d2 := hc2 j (by omega)
      clear hc2
      have HST : Hid (stL (List.replicate n 0) s t (j + 1) = (stL (List.replicate n 0) s t j).set (s.getD j 0).toNat (t.getD j 0)) := Lib.hid rfl
      obtain ⟨x, hx⟩ : ∃ x : Nat, s.getD j 0 = (x : Int) := ⟨(s.getD j 0).toNat, by omega⟩
      obtain ⟨y, hy⟩ : ∃ y, t.getD j 0 = y := ⟨_, rfl⟩
      rw [hx] at d1 hx0 hxn HST
      rw [hy] at d2 HST
      rw [Int.toNat_natCast] at HST
      clear hx hy
      obtain ⟨d3, e3⟩ := ow_int hown (k := x) (by omega)
      have HO2 : Hid ((wr.setCell ⟨w7.heap.size, x, none⟩ (.int .i64 y)).ownsRow w7.heap.size 3 1 (.slice (some ⟨w7.heap.size, 0, none⟩) n n) n ((stL (List.replicate n 0) s t (j + 1)).map fun x => .int .i64 x)) := Lib.hid (by
        rw [HST.out, List.map_set]; exact ow_set hown x _)
      have HN2 : Hid (New w7 (wr.setCell ⟨w7.heap.size, x, none⟩ (.int .i64 y))) := Lib.hid (hnew.setCell (Nat.le_refl _) _)
      clear hown hnew HST
      go_wp2
      exact ⟨⟨j + 1, by omega, by go_num, HO2.out, HN2.out⟩, by simp [intOf]; omega⟩
    · have hjm : j = m := by omega
      rw [hjm] at hown
      clear hjm HSR
      have HO := Lib.hid hown
      have HNW := Lib.hid hnew
      clear hown hnew
      go_wp2_with fail
      go_loopw [76] (fun iv wr => ∃ i : Nat, i ≤ R ∧ iv = .int .i64 (i : Int) ∧ wr.ownsRow w7.heap.size 3 1 (.slice (some ⟨w7.heap.size, 0, none⟩) n n) n ((stL (stL (List.replicate n 0) s t m) s' t' i).map fun x => .int .i64 x) ∧ New w7 wr) (fun iv _ => R - (intOf iv).toNat)
      case atStart => exact ⟨0, Nat.zero_le _, rfl, HO.out, HNW.out⟩
      case round =>
        clear HO HNW
        obtain ⟨i, hi, rfl, hown, hnew⟩ := hrel
        by_cases hlt2 : (i : Int) < (R : Int)
        · have hi0 : (0 : Int) ≤ (i : Int) := by omega
          obtain ⟨hx0, hxn⟩ := HRR.out i (by omega)
          obtain ⟨b1, off1, rfl, hc1⟩ := (HZ6.out.stay hnew).addr (by omega)
          have d1 := hc1 i (by omega)
          clear hc1
          obtain ⟨b2, off2, rfl, hc2⟩ := (HZ7.out.stay hnew).addr (by omega)
          have d2 := hc2 i (by omega)
          clear hc2
          have HST : Hid (stL (stL (List.replicate n 0) s t m) s' t' (i + 1) = (stL (stL (List.replicate n 0) s t m) s' t' i).set (s'.getD i 0).toNat (t'.getD i 0)) := Lib.hid rfl
          obtain ⟨x, hx⟩ : ∃ x : Nat, s'.getD i 0 = (x : Int) := ⟨(s'.getD i 0).toNat, by omega⟩
          obtain ⟨y, hy⟩ : ∃ y, t'.getD i 0 = y := ⟨_, rfl⟩
          rw [hx] at d1 hx0 hxn HST
          rw [hy] at d2 HST
          rw [Int.toNat_natCast] at HST
          clear hx hy
          obtain ⟨d3, e3⟩ := ow_int hown (k := x) (by omega)
          have HO2 : Hid ((wr.setCell ⟨w7.heap.size, x, none⟩ (.int .i64 y)).ownsRow w7.heap.size 3 1 (.slice (some ⟨w7.heap.size, 0, none⟩) n n) n ((stL (stL (List.replicate n 0) s t m) s' t' (i + 1)).map fun x => .int .i64 x)) := Lib.hid (by
            rw [HST.out, List.map_set]; exact ow_set hown x _)
          have HN2 : Hid (New w7 (wr.setCell ⟨w7.heap.size, x, none⟩ (.int .i64 y))) := Lib.hid (hnew.setCell (Nat.le_refl _) _)
          clear hown hnew HST
          go_wp2
          exact ⟨⟨i + 1, by omega, by go_num, HO2.out, HN2.out⟩, by simp [intOf]; omega⟩
        · have hiR : i = R := by omega
          rw [hiR, HFIN.out] at hown
          obtain ⟨a', c', he, hz⟩ := ZRow.of_owns hown (by omega) HIN.out
          cases he
          have HZ := Lib.hid hz
          have HNN := Lib.hid (HN.out.trans hnew)
          clear hown hnew hz hiR
          go_wp2
          go_ret2
          exact ⟨_, _, rfl, HZ.out, HNN.out⟩
theorem move_err (n : Int) (hn : szE n 0 = 1) (a b : Option Addr) (m c m2 c2 : Nat) (w : World) :
    Calls Try.prog 26 #[.int .i64 n, .slice a m c, .slice b m2 c2] w fun e w' => e = .returned (.tuple #[.slice none 0 0, .int .i64 1]) ∧ w' = w := by
  have HSZ := Lib.hid (fun w => sizes_41 n 0 w)
  rw [hn] at HSZ
  clear hn
  go_enter Try.func26, Try.ntmps26
  go_wp2_with fail
  refine (HSZ.out _).mono ?_
  rintro e w9 ⟨rfl, hw⟩
  replace hw := hw.symm
  subst hw
  go_wp2
  go_ret2
  exact ⟨rfl, rfl⟩
/-- is there an order that Move can tell? -/
def mvB (n : Nat) (s t : List Int) : Bool := (s.length == t.length) && ipB n s && ipB n t && acB s s.length && acB t t.length
set_option maxRecDepth 100000 in
set_option maxHeartbeats 4000000 in
theorem move_bad (n : Nat) (hn : n ≤ 256) (a b : Option Addr) (m c m2 c2 : Nat) (s t : List Int) (w : World) (h : ZRow w a m c s) (h2 : ZRow w b m2 c2 t) (hm : m ≤ 17592186044416) (hb : mvB n s t = false) :
    Calls Try.prog 26 #[.int .i64 (n : Int), .slice a m c, .slice b m2 c2] w fun e w' => e = .returned (.tuple #[.slice none 0 0, .int .i64 2]) ∧ New w w' := by
  have hls := h.len_eq
  have hlt := h2.len_eq
  unfold mvB at hb
  rw [hls, hlt] at hb
  have HSZ := Lib.hid (fun w => sizes_41 (n : Int) 0 w)
  rw [show szE (n : Int) 0 = 0 from if_neg (by omega)] at HSZ
  have HP1 := Lib.hid (fun w' (hn' : New w w') => ispick_any n (by omega) a m c s w' (h.stay hn') hm)
  have HA1 := Lib.hid (fun w' (hn' : New w w') => asc_q a m c s w' (h.stay hn'))
  have HA2 := Lib.hid (fun w' (hn' : New w w') => asc_q b m2 c2 t w' (h2.stay hn'))
  by_cases hmm : m = m2
  · have HP2 := Lib.hid (fun w' (hn' : New w w') => ispick_any n (by omega) b m2 c2 t w' (h2.stay hn') (by omega))
    subst hmm
    have hb2 : ((m : Int) != (m : Int)) = false := by simp
    have hb3 : (m == m) = true := by simp
    rw [hb3, Bool.true_and] at hb
    clear h h2 hls hlt hb3
    rcases e1 : ipB n s with _ | _
    · rw [e1] at HP1
      clear hb e1 HA1 HA2 HP2
      go_enter Try.func26, Try.ntmps26
      go_wp2_with fail
      refine (HSZ.out _).mono ?_
      rintro e w9 ⟨rfl, hw⟩
      replace hw := hw.symm
      subst hw
      clear HSZ
      go_wp2_with fail
      refine (HP1.out _ (New.refl _)).mono ?_
      rintro e w1 ⟨rfl, hn1⟩
      have HN := Lib.hid hn1
      clear hn1 HP1
      go_wp2
      go_ret2
      exact ⟨rfl, HN.out⟩
    rw [e1] at HP1 hb
    rw [Bool.true_and] at hb
    rcases e2 : ipB n t with _ | _
    · rw [e2] at HP2
      clear hb e1 e2 HA1 HA2
      go_enter Try.func26, Try.ntmps26
      go_wp2_with fail
      refine (HSZ.out _).mono ?_
      rintro e w9 ⟨rfl, hw⟩
      replace hw := hw.symm
      subst hw
      clear HSZ
      go_wp2_with fail
      refine (HP1.out _ (New.refl _)).mono ?_
      rintro e w1 ⟨rfl, hn1⟩
      have HN := Lib.hid hn1
      clear hn1 HP1
      go_wp2_with fail
      refine (HP2.out _ HN.out).mono ?_
      rintro e w2 ⟨rfl, hn2⟩
      replace HN := Lib.hid (HN.out.trans hn2)
      clear hn2 HP2
      go_wp2
      go_ret2
      exact ⟨rfl, HN.out⟩
    rw [e2] at HP2 hb
    rw [Bool.true_and] at hb
    rcases e3 : acB s m with _ | _
    · rw [e3] at HA1
      clear hb e1 e2 e3 HA2
      go_enter Try.func26, Try.ntmps26
      go_wp2_with fail
      refine (HSZ.out _).mono ?_
      rintro e w9 ⟨rfl, hw⟩
      replace hw := hw.symm
      subst hw
      clear HSZ
      go_wp2_with fail
      refine (HP1.out _ (New.refl _)).mono ?_
      rintro e w1 ⟨rfl, hn1⟩
      have HN := Lib.hid hn1
      clear hn1 HP1
      go_wp2_with fail
      refine (HP2.out _ HN.out).mono ?_
      rintro e w2 ⟨rfl, hn2⟩
      replace HN := Lib.hid (HN.out.trans hn2)
      clear hn2 HP2
      go_wp2_with fail
      refine (HA1.out _ HN.out).mono ?_
      rintro e w3 ⟨rfl, hn3⟩
      replace HN := Lib.hid (HN.out.trans hn3)
      clear hn3 HA1
      go_wp2
      go_ret2
      exact ⟨rfl, HN.out⟩
    rw [e3] at HA1 hb
    rw [Bool.true_and] at hb
    rw [hb] at HA2
    clear hb e1 e2 e3
    go_enter Try.func26, Try.ntmps26
    go_wp2_with fail
    refine (HSZ.out _).mono ?_
    rintro e w9 ⟨rfl, hw⟩
    replace hw := hw.symm
    subst hw
    clear HSZ
    go_wp2_with fail
    refine (HP1.out _ (New.refl _)).mono ?_
    rintro e w1 ⟨rfl, hn1⟩
    have HN := Lib.hid hn1
    clear hn1 HP1
    go_wp2_with fail
    refine (HP2.out _ HN.out).mono ?_
    rintro e w2 ⟨rfl, hn2⟩
    replace HN := Lib.hid (HN.out.trans hn2)
    clear hn2 HP2
    go_wp2_with fail
    refine (HA1.out _ HN.out).mono ?_
    rintro e w3 ⟨rfl, hn3⟩
    replace HN := Lib.hid (HN.out.trans hn3)
    clear hn3 HA1
    go_wp2_with fail
    refine (HA2.out _ HN.out).mono ?_
    rintro e w4 ⟨rfl, hn4⟩
    replace HN := Lib.hid (HN.out.trans hn4)
    clear hn4 HA2
    go_wp2
    go_ret2
    exact ⟨rfl, HN.out⟩
  · have hb2 : ((m : Int) != (m2 : Int)) = true := by simp; omega
    clear h h2 hls hlt hb HP1 HA1 HA2
    go_enter Try.func26, Try.ntmps26
    go_wp2_with fail
    refine (HSZ.out _).mono ?_
    rintro e w9 ⟨rfl, hw⟩
    replace hw := hw.symm
    subst hw
    clear HSZ
    go_wp2
    go_ret2
    exact ⟨rfl, New.refl _⟩
theorem mvB_iff {n : Nat} {s t : List Int} : mvB n s t = true ↔ s.length = t.length ∧ stP n s ∧ stP n t ∧ acB s s.length = true ∧ acB t t.length = true := by
  unfold mvB
  rw [Bool.and_eq_true, Bool.and_eq_true, Bool.and_eq_true, Bool.and_eq_true, beq_iff_eq]
  constructor
  · rintro ⟨⟨⟨⟨h1, h2⟩, h3⟩, h4⟩, h5⟩
    exact ⟨h1, ipB_iff.1 h2, ipB_iff.1 h3, h4, h5⟩
  · rintro ⟨h1, h2, h3, h4, h5⟩
    exact ⟨⟨⟨⟨h1, ipB_iff.2 h2⟩, ipB_iff.2 h3⟩, h4⟩, h5⟩
end Go.Proofs.Ytaajphopnmdmcaa
