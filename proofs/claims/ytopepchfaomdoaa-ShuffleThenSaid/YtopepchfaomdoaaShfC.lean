/- shuffle.Perm; the document's own Perm. -/
import Derived.Test.YtopepchfaomdoaaShfB
import Derived.BigRegion
namespace Go.Proofs.Ytopepchfaomdoaa
open Go Go.RowKit Go.Bv
set_option linter.unusedVariables false
set_option maxRecDepth 100000 in
set_option maxHeartbeats 1000000 in
theorem perm_bad (a : Option Addr) (n c : Nat) (l : List Int) (w : World) (h : ZRow w a n c l) (hb : ¬ rtI l) :
    Calls Try.prog 9 #[.slice a n c] w fun e w' => e = .returned (.tuple #[.slice none 0 0, .int .i64 2]) ∧ New w w' := by
  have hm := h.most
  have HL := Lib.hid h.len_eq
  have HH := Lib.hid h
  have HB := Lib.hid hb
  clear h hb
  go_enter Try.func9, Try.ntmps9
  go_wp2
  go_loop [10] (fun i => ∃ k : Nat, k ≤ n ∧ i = .int .i64 (k : Int) ∧ Hid (rtB l k = true)) (fun i => n - (intOf i).toNat)
  case atStart => exact ⟨0, Nat.zero_le _, rfl, Lib.hid rfl⟩
  case round =>
    obtain ⟨k, hk, rfl, H⟩ := hrel
    by_cases hlt : (k : Int) < (n : Int)
    · obtain ⟨b, off, rfl, hc⟩ := HH.out.addr (by omega)
      have c1 := hc k (by omega)
      clear hc
      have hk0 : (0 : Int) ≤ (k : Int) := by omega
      have HST : Hid (rtB l (k + 1) = (rtB l k && (decide (0 ≤ l.getD k 0) && decide (l.getD k 0 ≤ (k : Int))))) := Lib.hid rfl
      obtain ⟨y, hy⟩ : ∃ z, l.getD k 0 = z := ⟨_, rfl⟩
      rw [hy] at c1 HST
      clear hy
      by_cases h1 : y < 0
      · go_wp2
        go_ret2
        exact ⟨rfl, New.refl _⟩
      by_cases h2 : (k : Int) < y
      · go_wp2
        go_ret2
        exact ⟨rfl, New.refl _⟩
      have h1' : 0 ≤ y := by omega
      have h2' : y ≤ (k : Int) := by omega
      go_wp2
      exact ⟨⟨k + 1, by omega, by go_num, Lib.hid (by rw [HST.out, H.out, decide_eq_true h1', decide_eq_true h2']; rfl)⟩, by simp [intOf]; omega⟩
    · obtain rfl : k = n := by omega
      exact absurd (rtB_iff.1 (HL.out ▸ H.out)) HB.out
set_option maxRecDepth 100000 in
set_option maxHeartbeats 4000000 in
theorem perm_ok (a : Option Addr) (n c : Nat) (l : List Int) (w : World) (h : ZRow w a n c l) (hl : rtI l) (hn : n ≤ 1000000) :
    Calls Try.prog 9 #[.slice a n c] w fun e w' => ∃ g, e = .returned (.tuple #[.slice (some ⟨g, 0, none⟩) (n : Nat) n, .int .i64 0]) ∧ w'.ownsRow w.heap.size 3 1 (.slice (some ⟨g, 0, none⟩) n n) n ((pmI l).map fun x => .int .i64 x) ∧ New w w' := by
  have HL := Lib.hid h.len_eq
  have HH := Lib.hid h
  have HR := Lib.hid hl
  have HF := Lib.hid (rtI_F hl)
  have HS := Lib.hid (fun w => sorted_40 n w hn)
  clear h hl
  go_enter Try.func9, Try.ntmps9
  go_wp2_with fail
  go_loop [10] (fun i => ∃ k : Nat, k ≤ n ∧ i = .int .i64 (k : Int)) (fun i => n - (intOf i).toNat)
  case atStart => exact ⟨0, Nat.zero_le _, rfl⟩
  case round =>
    obtain ⟨k, hk, rfl⟩ := hrel
    by_cases hlt : (k : Int) < (n : Int)
    · obtain ⟨b, off, rfl, hc⟩ := HH.out.addr (by omega)
      have c1 := hc k (by omega)
      clear hc
      have hk0 : (0 : Int) ≤ (k : Int) := by omega
      obtain ⟨h1, h2⟩ := HR.out k (by rw [HL.out]; omega)
      obtain ⟨y, hy⟩ : ∃ z, l.getD k 0 = z := ⟨_, rfl⟩
      rw [hy] at c1 h1 h2
      clear hy
      have h1' : ¬ y < 0 := by omega
      have h2' : ¬ (k : Int) < y := by omega
      go_wp2
      exact ⟨⟨k + 1, by omega, by go_num⟩, by simp [intOf]; omega⟩
    · obtain rfl : k = n := by omega
      go_wp2_with fail
      refine (HS.out _).mono ?_
      rintro e w9 ⟨g, rfl, how, hnew⟩
      have HO := Lib.hid how
      have HN := Lib.hid hnew
      clear how hnew
      rcases k with _ | m
      · have HE : Hid (liI (fun x => x) 0 = pmI l) := Lib.hid (by
          have : (pmI l).length = 0 := by rw [pmI_len, HL.out]
          rw [List.eq_nil_of_length_eq_zero this]; rfl)
        rw [HE.out] at HO
        go_wp2_with fail
        go_loop [7] (fun i => i = .int .i64 (-1)) (fun _ => 0)
        case atStart => rfl
        case round =>
          subst hrel
          go_wp2
          go_ret2
          exact ⟨g, rfl, HO.out, HN.out⟩
      · have hgb : w.heap.size ≤ g := own_base HO.out g rfl
        have hw1 : (((m + 1 : Nat) : Int) - 1) = (m : Int) := by omega
        have HE : Hid (liI (stF (fnI l) (m + 1) m) (m + 1) = pmI l) := Lib.hid (by
          have h1 := st_one HF.out (by rw [HL.out]; omega)
          unfold pmI
          rw [HL.out] at h1 ⊢
          rw [h1, Nat.add_sub_cancel])
        go_wp2_with fail
        go_loopw [7] (fun iv wr => ∃ j : Nat, j ≤ m ∧ iv = .int .i64 (j : Int) ∧ wr.ownsRow w.heap.size 3 1 (.slice (some ⟨g, 0, none⟩) (m + 1 : Nat) (m + 1)) (m + 1) ((liI (stF (fnI l) (m + 1) (m - j)) (m + 1)).map fun x => .int .i64 x) ∧ New w wr) (fun iv _ => (intOf iv).toNat)
        case atStart => exact ⟨m, Nat.le_refl _, rfl, by rw [Nat.sub_self]; exact HO.out, HN.out⟩
        case round =>
          obtain ⟨j, hj, rfl, hown, hnew⟩ := hrel
          have HO2 := Lib.hid hown
          have HN2 := Lib.hid hnew
          obtain ⟨wq, hwq⟩ : ∃ z, z = wr := ⟨_, rfl⟩
          rw [← hwq] at HO2 HN2 ⊢
          clear hown hnew hwq
          rcases j with _ | j
          · rw [Nat.sub_zero, HE.out] at HO2
            go_wp2_with fail
            go_ret2
            exact ⟨g, rfl, HO2.out, HN2.out⟩
          · have hj0 : (0 : Int) ≤ ((j + 1 : Nat) : Int) := by omega
            have hjp : (0 : Int) < ((j + 1 : Nat) : Int) := by omega
            have hjm : ((j + 1 : Nat) : Int) < ((m + 1 : Nat) : Int) := by omega
            obtain ⟨b, off, rfl, hc⟩ := (HH.out.stay HN2.out).addr (by omega)
            have c1 := hc (j + 1) (by omega)
            clear hc
            have hcl := HF.out (j + 1) (by rw [HL.out]; omega)
            have hci : l.getD (j + 1) 0 = ((fnI l (j + 1) : Nat) : Int) := by
              have := HR.out (j + 1) (by rw [HL.out]; omega)
              unfold fnI; omega
            rw [hci] at c1
            have HST : Hid (stF (fnI l) (m + 1) (m - j) = sw (stF (fnI l) (m + 1) (m - (j + 1))) (j + 1) (fnI l (j + 1))) := Lib.hid (by
              rw [show m - j = (m - (j + 1)) + 1 by omega]
              show sw _ (m + 1 - 1 - (m - (j + 1))) _ = _
              rw [show m + 1 - 1 - (m - (j + 1)) = j + 1 by omega])
            obtain ⟨f, hf⟩ : ∃ f, stF (fnI l) (m + 1) (m - (j + 1)) = f := ⟨_, rfl⟩
            rw [hf] at HO2 HST
            clear hf hci
            obtain ⟨q, hq⟩ : ∃ q, fnI l (j + 1) = q := ⟨_, rfl⟩
            rw [hq] at c1 hcl HST
            clear hq
            obtain ⟨hci, hfi⟩ := ow_int HO2.out (k := j + 1) (by omega)
            obtain ⟨hcq, hfq⟩ := ow_int HO2.out (k := q) (by omega)
            rw [liI_get f (show j + 1 < m + 1 by omega)] at hci
            rw [liI_get f (show q < m + 1 by omega)] at hcq
            have hq0 : (0 : Int) ≤ (q : Int) := by omega
            have hqm : (q : Int) < ((m + 1 : Nat) : Int) := by omega
            obtain ⟨hs1, hs2⟩ := ow_cell (ow_set HO2.out (j + 1) (.int .i64 (f q))) (k := q) (u := .int .i64 ((if q = j + 1 then f q else f q : Nat) : Int)) (by
              rw [← List.map_set, liI_set f (f q) (show j + 1 < m + 1 by omega), List.getElem?_map]
              have h1 := liI_get (fun x => if x = j + 1 then f q else f x) (show q < m + 1 by omega)
              rw [List.getD_eq_getElem?_getD, List.getElem?_eq_getElem (by rw [liI_len]; omega)] at h1
              rw [List.getElem?_eq_getElem (by rw [liI_len]; omega)]
              simp at h1 ⊢
              exact h1)
            have HO3 : Hid (((wq.setCell ⟨g, j + 1, none⟩ (.int .i64 (f q))).setCell ⟨g, q, none⟩ (.int .i64 (f (j + 1)))).ownsRow w.heap.size 3 1 (.slice (some ⟨g, 0, none⟩) (m + 1 : Nat) (m + 1)) (m + 1) ((liI (stF (fnI l) (m + 1) (m - j)) (m + 1)).map fun x => .int .i64 x)) := Lib.hid (by
              rw [HST.out, ← liI_sw f (show j + 1 < m + 1 by omega) (show q < m + 1 by omega), List.map_set, List.map_set]
              exact ow_set (ow_set HO2.out _ _) _ _)
            have HN3 : Hid (New w ((wq.setCell ⟨g, j + 1, none⟩ (.int .i64 (f q))).setCell ⟨g, q, none⟩ (.int .i64 (f (j + 1))))) := Lib.hid ((HN2.out.setCell hgb _).setCell hgb _)
            go_wp2_with fail
            go_region
            have HO4 := Lib.hid (ow_new HO3.out (New.refl _).drew)
            have HN4 := Lib.hid (New.drew HN3.out)
            clear HO3 HN3 hs1 hs2 c1 hci hcq hfi hfq
            obtain ⟨W2, hW2⟩ : ∃ z, ((wq.setCell ⟨g, j + 1, none⟩ (.int .i64 (f q))).setCell ⟨g, q, none⟩ (.int .i64 (f (j + 1)))).drew = z := ⟨_, rfl⟩
            rw [hW2] at HO4 HN4 ⊢
            clear hW2
            go_wp2
            exact ⟨⟨j, by omega, by go_num, HO4.out, HN4.out⟩, by simp [intOf]⟩
theorem st_put {c : Nat → Nat} {n k : Nat} (hc : rtF c n) (hk : k < n) : stF c n n (n - 1 - k) = stF c n k (c (n - 1 - k)) := by
  have h3 := st_stay hc (k := k + 1) (x := n - 1 - k) (by omega) (by omega) (n - (k + 1)) (by omega)
  rw [show k + 1 + (n - (k + 1)) = n by omega] at h3
  rw [h3]
  show sw _ _ _ _ = _
  unfold sw
  by_cases e1 : n - 1 - k = c (n - 1 - k)
  · rw [if_pos e1]; exact congrArg _ e1
  · rw [if_neg e1, if_pos rfl]
theorem liI_take (f : Nat → Nat) (j : Nat) : (liI f (j + 1)).take j = liI f j := by
  rw [liI_succ, List.take_left' (liI_len f j)]
theorem row_next (f : Nat → Nat) {j q : Nat} (hq : q ≤ j) : ((liI f (j + 1)).set q (f j : Int)).take j = liI (sw f j q) j := by
  rw [liI_set f (f j) (show q < j + 1 by omega), liI_take]
  apply liI_ext
  intro x hx
  unfold sw
  by_cases e : x = q
  · rw [if_pos e, if_pos e]
  · rw [if_neg e, if_neg e, if_neg (by omega)]
theorem ow_cut {w : World} {base g n cap m : Nat} {e : TypeId} {xs : List Value} (h : w.ownsRow base e 1 (.slice (some ⟨g, 0, none⟩) n cap) n xs) (hm : m ≤ n) : w.ownsRow base e 1 (.slice (some ⟨g, 0, none⟩) m cap) m (xs.take m) := by
  obtain ⟨hl, h | ⟨g', cap', cur, hv, hb, hc, h1, h2, h3, h4⟩⟩ := h
  · cases h.1
  · injection hv with e1 e2 e3
    cases e1; subst e3
    refine ⟨by rw [List.length_take]; omega, Or.inr ⟨g, cap, cur, rfl, hb, hc, by omega, h2, h3, ?_⟩⟩
    rw [← h4, List.take_take]; congr 1; omega
theorem in64_li (f : Nat → Nat) {n : Nat} (h : ∀ x, x < n → f x < 9223372036854775807) : ∀ z ∈ liI f n, In64 z := by
  intro z hz
  unfold liI at hz
  obtain ⟨x, hx, rfl⟩ := List.mem_map.1 hz
  have := h x (List.mem_range.1 hx)
  unfold In64; omega
theorem nil_zrow (w : World) : ZRow w none 0 0 [] := ⟨rfl, Nat.le_refl _, by omega, by omega, (fun _ => ⟨rfl, rfl⟩), (fun b off e => by cases e), (fun x e => by cases e), (fun x e => by cases e), (fun x e => by cases e)⟩
/-- what is taken out, the last place first -/
def bkF (l : List Int) (n : Nat) : Nat → Nat := fun t => stF (fnI l) n n (n - 1 - t)
theorem pm_take (l : List Int) (k : Nat) (h : k < l.length) : (pmI l).take (k + 1) = (pmI l).take k ++ [(bkF l l.length (l.length - 1 - k) : Int)] := by
  rw [List.take_add_one, List.getElem?_eq_getElem (by rw [pmI_len]; exact h)]
  congr 1
  have h1 := liI_get (stF (fnI l) l.length l.length) h
  rw [List.getD_eq_getElem?_getD, List.getElem?_eq_getElem (by rw [liI_len]; exact h)] at h1
  show [_] = [_]
  congr 1
  unfold bkF
  rw [show l.length - 1 - (l.length - 1 - k) = k by omega]
  exact h1
def pmT (l : List Int) (k : Nat) : List Int := (pmI l).take k
set_option maxRecDepth 100000 in
set_option maxHeartbeats 4000000 in
theorem permr_40 (a : Option Addr) (n c : Nat) (l : List Int) (w : World) (h : ZRow w a n c l) (hl : rtI l) (hn : n ≤ 1000000) :
    Calls Try.prog 12 #[.slice a n c] w fun e w' => ∃ a' c', e = .returned (.slice a' (n : Nat) c') ∧ ZRow w' a' n c' (pmI l) ∧ New w w' := by
  obtain ⟨i0, hi, hz0, hz1, hz2⟩ := info_parts info_int40
  have HL := Lib.hid h.len_eq
  have HH := Lib.hid h
  have HR := Lib.hid hl
  have HF := Lib.hid (rtI_F hl)
  rw [HL.out] at HF
  have HS := Lib.hid (fun w => row_ref40 n w hn)
  clear h hl
  go_enter Try.func12, Try.ntmps12
  go_wp2_with fail
  refine (HS.out _).mono ?_
  rintro e w9 ⟨v, rfl, how, hnew⟩
  have HO := Lib.hid how
  have HN := Lib.hid hnew
  clear how hnew
  rcases n with _ | m
  · have hnil : pmI l = [] := List.eq_nil_of_length_eq_zero (by rw [pmI_len, HL.out])
    go_wp2_with fail
    go_loop [4, 5] (fun b i => b = .slice none 0 0 ∧ i = .int .i64 (-1)) (fun _ _ => 0)
    case atStart => exact ⟨rfl, rfl⟩
    case round =>
      obtain ⟨rfl, rfl⟩ := hrel
      go_wp2_with fail
      go_loop [7, 8] (fun o i => o = .slice none 0 0 ∧ i = .int .i64 (-1)) (fun _ _ => 0)
      case atStart => exact ⟨rfl, rfl⟩
      case round =>
        obtain ⟨rfl, rfl⟩ := hrel
        go_wp2
        go_ret
        exact ⟨none, 0, rfl, by first | exact nil_zrow _ | (rw [hnil]; exact nil_zrow _), HN.out⟩
  · obtain ⟨g, cap, rfl, hgb, hg9, hnc, hcap⟩ := ow_shape HO.out (by omega)
    have hw1 : (((m + 1 : Nat) : Int) - 1) = (m : Int) := by omega
    go_wp2_with fail
    go_loopw [3, 4, 5] (fun rv bv iv wr => ∃ (r : Nat) (z : Int), r ≤ m + 1 ∧ iv = .int .i64 z ∧ Hid (z = (r : Int) - 1) ∧ rv = .slice (some ⟨g, 0, none⟩) r cap ∧ wr.ownsRow w.heap.size 3 1 (.slice (some ⟨g, 0, none⟩) r cap) r ((liI (stF (fnI l) (m + 1) (m + 1 - r)) r).map fun x => .int .i64 x) ∧ wr.ownsRow w9.heap.size 3 1 bv (m + 1 - r) ((liI (bkF l (m + 1)) (m + 1 - r)).map fun x => .int .i64 x) ∧ New w wr ∧ Hid (w9.heap.size ≤ wr.heap.size)) (fun _ _ iv _ => (intOf iv + 1).toNat)
    case atStart => exact ⟨m + 1, _, Nat.le_refl _, rfl, Lib.hid (by omega), rfl, by rw [Nat.sub_self]; exact HO.out, by rw [Nat.sub_self]; exact World.ownsRow_nil _ _ _ 1, HN.out, Lib.hid (Nat.le_refl _)⟩
    case round =>
      obtain ⟨r, z, hr, rfl, HZ, rfl, hrow, hbk, hnew, HSZ⟩ := hrel
      have HRW := Lib.hid hrow
      have HBK := Lib.hid hbk
      have HN2 := Lib.hid hnew
      obtain ⟨wq, hwq⟩ : ∃ z, z = wr := ⟨_, rfl⟩
      rw [← hwq] at HRW HBK HN2 HSZ ⊢
      clear hrow hbk hnew hwq
      rcases r with _ | j
      · obtain rfl : z = -1 := by have := HZ.out; omega
        rw [Nat.sub_zero] at HBK
        obtain ⟨ab, cb, rfl, hzb⟩ := ZRow.of_owns HBK.out (by omega) (in64_li _ (fun x hx => by
          have := st_lt HF.out (m + 1) (Nat.le_refl _) (m + 1 - 1 - x) (by omega)
          unfold bkF; omega))
        have HZB := Lib.hid hzb
        clear hzb HBK HRW
        have HPT : Hid (∀ k, k < m + 1 → pmT l (k + 1) = pmT l k ++ [(bkF l (m + 1) (m - k) : Int)]) := Lib.hid (fun k hk => by
          have := pm_take l k (by rw [HL.out]; exact hk)
          rw [HL.out, Nat.add_sub_cancel] at this; exact this)
        have HBG : Hid (∀ k, k ≤ m → (liI (bkF l (m + 1)) (m + 1)).getD (m - k) 0 = (bkF l (m + 1) (m - k) : Int)) := Lib.hid (fun k hk => liI_get _ (by omega))
        have HPA : Hid (pmT l (m + 1) = pmI l) := Lib.hid (List.take_of_length_le (by rw [pmI_len, HL.out]; exact Nat.le_refl _))
        have HIN : Hid (∀ z ∈ pmI l, In64 z) := Lib.hid (by
          unfold pmI
          rw [HL.out]
          exact in64_li _ (fun x hx => by have := st_lt HF.out (m + 1) (Nat.le_refl _) x hx; omega))
        go_wp2_with fail
        go_loopw [7, 8] (fun ov iv wr => ∃ (k : Nat) (z : Int), k ≤ m + 1 ∧ iv = .int .i64 z ∧ Hid (z = (m : Int) - (k : Int)) ∧ wr.ownsRow wq.heap.size 3 1 ov k ((pmT l k).map fun x => .int .i64 x) ∧ New wq wr) (fun _ iv _ => (intOf iv + 1).toNat)
        case atStart => exact ⟨0, _, Nat.zero_le _, rfl, Lib.hid (by omega), World.ownsRow_nil _ _ _ 1, New.refl _⟩
        case round =>
          obtain ⟨k, z, hk, rfl, HZ2, hown, hnew⟩ := hrel
          have HO2 := Lib.hid hown
          have HN3 := Lib.hid hnew
          obtain ⟨wp, hwp⟩ : ∃ z, z = wr := ⟨_, rfl⟩
          rw [← hwp] at HO2 HN3 ⊢
          clear hown hnew hwp
          by_cases hke : k = m + 1
          · obtain rfl : z = -1 := by have := HZ2.out; omega
            subst hke
            rw [HPA.out] at HO2
            obtain ⟨ar, cr, rfl, hzr⟩ := ZRow.of_owns HO2.out (by omega) HIN.out
            have HZR := Lib.hid hzr
            clear hzr HO2
            go_wp2
            go_ret
            exact ⟨ar, cr, rfl, HZR.out, HN2.out.trans HN3.out⟩
          · obtain ⟨i, hik⟩ : ∃ i, m - k = i := ⟨_, rfl⟩
            obtain rfl : z = (i : Int) := by have := HZ2.out; omega
            have hi0 : (0 : Int) ≤ (i : Int) := by omega
            have him : (i : Int) < ((m + 1 : Nat) : Int) := by omega
            obtain ⟨b2, off2, rfl, hc2⟩ := (HZB.out.stay HN3.out).addr (by omega)
            have c2 := hc2 i (by omega)
            clear hc2
            have hbg := HBG.out k (by omega)
            have hpt := HPT.out k (by omega)
            rw [hik] at hbg hpt
            rw [hbg] at c2
            have HSS := Lib.hid hpt
            clear hbg hpt
            obtain ⟨y, hy⟩ : ∃ y, bkF l (m + 1) i = y := ⟨_, rfl⟩
            rw [hy] at c2 HSS
            clear hy
            have hown := HO2.out
            have hnew := HN3.out
            go_wp2_with (at_builtin; refine wpList_append_own _ rfl _ _ 22 rfl wq.heap.size 3 i0 (.int .i64 0) 1 8 Try.underlying22 hi hz0 hz1 hz2 rfl (by decide) _ k _ rfl (hown.alloc _) ⟨wp.heap.size, 0, none⟩ 1 1 [.int .i64 (y : Nat)] rfl rfl ?c1 ?c2 ?c3 ?c4 ?c5 ?_)
            try (case c1 => exact one_cell wp _ _)
            try (case c2 => first | rfl | (intro u hu; simp at hu; subst hu; rfl))
            try (case c3 => first | (unfold maxLen; omega) | omega)
            try (case c4 => omega)
            try (case c5 => first | (simp; have := hnew.le; omega) | (have := hnew.le; omega))
            intro v' w1 how hgr _
            have HO4 : Hid (w1.ownsRow wq.heap.size 3 1 v' (k + 1) ((pmT l (k + 1)).map fun x => .int .i64 x)) := Lib.hid (by
              rw [HSS.out, List.map_append]; exact how)
            have HN4 := Lib.hid ((hnew.alloc _).grown' hgr (own_base hown))
            clear how hgr hown hnew
            go_wp2
            exact ⟨⟨k + 1, _, by omega, rfl, Lib.hid (by omega), HO4.out, HN4.out⟩, by simp [intOf]⟩
      · obtain rfl : z = (j : Int) := by have := HZ.out; omega
        have hj0 : (0 : Int) ≤ (j : Int) := by omega
        have hjm : (j : Int) < ((m + 1 : Nat) : Int) := by omega
        obtain ⟨b, off, rfl, hc⟩ := (HH.out.stay HN2.out).addr (by omega)
        have c1 := hc j (by omega)
        clear hc
        have hcl := HF.out j (by omega)
        have hci : l.getD j 0 = ((fnI l j : Nat) : Int) := by
          have := HR.out j (by rw [HL.out]; omega)
          unfold fnI; omega
        rw [hci] at c1
        have hst : stF (fnI l) (m + 1) (m + 1 - j) = sw (stF (fnI l) (m + 1) (m + 1 - (j + 1))) j (fnI l j) := by
          rw [show m + 1 - j = (m + 1 - (j + 1)) + 1 by omega]
          show sw _ (m + 1 - 1 - (m + 1 - (j + 1))) _ = _
          rw [show m + 1 - 1 - (m + 1 - (j + 1)) = j by omega]
        have hbp : bkF l (m + 1) (m + 1 - (j + 1)) = stF (fnI l) (m + 1) (m + 1 - (j + 1)) (fnI l j) := by
          unfold bkF
          have h1 := st_put HF.out (k := m + 1 - (j + 1)) (by omega)
          rw [h1, show m + 1 - 1 - (m + 1 - (j + 1)) = j by omega]
        have hbs : liI (bkF l (m + 1)) (m + 1 - j) = liI (bkF l (m + 1)) (m + 1 - (j + 1)) ++ [((stF (fnI l) (m + 1) (m + 1 - (j + 1)) (fnI l j) : Nat) : Int)] := by
          rw [show m + 1 - j = (m + 1 - (j + 1)) + 1 by omega, liI_succ, hbp]
        obtain ⟨f, hf⟩ : ∃ f, stF (fnI l) (m + 1) (m + 1 - (j + 1)) = f := ⟨_, rfl⟩
        rw [hf] at HRW hst hbs
        obtain ⟨q, hq⟩ : ∃ q, fnI l j = q := ⟨_, rfl⟩
        rw [hq] at c1 hcl hst hbs
        have HST := Lib.hid hst
        have HBS := Lib.hid hbs
        clear hf hci hq hst hbs hbp
        obtain ⟨bl, hbl⟩ : ∃ z, liI (bkF l (m + 1)) (m + 1 - (j + 1)) = z := ⟨_, rfl⟩
        rw [hbl] at HBK HBS
        clear hbl
        obtain ⟨bn, hbn⟩ : ∃ z, m + 1 - (j + 1) = z := ⟨_, rfl⟩
        have hbn2 : m + 1 - j = bn + 1 := by omega
        rw [hbn] at HBK
        obtain ⟨hci, hfi⟩ := ow_int HRW.out (k := j) (by omega)
        obtain ⟨hcq, hfq⟩ := ow_int HRW.out (k := q) (by omega)
        rw [liI_get f (show j < j + 1 by omega)] at hci
        rw [liI_get f (show q < j + 1 by omega)] at hcq
        have hq0 : (0 : Int) ≤ (q : Int) := by omega
        have hqj : (q : Int) < ((j + 1 : Nat) : Int) := by omega
        have hbk := HBK.out
        have hrow := HRW.out
        have hnew := HN2.out
        have hne : (Value.slice (some ⟨g, 0, none⟩) (j + 1 : Nat) cap).ownBlock ≠ u4.ownBlock := fun e' => by
          have h1 := own_base hbk g (by rw [← e']; rfl)
          omega
        by_cases hj0' : j = 0
        · subst hj0'
          obtain rfl : q = 0 := by omega
          rw [Nat.add_zero] at c1
          have c1' : wq.cell? ⟨b, off, none⟩ = some (.int .i64 0) := c1
          clear c1
          have c1 := c1'
          go_wp2_with (at_builtin; refine wpList_append_own _ rfl _ _ 22 rfl w9.heap.size 3 i0 (.int .i64 0) 1 8 Try.underlying22 hi hz0 hz1 hz2 rfl (by decide) _ bn _ rfl (hbk.alloc _) ⟨wq.heap.size, 0, none⟩ 1 1 [.int .i64 (f 0 : Nat)] rfl rfl ?e1 ?e2 ?e3 ?e4 ?e5 ?_)
          try (case e1 => exact one_cell wq _ _)
          try (case e2 => first | rfl | (intro u hu; simp at hu; subst hu; rfl))
          try (case e3 => first | (unfold maxLen; omega) | omega)
          try (case e4 => omega)
          try (case e5 => first | (simp; have := HSZ.out; omega) | (have := HSZ.out; omega))
          intro v' w1 how hgr _
          have hrow1 := (hrow.alloc (.cells #[.int .i64 (f 0 : Nat)] 3)).kept hgr (.inr hne)
          have hnew1 := (hnew.alloc (.cells #[.int .i64 (f 0 : Nat)] 3)).grown' hgr (fun k hk => by
            have h1 := own_base hbk k hk
            have h2 := HN.out.le
            omega)
          have hsz1 : w9.heap.size ≤ w1.heap.size := by
            have h1 := hgr.size
            have h2 := HSZ.out
            simp at h1
            omega
          have HB2 : Hid (w1.ownsRow w9.heap.size 3 1 v' (bn + 1) ((liI (bkF l (m + 1)) (m + 1 - 0)).map fun x => .int .i64 x)) := Lib.hid (by
            rw [HBS.out, List.map_append]; exact how)
          obtain ⟨hci1, hfi1⟩ := ow_int hrow1 (k := 0) (by omega)
          obtain ⟨hcq1, hfq1⟩ := ow_int hrow1 (k := 0) (by omega)
          rw [liI_get f (show 0 < 0 + 1 by omega)] at hci1
          rw [liI_get f (show 0 < 0 + 1 by omega)] at hcq1
          have HQ2 : Hid ((w1.setCell ⟨g, 0, none⟩ (.int .i64 (f 0 : Nat))).ownsRow w.heap.size 3 1 (.slice (some ⟨g, 0, none⟩) 0 cap) 0 ((liI (stF (fnI l) (m + 1) (m + 1 - 0)) 0).map fun x => .int .i64 x)) := Lib.hid (by
            have h1 := ow_cut (ow_set hrow1 0 (.int .i64 (f 0 : Nat))) (show 0 ≤ 0 + 1 by omega)
            rw [← List.map_set, ← List.map_take, row_next f hcl, ← HST.out] at h1
            exact h1)
          have HB3 : Hid ((w1.setCell ⟨g, 0, none⟩ (.int .i64 (f 0 : Nat))).ownsRow w9.heap.size 3 1 v' (m + 1 - 0) ((liI (bkF l (m + 1)) (m + 1 - 0)).map fun x => .int .i64 x)) := Lib.hid (by
            have h1 := ow_far HB2.out (a := ⟨g, 0, none⟩) (fun e' => by
              have := own_base HB2.out g e'
              omega) (.int .i64 (f 0 : Nat))
            rw [hbn2] at h1 ⊢
            exact h1)
          have HN5 : Hid (New w (w1.setCell ⟨g, 0, none⟩ (.int .i64 (f 0 : Nat)))) := Lib.hid (hnew1.setCell hgb _)
          have HS5 : Hid (w9.heap.size ≤ (w1.setCell ⟨g, 0, none⟩ (.int .i64 (f 0 : Nat))).heap.size) := Lib.hid (by simpa using hsz1)
          have hc0 : ¬ cap = 0 := by omega
          have hjc : (0 : Int) ≤ (cap : Int) := by have := ow_shape HRW.out (by omega); obtain ⟨_, _, h1, _, _, h2, _⟩ := this; cases h1; omega
          clear how hgr hrow hnew hbk hrow1 hnew1 hsz1 HB2 c1 hci hfi hcq hfq hne HST HBS
          go_wp2
          exact ⟨⟨0, _, by omega, rfl, Lib.hid (by omega), rfl, HQ2.out, HB3.out, HN5.out, HS5⟩, by simp [intOf]⟩
        · have hjn : ((j : Int) == 0) = false := by rw [beq_eq_false_iff_ne]; omega
          go_wp2_with (at_builtin; refine wpList_append_own _ rfl _ _ 22 rfl w9.heap.size 3 i0 (.int .i64 0) 1 8 Try.underlying22 hi hz0 hz1 hz2 rfl (by decide) _ bn _ rfl (hbk.alloc _) ⟨wq.heap.size, 0, none⟩ 1 1 [.int .i64 (f q : Nat)] rfl rfl ?d1 ?d2 ?d3 ?d4 ?d5 ?_)
          try (case d1 => exact one_cell wq _ _)
          try (case d2 => first | rfl | (intro u hu; simp at hu; subst hu; rfl))
          try (case d3 => first | (unfold maxLen; omega) | omega)
          try (case d4 => omega)
          try (case d5 => first | (simp; have := HSZ.out; omega) | (have := HSZ.out; omega))
          intro v' w1 how hgr _
          have hrow1 := (hrow.alloc (.cells #[.int .i64 (f q : Nat)] 3)).kept hgr (.inr hne)
          have hnew1 := (hnew.alloc (.cells #[.int .i64 (f q : Nat)] 3)).grown' hgr (fun k hk => by
            have h1 := own_base hbk k hk
            have h2 := HN.out.le
            omega)
          have hsz1 : w9.heap.size ≤ w1.heap.size := by
            have h1 := hgr.size
            have h2 := HSZ.out
            simp at h1
            omega
          have HB2 : Hid (w1.ownsRow w9.heap.size 3 1 v' (bn + 1) ((liI (bkF l (m + 1)) (m + 1 - j)).map fun x => .int .i64 x)) := Lib.hid (by
            rw [HBS.out, List.map_append]; exact how)
          obtain ⟨hci1, hfi1⟩ := ow_int hrow1 (k := j) (by omega)
          obtain ⟨hcq1, hfq1⟩ := ow_int hrow1 (k := q) (by omega)
          rw [liI_get f (show j < j + 1 by omega)] at hci1
          rw [liI_get f (show q < j + 1 by omega)] at hcq1
          have HQ2 : Hid ((w1.setCell ⟨g, q, none⟩ (.int .i64 (f j : Nat))).ownsRow w.heap.size 3 1 (.slice (some ⟨g, 0, none⟩) j cap) j ((liI (stF (fnI l) (m + 1) (m + 1 - j)) j).map fun x => .int .i64 x)) := Lib.hid (by
            have h1 := ow_cut (ow_set hrow1 q (.int .i64 (f j : Nat))) (show j ≤ j + 1 by omega)
            rw [← List.map_set, ← List.map_take, row_next f hcl, ← HST.out] at h1
            exact h1)
          have HB3 : Hid ((w1.setCell ⟨g, q, none⟩ (.int .i64 (f j : Nat))).ownsRow w9.heap.size 3 1 v' (m + 1 - j) ((liI (bkF l (m + 1)) (m + 1 - j)).map fun x => .int .i64 x)) := Lib.hid (by
            have h1 := ow_far HB2.out (a := ⟨g, q, none⟩) (fun e' => by
              have := own_base HB2.out g e'
              omega) (.int .i64 (f j : Nat))
            rw [hbn2] at h1 ⊢
            exact h1)
          have HN5 : Hid (New w (w1.setCell ⟨g, q, none⟩ (.int .i64 (f j : Nat)))) := Lib.hid (hnew1.setCell hgb _)
          have HS5 : Hid (w9.heap.size ≤ (w1.setCell ⟨g, q, none⟩ (.int .i64 (f j : Nat))).heap.size) := Lib.hid (by simpa using hsz1)
          have hc0 : ¬ cap = 0 := by omega
          have hjc : (j : Int) ≤ (cap : Int) := by have := ow_shape HRW.out (by omega); obtain ⟨_, _, h1, _, _, h2, _⟩ := this; cases h1; omega
          clear how hgr hrow hnew hbk hrow1 hnew1 hsz1 HB2 c1 hci hfi hcq hfq hne HST HBS
          go_wp2
          exact ⟨⟨j, _, by omega, rfl, Lib.hid (by omega), rfl, HQ2.out, HB3.out, HN5.out, HS5⟩, by simp [intOf]⟩
end Go.Proofs.Ytopepchfaomdoaa
