/- gf2: Coef, Add, Clmul. -/
import Derived.Test.YtppmpledcaonkaaGf2A
import Derived.Test.YtppmpledcaonkaaWidQ
import Derived.Handy
namespace Go.G2
set_option linter.unusedVariables false
theorem mod_step (n k : Nat) : n % 2 ^ (64 * (k + 1)) = (n % 2 ^ (64 * k)) ^^^ 2 ^ (64 * k) * (BitVec.ofNat 64 (n / 2 ^ (64 * k))).toNat := by
  rw [← bits_split _ _ _ (Nat.mod_lt _ (Nat.two_pow_pos _)), BitVec.toNat_ofNat, Nat.mul_add, Nat.mul_one, Nat.pow_add, Nat.mod_mul]
theorem ofNat_xor (a b : Nat) : BitVec.ofNat 64 (a ^^^ b) = BitVec.ofNat 64 a ^^^ BitVec.ofNat 64 b := by
  apply BitVec.eq_of_getLsbD_eq
  intro i hi
  rw [BitVec.getLsbD_xor, BitVec.getLsbD_ofNat, BitVec.getLsbD_ofNat, BitVec.getLsbD_ofNat, Nat.testBit_xor]
  simp [hi]
theorem ofNat_low (n : Nat) : BitVec.ofNat 64 (n % 2 ^ 64) = BitVec.ofNat 64 n := by
  apply BitVec.eq_of_toNat_eq
  rw [BitVec.toNat_ofNat, BitVec.toNat_ofNat, Nat.mod_mod]
theorem xor_div (a b k : Nat) : (a ^^^ b) / 2 ^ k = a / 2 ^ k ^^^ b / 2 ^ k := by
  apply Nat.eq_of_testBit_eq
  intro i
  rw [Nat.testBit_xor, Nat.testBit_div_two_pow, Nat.testBit_div_two_pow, Nat.testBit_div_two_pow, Nat.testBit_xor]
theorem and_one (x : BitVec 64) (k : Nat) : (x >>> k &&& 1#64 == 1#64) = x.getLsbD k := by
  have e : x >>> k &&& 1#64 = if x.getLsbD k then 1#64 else 0#64 := by
    apply BitVec.eq_of_getLsbD_eq
    intro i hi
    rw [BitVec.getLsbD_and, BitVec.getLsbD_ushiftRight, BitVec.getLsbD_one]
    cases i with
    | zero => cases x.getLsbD k <;> simp
    | succ i => cases x.getLsbD k <;> simp
  rw [e]
  cases x.getLsbD k <;> rfl
theorem bit_step (n i : Nat) (x : Nat) : mulG (n % 2 ^ (i + 1)) x = mulG (n % 2 ^ i) x ^^^ (if n.testBit i then 2 ^ i * x else 0) := by
  have e : n % 2 ^ (i + 1) = n % 2 ^ i ^^^ (if n.testBit i then 2 ^ i else 0) := by
    apply Nat.eq_of_testBit_eq
    intro j
    rw [Nat.testBit_xor, Nat.testBit_mod_two_pow, Nat.testBit_mod_two_pow]
    by_cases h : j = i
    · subst h
      cases n.testBit j
      · simp
      · simp [Nat.testBit_two_pow_self]
    · have h2 : (if n.testBit i = true then 2 ^ i else 0).testBit j = false := by
        split
        · rw [Nat.testBit_two_pow]; simp; omega
        · simp
      rw [h2]
      by_cases h3 : j < i
      · simp [h3, show j < i + 1 by omega]
      · simp [h3, show ¬ j < i + 1 by omega]
  rw [e, xor_mulG]
  congr 1
  split
  · exact mulG_pow _ _
  · exact mulG_zero _
end Go.G2
namespace Go.Proofs.Ytppmpledcaonkaa
open Go Go.RowKit Go.Bv Go.G2
set_option linter.unusedVariables false
set_option maxRecDepth 100000 in
set_option maxHeartbeats 1000000 in
theorem coef_q (a : Option Addr) (n c : Nat) (l : List (BitVec 64)) (i : Nat) (w : World) (h : QRow w a n c l) (hi : i ≤ 1000000000000) :
    Calls Try.prog 19 #[.slice a n c, .int .i64 (i : Int)] w fun e w' => e = .returned (.bool ((vW l).testBit i)) ∧ w' = w := by
  rw [bit_word]
  have hl := h.len_eq
  obtain ⟨j, hj⟩ : ∃ j, i / 64 = j := ⟨_, rfl⟩
  obtain ⟨r, hr⟩ : ∃ r, i % 64 = r := ⟨_, rfl⟩
  rw [hj, hr]
  have hji : (i : Int) / 64 = (j : Int) := by omega
  have hri : (i : Int) % 64 = (r : Int) := by omega
  have hjt : (i : Int).tdiv 64 = (j : Int) := by rw [Int.tdiv_eq_ediv_of_nonneg (by omega)]; exact hji
  have hrt : (i : Int).tmod 64 = (r : Int) := by rw [Int.tmod_eq_emod_of_nonneg (by omega)]; exact hri
  have hi0 : (0 : Int) ≤ (i : Int) := by omega
  have hj0 : (0 : Int) ≤ (j : Int) := by omega
  have hr0 : (0 : Int) ≤ (r : Int) := by omega
  by_cases hlt : (j : Int) < (n : Int)
  · obtain ⟨b, off, rfl, hc⟩ := h.addr (by omega)
    have c1 := hc j (by omega)
    obtain ⟨x, hx⟩ : ∃ x, l.getD j 0 = x := ⟨_, rfl⟩
    rw [hx] at c1 ⊢
    have hn9 : ¬ (n : Int) ≤ (j : Int) := by omega
    have HB := Lib.hid (and_one x r)
    clear h hc hx hj hr hl
    go_enter Try.func19, Try.ntmps19
    go_wp2
    go_ret
    rw [← HB.out]; exact ⟨rfl, rfl⟩
  · have hz : l.getD j 0 = 0#64 := by rw [List.getD_eq_getElem?_getD, List.getElem?_eq_none (by omega)]; rfl
    have hn9 : (n : Int) ≤ (j : Int) := by omega
    rw [hz]
    have HB : Hid ((0#64).getLsbD r = false) := Lib.hid (by simp)
    rw [HB.out]
    clear h hj hr hl hz HB
    go_enter Try.func19, Try.ntmps19
    go_wp2
    go_ret
    exact ⟨rfl, rfl⟩
theorem coef_neg (a : Option Addr) (n c : Nat) (i : Int) (w : World) (hi : i < 0) :
    Calls Try.prog 19 #[.slice a n c, .int .i64 i] w fun e w' => e = .returned (.bool false) ∧ w' = w := by
  go_enter Try.func19, Try.ntmps19
  go_wp2
  go_ret
  exact ⟨rfl, rfl⟩
/-- the sum of two lists so far -/
def sm2 (A B : Nat) (k : Nat) : Nat := A ^^^ B % 2 ^ (64 * k)
theorem sm2_step (A : Nat) (l : List (BitVec 64)) (N k : Nat) (hk : k < N) : (wL N (sm2 A (vW l) k)).set k ((wL N (sm2 A (vW l) k)).getD k 0 ^^^ l.getD k 0) = wL N (sm2 A (vW l) (k + 1)) := by
  rw [wL_get hk, wL_xor hk]
  unfold sm2
  rw [mod_step, vW_div, Nat.xor_assoc]
set_option maxRecDepth 100000 in
set_option maxHeartbeats 2000000 in
theorem add_q (a b : Option Addr) (n c m c2 : Nat) (l l2 : List (BitVec 64)) (w : World) (h : QRow w a n c l) (h2 : QRow w b m c2 l2) (hn : n ≤ 100000) (hm : m ≤ 100000) :
    Calls Try.prog 22 #[.slice a n c, .slice b m c2] w fun e w' => ∃ a' c', e = .returned (.slice a' (tW (vW l ^^^ vW l2)).length c') ∧ QRow w' a' (tW (vW l ^^^ vW l2)).length c' (tW (vW l ^^^ vW l2)) ∧ New w w' := by
  by_cases hsw : (n : Int) < (m : Int)
  · have HC := Lib.hid (clone_q b m c2 l2 w h2)
    have HB := Lib.hid h
    have HST := Lib.hid (fun k (hk : k < m) => sm2_step (vW l2) l m k hk)
    have HFIN : Hid (vW (wL m (sm2 (vW l2) (vW l) n)) = vW l ^^^ vW l2) := Lib.hid (by
      have e1 := vW_lt l2
      have e2 := vW_lt l
      rw [h2.len_eq] at e1
      rw [h.len_eq] at e2
      unfold sm2
      rw [Nat.mod_eq_of_lt e2, vW_wL, Nat.mod_eq_of_lt (Nat.xor_lt_two_pow e1 (Nat.lt_of_lt_of_le e2 (Nat.pow_le_pow_right (by decide) (by omega)))), Nat.xor_comm])
    have HST0 : Hid (wL m (sm2 (vW l2) (vW l) 0) = l2) := Lib.hid (by
      unfold sm2
      rw [Nat.mul_zero, Nat.pow_zero, Nat.mod_one, Nat.xor_zero, ← h2.len_eq]; exact wL_vW l2)
    obtain ⟨V, hV⟩ : ∃ V, vW l ^^^ vW l2 = V := ⟨_, rfl⟩
    rw [hV] at HFIN ⊢
    clear h h2 hV
    go_enter Try.func22, Try.ntmps22
    go_wp2_with fail
    refine HC.out.mono ?_
    rintro e w1 ⟨v, rfl, how, hn1⟩
    have HO := Lib.hid how
    have HN := Lib.hid hn1
    clear how hn1 HC
    go_wp2_with fail
    go_loopw [19] (fun iv wr => ∃ k : Nat, k ≤ n ∧ iv = .int .i64 (k : Int) ∧ wr.ownsRow w.heap.size 34 1 v m ((wL m (sm2 (vW l2) (vW l) k)).map fun x => .int .u64 (W64 x)) ∧ New w wr) (fun iv _ => n - (intOf iv).toNat)
    case atStart => exact ⟨0, Nat.zero_le _, rfl, by rw [HST0.out]; exact HO.out, HN.out⟩
    case round =>
      clear HO HN
      obtain ⟨k, hk, rfl, hown, hnew⟩ := hrel
      obtain ⟨wq, hwq⟩ : ∃ z, z = wr := ⟨_, rfl⟩
      rw [← hwq] at hown hnew ⊢
      clear hwq
      by_cases hlt : (k : Int) < (n : Int)
      · have hk0 : (0 : Int) ≤ (k : Int) := by omega
        have hkn : (k : Int) < (m : Int) := by omega
        obtain ⟨b1, off, rfl, hc⟩ := (HB.out.stay hnew).addr (by omega)
        have c1 := hc k (by omega)
        clear hc
        obtain ⟨g, cap, rfl, hgb, _⟩ := ow_shape hown (by omega)
        obtain ⟨d1, e1⟩ := ow_w64 hown (k := k) (by omega)
        have HS := Lib.hid (HST.out k (by omega))
        obtain ⟨x, hx⟩ : ∃ x, l.getD k 0 = x := ⟨_, rfl⟩
        obtain ⟨y, hy⟩ : ∃ y, (wL m (sm2 (vW l2) (vW l) k)).getD k 0 = y := ⟨_, rfl⟩
        rw [hx] at c1 HS
        rw [hy] at d1 HS
        have HO2 : Hid ((wq.setCell ⟨g, k, none⟩ (.int .u64 (W64 (y ^^^ x)))).ownsRow w.heap.size 34 1 (.slice (some ⟨g, 0, none⟩) m cap) m ((wL m (sm2 (vW l2) (vW l) (k + 1))).map fun x => .int .u64 (W64 x))) := Lib.hid (by
          rw [← HS.out, List.map_set]; exact ow_set hown k _)
        have HN2 : Hid (New w (wq.setCell ⟨g, k, none⟩ (.int .u64 (W64 (y ^^^ x))))) := Lib.hid (hnew.setCell hgb _)
        clear hown hnew HS hx hy
        go_wp2
        exact ⟨⟨k + 1, by omega, by go_num, HO2.out, HN2.out⟩, by simp [intOf]; omega⟩
      · have hkn : k = n := by omega
        rw [hkn] at hown
        obtain ⟨a9, c9, rfl, hq⟩ := QRow.of_owns hown (by omega)
        have HT := Lib.hid (trim_q a9 _ c9 _ wq hq)
        rw [HFIN.out] at HT
        have HN := Lib.hid hnew
        clear hown hnew hq hkn
        go_wp2_with fail
        refine HT.out.mono ?_
        rintro e w2 ⟨a8, c8, rfl, hq, hn2⟩
        have HQ := Lib.hid hq
        have HN2 := Lib.hid (HN.out.trans hn2)
        clear hq hn2 HT
        go_wp2
        go_ret
        exact ⟨_, _, rfl, HQ.out, HN2.out⟩
  · have HC := Lib.hid (clone_q a n c l w h)
    have HB := Lib.hid h2
    have HST := Lib.hid (fun k (hk : k < n) => sm2_step (vW l) l2 n k hk)
    have HFIN : Hid (vW (wL n (sm2 (vW l) (vW l2) m)) = vW l ^^^ vW l2) := Lib.hid (by
      have e1 := vW_lt l
      have e2 := vW_lt l2
      rw [h.len_eq] at e1
      rw [h2.len_eq] at e2
      unfold sm2
      rw [Nat.mod_eq_of_lt e2, vW_wL, Nat.mod_eq_of_lt (Nat.xor_lt_two_pow e1 (Nat.lt_of_lt_of_le e2 (Nat.pow_le_pow_right (by decide) (by omega))))])
    have HST0 : Hid (wL n (sm2 (vW l) (vW l2) 0) = l) := Lib.hid (by
      unfold sm2
      rw [Nat.mul_zero, Nat.pow_zero, Nat.mod_one, Nat.xor_zero, ← h.len_eq]; exact wL_vW l)
    obtain ⟨V, hV⟩ : ∃ V, vW l ^^^ vW l2 = V := ⟨_, rfl⟩
    rw [hV] at HFIN ⊢
    clear h h2 hV
    go_enter Try.func22, Try.ntmps22
    go_wp2_with fail
    refine HC.out.mono ?_
    rintro e w1 ⟨v, rfl, how, hn1⟩
    have HO := Lib.hid how
    have HN := Lib.hid hn1
    clear how hn1 HC
    go_wp2_with fail
    go_loopw [19] (fun iv wr => ∃ k : Nat, k ≤ m ∧ iv = .int .i64 (k : Int) ∧ wr.ownsRow w.heap.size 34 1 v n ((wL n (sm2 (vW l) (vW l2) k)).map fun x => .int .u64 (W64 x)) ∧ New w wr) (fun iv _ => m - (intOf iv).toNat)
    case atStart => exact ⟨0, Nat.zero_le _, rfl, by rw [HST0.out]; exact HO.out, HN.out⟩
    case round =>
      clear HO HN
      obtain ⟨k, hk, rfl, hown, hnew⟩ := hrel
      obtain ⟨wq, hwq⟩ : ∃ z, z = wr := ⟨_, rfl⟩
      rw [← hwq] at hown hnew ⊢
      clear hwq
      by_cases hlt : (k : Int) < (m : Int)
      · have hk0 : (0 : Int) ≤ (k : Int) := by omega
        have hkn : (k : Int) < (n : Int) := by omega
        obtain ⟨b1, off, rfl, hc⟩ := (HB.out.stay hnew).addr (by omega)
        have c1 := hc k (by omega)
        clear hc
        obtain ⟨g, cap, rfl, hgb, _⟩ := ow_shape hown (by omega)
        obtain ⟨d1, e1⟩ := ow_w64 hown (k := k) (by omega)
        have HS := Lib.hid (HST.out k (by omega))
        obtain ⟨x, hx⟩ : ∃ x, l2.getD k 0 = x := ⟨_, rfl⟩
        obtain ⟨y, hy⟩ : ∃ y, (wL n (sm2 (vW l) (vW l2) k)).getD k 0 = y := ⟨_, rfl⟩
        rw [hx] at c1 HS
        rw [hy] at d1 HS
        have HO2 : Hid ((wq.setCell ⟨g, k, none⟩ (.int .u64 (W64 (y ^^^ x)))).ownsRow w.heap.size 34 1 (.slice (some ⟨g, 0, none⟩) n cap) n ((wL n (sm2 (vW l) (vW l2) (k + 1))).map fun x => .int .u64 (W64 x))) := Lib.hid (by
          rw [← HS.out, List.map_set]; exact ow_set hown k _)
        have HN2 : Hid (New w (wq.setCell ⟨g, k, none⟩ (.int .u64 (W64 (y ^^^ x))))) := Lib.hid (hnew.setCell hgb _)
        clear hown hnew HS hx hy
        go_wp2
        exact ⟨⟨k + 1, by omega, by go_num, HO2.out, HN2.out⟩, by simp [intOf]; omega⟩
      · have hkn : k = m := by omega
        rw [hkn] at hown
        obtain ⟨a9, c9, rfl, hq⟩ := QRow.of_owns hown (by omega)
        have HT := Lib.hid (trim_q a9 _ c9 _ wq hq)
        rw [HFIN.out] at HT
        have HN := Lib.hid hnew
        clear hown hnew hq hkn
        go_wp2_with fail
        refine HT.out.mono ?_
        rintro e w2 ⟨a8, c8, rfl, hq, hn2⟩
        have HQ := Lib.hid hq
        have HN2 := Lib.hid (HN.out.trans hn2)
        clear hq hn2 HT
        go_wp2
        go_ret
        exact ⟨_, _, rfl, HQ.out, HN2.out⟩
set_option maxRecDepth 100000 in
set_option maxHeartbeats 2000000 in
theorem clmul_q (x y : BitVec 64) (w : World) :
    Calls Try.prog 26 #[.int .u64 (W64 x), .int .u64 (W64 y)] w fun e w' => e = .returned (.agg #[.int .u64 (W64 (BitVec.ofNat 64 (mulG y.toNat x.toNat / 2 ^ 64))), .int .u64 (W64 (BitVec.ofNat 64 (mulG y.toNat x.toNat)))]) ∧ New w w' := by
  have HS := Lib.hid (fun (i : Nat) (hi : i < 64) w => wshl_two 0#64 x (i : Int) i i (by omega) (by omega) (by omega) w)
  rw [show two 0#64 x = x.toNat from by unfold two; simp] at HS
  have h1 := heap_alloc_new w (.cells #[.int .u64 0, .int .u64 0] 36)
  obtain ⟨W1, hW1⟩ : ∃ z, w.alloc (.cells #[.int .u64 0, .int .u64 0] 36) = z := ⟨_, rfl⟩
  have hn1 : New w W1 := hW1 ▸ (New.refl w).alloc _
  rw [hW1] at h1
  have hs1 : W1.heap.size = w.heap.size + 1 := by rw [← hW1]; simp
  have h2 := heap_alloc_new W1 (.cells #[.int .u64 0, .int .u64 0] 36)
  obtain ⟨W2, hW2⟩ : ∃ z, W1.alloc (.cells #[.int .u64 0, .int .u64 0] 36) = z := ⟨_, rfl⟩
  have hn2 : New W1 W2 := hW2 ▸ (New.refl W1).alloc _
  rw [hW2, hs1] at h2
  have h1' := (hn2.block _ (lt_of_block h1)).trans h1
  have HN := Lib.hid (hn1.trans hn2)
  have HB1 := Lib.hid h1'
  have HB2 := Lib.hid h2
  have HW1 := Lib.hid hW1
  have HW2 := Lib.hid hW2
  clear h1 h2 hn1 hn2 hs1 h1' hW1 hW2
  have HZ : Hid (W64 (BitVec.ofNat 64 0) = 0) := Lib.hid rfl
  go_enter Try.func26, Try.ntmps26
  go_wp2_with fail
  rw [HW1.out, HW2.out]
  go_wp2_with fail
  go_loopw [8] (fun iv wr => ∃ i : Nat, i ≤ 64 ∧ iv = .int .i64 (i : Int) ∧ wr.heap[w.heap.size]? = some (.cells #[.int .u64 0, .int .u64 0] 36 (0, 0)) ∧ wr.heap[w.heap.size + 1]? = some (.cells #[.int .u64 (W64 (BitVec.ofNat 64 (mulG (y.toNat % 2 ^ i) x.toNat / 2 ^ 64))), .int .u64 (W64 (BitVec.ofNat 64 (mulG (y.toNat % 2 ^ i) x.toNat)))] 36 (0, 0)) ∧ New w wr) (fun iv _ => 64 - (intOf iv).toNat)
  case atStart =>
    refine ⟨0, by omega, rfl, HB1.out, ?_, HN.out⟩
    rw [Nat.pow_zero, Nat.mod_one, mulG_zero]
    exact HB2.out
  case round =>
    clear HB1 HB2 HN
    obtain ⟨i, hi, rfl, hb1, hb2, hnew⟩ := hrel
    obtain ⟨wq, hwq⟩ : ∃ z, z = wr := ⟨_, rfl⟩
    rw [← hwq] at hb1 hb2 hnew ⊢
    clear hwq
    have HB1 := Lib.hid hb1
    have HB2 := Lib.hid hb2
    have HN := Lib.hid hnew
    by_cases hlt : (i : Int) < 64
    · have hi0 : (0 : Int) ≤ (i : Int) := by omega
      have HST := Lib.hid (bit_step y.toNat i x.toNat)
      obtain ⟨P, hP⟩ : ∃ P, mulG (y.toNat % 2 ^ i) x.toNat = P := ⟨_, rfl⟩
      rw [hP] at HST hb2 HB2
      have HY : Hid ((y >>> i &&& 1#64 == 1#64) = y.toNat.testBit i) := Lib.hid (and_one y i)
      rcases hy : y.toNat.testBit i with _ | _
      · have hb9 : (y >>> i &&& 1#64 == 1#64) = false := by rw [HY.out, hy]
        have HE : Hid (mulG (y.toNat % 2 ^ (i + 1)) x.toNat = P) := Lib.hid (by rw [HST.out, hy]; simp)
        clear hb1 hb2 hnew hP hy
        go_wp2
        refine ⟨⟨i + 1, by omega, by go_num, HB1.out, ?_, HN.out⟩, by simp [intOf]; omega⟩
        rw [HE.out]; exact HB2.out
      · have hb9 : (y >>> i &&& 1#64 == 1#64) = true := by rw [HY.out, hy]
        have HE : Hid (mulG (y.toNat % 2 ^ (i + 1)) x.toNat = P ^^^ x.toNat * 2 ^ i) := Lib.hid (by rw [HST.out, hy, Nat.mul_comm]; simp)
        have HC := Lib.hid (HS.out i (by omega))
        obtain ⟨Q, hQ⟩ : ∃ Q, x.toNat * 2 ^ i = Q := ⟨_, rfl⟩
        rw [hQ] at HE HC
        clear hb1 hb2 hnew hP hy hQ
        go_wp2_with fail
        refine (HC.out _).mono ?_
        rintro e w3 ⟨rfl, hn3⟩
        obtain ⟨q1, hq1⟩ : ∃ q, BitVec.ofNat 64 (Q / 2 ^ 64) = q := ⟨_, rfl⟩
        obtain ⟨q0, hq0⟩ : ∃ q, BitVec.ofNat 64 Q = q := ⟨_, rfl⟩
        obtain ⟨p1, hp1⟩ : ∃ q, BitVec.ofNat 64 (P / 2 ^ 64) = q := ⟨_, rfl⟩
        obtain ⟨p0, hp0⟩ : ∃ q, BitVec.ofNat 64 P = q := ⟨_, rfl⟩
        rw [hp1, hp0] at HB2
        rw [hq1, hq0]
        have HE1 : Hid (BitVec.ofNat 64 (mulG (y.toNat % 2 ^ (i + 1)) x.toNat / 2 ^ 64) = p1 ^^^ q1) := Lib.hid (by rw [HE.out, xor_div, ofNat_xor, hp1, hq1])
        have HE0 : Hid (BitVec.ofNat 64 (mulG (y.toNat % 2 ^ (i + 1)) x.toNat) = p0 ^^^ q0) := Lib.hid (by rw [HE.out, ofNat_xor, hp0, hq0])
        clear hq1 hq0 hp1 hp0
        have hlt0 := lt_of_block HB1.out
        have hlt1 := lt_of_block HB2.out
        have hb1 := (hn3.block _ hlt0).trans HB1.out
        have hb2 := (hn3.block _ hlt1).trans HB2.out
        have hn9 := HN.out.trans hn3
        have k1 := cell_of_row _ _ 0 _ _ _ hb2
        have k2 := cell_of_row _ _ 1 _ _ _ hb2
        obtain ⟨W4, hW4⟩ : ∃ z, w3.alloc (.cells #[.int .u64 (W64 q1), .int .u64 (W64 q0)] 36) = z := ⟨_, rfl⟩
        have hn4 : New w3 W4 := hW4 ▸ (New.refl w3).alloc _
        have hb3 := heap_alloc_new w3 (.cells #[.int .u64 (W64 q1), .int .u64 (W64 q0)] 36)
        rw [hW4] at hb3
        have hb24 := (hn4.block _ (lt_of_block hb2)).trans hb2
        have hb14 := (hn4.block _ (lt_of_block hb1)).trans hb1
        have hne : w3.heap.size ≠ w.heap.size + 1 := by have := lt_of_block hb2; omega
        have hn94 := hn9.trans hn4
        have k1 : W4.cell? ⟨w.heap.size + 1, 0, none⟩ = some (.int .u64 (W64 p1)) := cell_of_row _ _ 0 _ _ _ hb24
        have kf := frozen_of_row W4 _ 0 _ _ hb24
        have k3 : W4.cell? ⟨w3.heap.size, 0, none⟩ = some (.int .u64 (W64 q1)) := cell_of_row _ _ 0 _ _ _ hb3
        have hs1 := heap_setCell_same W4 (w.heap.size + 1) 0 _ _ (.int .u64 (W64 (p1 ^^^ q1))) hb24
        have hs3 := (heap_setCell_other W4 ⟨w.heap.size + 1, 0, none⟩ w3.heap.size (.int .u64 (W64 (p1 ^^^ q1))) hne).trans hb3
        have hs0 := (heap_setCell_other W4 ⟨w.heap.size + 1, 0, none⟩ w.heap.size (.int .u64 (W64 (p1 ^^^ q1))) (by simp)).trans hb14
        have hnW5 := hn94.setCell (p := ⟨w.heap.size + 1, 0, none⟩) (Nat.le_succ _) (.int .u64 (W64 (p1 ^^^ q1)))
        obtain ⟨W5, hW5⟩ : ∃ z, W4.setCell ⟨w.heap.size + 1, 0, none⟩ (.int .u64 (W64 (p1 ^^^ q1))) = z := ⟨_, rfl⟩
        rw [hW5] at hs1 hs3 hs0 hnW5
        have k5 : W5.cell? ⟨w.heap.size + 1, 1, none⟩ = some (.int .u64 (W64 p0)) := cell_of_row _ _ 1 _ _ _ hs1
        have kf5 := frozen_of_row W5 _ 1 _ _ hs1
        have k6 : W5.cell? ⟨w3.heap.size, 1, none⟩ = some (.int .u64 (W64 q0)) := cell_of_row _ _ 1 _ _ _ hs3
        have ht1 := heap_setCell_same W5 (w.heap.size + 1) 1 _ _ (.int .u64 (W64 (p0 ^^^ q0))) hs1
        have ht0 := (heap_setCell_other W5 ⟨w.heap.size + 1, 1, none⟩ w.heap.size (.int .u64 (W64 (p0 ^^^ q0))) (by simp)).trans hs0
        have hnW6 := hnW5.setCell (p := ⟨w.heap.size + 1, 1, none⟩) (Nat.le_succ _) (.int .u64 (W64 (p0 ^^^ q0)))
        have HT1 := Lib.hid ht1
        have HT0 := Lib.hid ht0
        have HN6 := Lib.hid hnW6
        clear hb1 hb2 hb3 hb24 hb14 hn3 hn4 hn9 hn94 hlt0 hlt1 HB1 HB2 HN hs1 hs3 hs0 hnW5 ht1 ht0 hnW6 hne
        go_wp2_with fail
        refine ⟨⟨i + 1, by omega, by go_num, HT0.out, ?_, HN6.out⟩, by simp [intOf]; omega⟩
        rw [HE1.out, HE0.out]
        exact HT1.out
    · obtain rfl : i = 64 := by omega
      have hy64 : y.toNat % 2 ^ 64 = y.toNat := Nat.mod_eq_of_lt y.isLt
      rw [hy64] at hb2
      obtain ⟨p1, hp1⟩ : ∃ q, BitVec.ofNat 64 (mulG y.toNat x.toNat / 2 ^ 64) = q := ⟨_, rfl⟩
      obtain ⟨p0, hp0⟩ : ∃ q, BitVec.ofNat 64 (mulG y.toNat x.toNat) = q := ⟨_, rfl⟩
      rw [hp1, hp0] at hb2
      have HP1 := Lib.hid hp1
      have HP0 := Lib.hid hp0
      have k1 : wq.cell? ⟨w.heap.size + 1, 0, none⟩ = some (.int .u64 (W64 p1)) := cell_of_row _ _ 0 _ _ _ hb2
      have k2 : wq.cell? ⟨w.heap.size + 1, 1, none⟩ = some (.int .u64 (W64 p0)) := cell_of_row _ _ 1 _ _ _ hb2
      have k3 : wq.cell? ⟨w.heap.size, 0, none⟩ = some (.int .u64 0) := cell_of_row _ _ 0 _ _ _ hb1
      have k4 : wq.cell? ⟨w.heap.size, 1, none⟩ = some (.int .u64 0) := cell_of_row _ _ 1 _ _ _ hb1
      have kf := frozen_of_row wq w.heap.size 0 _ _ hb1
      have kf2 := frozen_of_row wq w.heap.size 1 _ _ hb1
      clear hp1 hp0 hb2 HB1 HB2 hy64
      have hs1 := heap_setCell_same wq w.heap.size 0 _ _ (.int .u64 (W64 p1)) hb1
      have hs2 := heap_setCell_same _ w.heap.size 1 _ _ (.int .u64 (W64 p0)) hs1
      have hn6 := (HN.out.setCell (p := ⟨w.heap.size, 0, none⟩) (Nat.le_refl _) (.int .u64 (W64 p1))).setCell (p := ⟨w.heap.size, 1, none⟩) (Nat.le_refl _) (.int .u64 (W64 p0))
      clear hb1
      go_wp2
      obtain ⟨V, hV⟩ : ∃ z, (wq.setCell ⟨w.heap.size, 0, none⟩ (.int .u64 (W64 p1))).setCell ⟨w.heap.size, 1, none⟩ (.int .u64 (W64 p0)) = z := ⟨_, rfl⟩
      rw [hV] at hs2 hn6 ⊢
      have d0 : V.cell? ⟨w.heap.size, 0, none⟩ = some (.int .u64 (W64 p1)) := cell_of_row _ _ 0 _ _ _ hs2
      have d1 : V.cell? ⟨w.heap.size, 1, none⟩ = some (.int .u64 (W64 p0)) := cell_of_row _ _ 1 _ _ _ hs2
      refine bodyPost_ret (by simp [results, Try.results26, go_sem, d0, d1]; try rfl) rfl ?_
      rw [← HP1.out, ← HP0.out]
      exact ⟨rfl, hn6⟩
end Go.Proofs.Ytppmpledcaonkaa
