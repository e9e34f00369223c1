import Derived.Test.YtebcfbcfipmahaaGreatZ3FamF
import Derived.Laws.OwnMore
section
/- Layer 27: values of seeds of polynomials; the chapter's example; what any kind is called: the walk of the statement FamilyKinds. -/
namespace Go.Proofs.YtebcfbcfipmahaaGreat
open Go.RowKit Go.Bv
set_option linter.unusedVariables false
theorem ev_poly (k b : Int) (a : Option Addr) (n c : Nat) (l : List (BitVec 64)) (x : BitVec 64) (w : World) (h : QRow w a n c l) : Calls Tryz.prog 73 #[.agg (sdc k b a n c), .int .u64 (W64 x)] w fun e w' => e = .returned (.tuple #[.int .u64 (W64 (evP l x)), .int .i64 (evC l x)]) ∧ New w w' := by
  generalize hW : w.alloc (.cells (sdc k b a n c) 30) = w0
  have HB : Hid (w0.heap[w.heap.size]? = some (.cells (sdc k b a n c) 30 (0, 0))) := Lib.hid (by rw [← hW]; exact heap_alloc_new w _)
  have HN : Hid (New w w0) := Lib.hid (by rw [← hW]; exact (New.refl w).alloc _)
  have HROW := Lib.hid (h.stay HN.out)
  have HE := Lib.hid (peval_q a n c l x w0 HROW.out)
  have c0 := cell_of_row _ _ 0 _ _ _ HB.out
  have c1 := cell_of_row _ _ 1 _ _ _ HB.out
  have c2 := cell_of_row _ _ 2 _ _ _ HB.out
  go_enter Tryz.func73, Tryz.ntmps73
  go_wp2_with fail
  refine HE.out.mono ?_
  rintro e w1 ⟨rfl, hn⟩
  have HN1 := Lib.hid (HN.out.trans hn)
  clear HE hn c0 c1 c2
  go_wp2
  go_ret2
  exact ⟨rfl, HN1.out⟩
set_option maxHeartbeats 1000000 in
theorem feval_poly (b : Int) (a : Option Addr) (n c : Nat) (l : List (BitVec 64)) (x : BitVec 64) (w : World) (h : QRow w a n c l) (hz : chF 1 b l = 0) : Calls Tryz.prog 15 #[.agg (sdc 1 b a n c), .int .u64 (W64 x)] w fun e w' => e = .returned (.tuple #[.int .u64 (W64 (evP l x)), .int .i64 (evC l x)]) ∧ New w w' := by
  generalize hW : w.alloc (.cells (sdc 1 b a n c) 30) = w0
  have HB : Hid (w0.heap[w.heap.size]? = some (.cells (sdc 1 b a n c) 30 (0, 0))) := Lib.hid (by rw [← hW]; exact heap_alloc_new w _)
  have HN : Hid (New w w0) := Lib.hid (by rw [← hW]; exact (New.refl w).alloc _)
  have HROW := Lib.hid (h.stay HN.out)
  have HF := Lib.hid (fos_fine 1 b a n c l w0 HROW.out hz)
  clear hz
  have c0 := cell_of_row _ _ 0 _ _ _ HB.out
  have c1 := cell_of_row _ _ 1 _ _ _ HB.out
  have c2 := cell_of_row _ _ 2 _ _ _ HB.out
  go_enter Tryz.func15, Tryz.ntmps15
  go_wp2_with fail
  refine HF.out.mono ?_
  rintro e w1 ⟨⟨f, rfl, hg⟩, hn⟩
  have HN1 := Lib.hid (HN.out.trans hn)
  obtain ⟨g1, g2⟩ : f = ⟨nmF 1, lsF 1, msF 1, lbF 1, mbF 1, kyF 1, (.func (Fn.func 70) #[] #[]), (.func (Fn.func 72) #[] #[]), (.func (Fn.func 73) #[] #[]), (.func (Fn.func 75) #[] #[])⟩ ∧ True := by
    have hI := hg.now
    generalize hk : (1 : Int) = kk at hI
    cases hI with
    | poly => exact ⟨rfl, trivial⟩
    | odd b h => omega
    | sum k hk2 b b9 h h9 => omega
    | table k hk2 b be bs h he hs => omega
    | str b h => omega
  subst g1
  clear HF c0 c1 c2 g2 hg
  have hs := ((hn.alloc (.cells #[.string (nmF 1), .int .i64 (lsF 1), .int .i64 (msF 1), .int .i64 (lbF 1), .int .i64 (mbF 1), .int .i64 (kyF 1), (.func (Fn.func 70) #[] #[]), (.func (Fn.func 72) #[] #[]), (.func (Fn.func 73) #[] #[]), (.func (Fn.func 75) #[] #[])] 52)).block _ (lt_of_block HB.out)).trans HB.out
  have s0 := cell_of_row _ _ 0 _ _ _ hs
  have s1 := cell_of_row _ _ 1 _ _ _ hs
  have s2 := cell_of_row _ _ 2 _ _ _ hs
  have HCK := Lib.hid (ev_poly 1 b a n c l x (w1.alloc (.cells #[.string (nmF 1), .int .i64 (lsF 1), .int .i64 (msF 1), .int .i64 (lbF 1), .int .i64 (mbF 1), .int .i64 (kyF 1), (.func (Fn.func 70) #[] #[]), (.func (Fn.func 72) #[] #[]), (.func (Fn.func 73) #[] #[]), (.func (Fn.func 75) #[] #[])] 52)) (HROW.out.stay (hn.alloc _)))
  clear hn hs
  go_wp2_with fail
  refine HCK.out.mono ?_
  rintro e w2 ⟨rfl, hn2⟩
  have HN2 := Lib.hid ((HN1.out.alloc _).trans hn2)
  clear hn2
  go_wp2
  go_ret2
  exact ⟨rfl, HN2.out⟩
theorem ex27 : chF 1 61 [1#64, 2#64, 3#64, 4#64, 5#64] = 0 ∧ evC [1#64, 2#64, 3#64, 4#64, 5#64] 1#64 = 0 ∧ evP [1#64, 2#64, 3#64, 4#64, 5#64] 1#64 = 15#64 := by decide +kernel
theorem row27 (w : World) : QRow (w.alloc (.cells #[.int .u64 1, .int .u64 2, .int .u64 3, .int .u64 4, .int .u64 5] 31)) (some ⟨w.heap.size, 0, none⟩) 5 5 [1#64, 2#64, 3#64, 4#64, 5#64] := by
  let ⟨a, c, e, h⟩ := QRow.of_owns (l := [1#64, 2#64, 3#64, 4#64, 5#64]) (World.ownsRow_lit (base := w.heap.size) (e := 31) (size := 1) w #[.int .u64 1, .int .u64 2, .int .u64 3, .int .u64 4, .int .u64 5] 5 (Nat.le_refl _) (by decide) rfl) (by omega)
  cases e
  exact h
set_option maxRecDepth 100000 in
set_option maxHeartbeats 1000000 in
theorem awake27 (w : World) : Calls Tryz.prog 7 #[] w fun e w' => e = .returned (.bool true) ∧ New w w' := by
  obtain ⟨x1, x2, x3⟩ := ex27
  have HE := Lib.hid (fun (w' : World) (hr : QRow w' (some ⟨w.heap.size, 0, none⟩) 5 5 [1#64, 2#64, 3#64, 4#64, 5#64]) => feval_poly 61 (some ⟨w.heap.size, 0, none⟩) 5 5 _ 1#64 w' hr x1)
  have HT := Lib.hid (fun (w' : World) (hr : QRow w' (some ⟨w.heap.size, 0, none⟩) 5 5 [1#64, 2#64, 3#64, 4#64, 5#64]) => together_27 1 61 (some ⟨w.heap.size, 0, none⟩) 5 5 _ w' hr)
  rw [x2, x3, show W64 15#64 = 15 from by decide, show W64 1#64 = 1 from by decide] at HE
  rw [if_pos x1, show tgK 1 5 = 5 from by decide] at HT
  clear x1 x2 x3
  have HR := Lib.hid (row27 w)
  generalize hW : w.alloc (.cells #[.int .u64 1, .int .u64 2, .int .u64 3, .int .u64 4, .int .u64 5] 31) = wa at *
  have HA : Hid (New w wa) := Lib.hid (by rw [← hW]; exact (New.refl w).alloc _)
  have HS : Hid (wa.heap.size = w.heap.size + 1) := Lib.hid (by rw [← hW]; simp)
  have HBX := Lib.hid (heap_alloc_new wa (.cells (sdc 1 61 (some ⟨w.heap.size, 0, none⟩) 5 5) 30))
  have HAB := Lib.hid ((New.refl wa).alloc (.cells (sdc 1 61 (some ⟨w.heap.size, 0, none⟩) 5 5) 30))
  go_enter Tryz.func7, Tryz.ntmps7
  go_wp2_with fail
  refine (HE.out _ (HR.out.stay HAB.out)).mono ?_
  rintro e w2 ⟨rfl, hn2⟩
  have HN := Lib.hid (HAB.out.trans hn2)
  have hb := (hn2.block _ (lt_of_block HBX.out)).trans HBX.out
  have c0 := cell_of_row _ _ 0 _ _ _ hb
  have c1 := cell_of_row _ _ 1 _ _ _ hb
  have c2 := cell_of_row _ _ 2 _ _ _ hb
  clear hb hn2 HE
  go_wp2_with fail
  refine (HT.out _ (HR.out.stay HN.out)).mono ?_
  rintro e w3 ⟨rfl, hn3⟩
  replace HN := Lib.hid (HA.out.trans (HN.out.trans hn3))
  clear hn3 HT
  go_wp2
  go_ret
  exact ⟨rfl, HN.out⟩
end Go.Proofs.YtebcfbcfipmahaaGreat
end
section
/- Plain lemmas: through's words: the table of differences, Newton's sum, its values at the points. -/
namespace Go.Proofs.YtebcfbcfipmahaaGreat
open Go Go.RowKit Go.Bv
set_option linter.unusedVariables false
/-- the table of differences behind a steps -/
def dw (xs ys : List (BitVec 64)) : Nat → Nat → BitVec 64
  | 0, t => ys.getD t 0
  | a + 1, t => if t < a + 1 then dw xs ys a t else mp ((sb (dw xs ys a t) (dw xs ys a (t - 1))).toNat * (iv (sb (xs.getD t 0) (xs.getD (t - (a + 1)) 0))).toNat)
theorem dw_low (xs ys : List (BitVec 64)) (a t : Nat) (h : t < a + 1) : dw xs ys (a + 1) t = dw xs ys a t := if_pos h
theorem dw_up (xs ys : List (BitVec 64)) (a t : Nat) (h : ¬ t < a + 1) : dw xs ys (a + 1) t = mp ((sb (dw xs ys a t) (dw xs ys a (t - 1))).toNat * (iv (sb (xs.getD t 0) (xs.getD (t - (a + 1)) 0))).toNat) := if_neg h
def dL (xs ys : List (BitVec 64)) : List (BitVec 64) := (List.range xs.length).map (dw xs ys (xs.length - 1))
theorem map_range_get (f : Nat → BitVec 64) (n i : Nat) (h : i < n) : ((List.range n).map f).getD i 0 = f i := by
  rw [List.getD_eq_getElem?_getD, List.getElem?_map, List.getElem?_range h]; rfl
theorem map_range_far (f : Nat → BitVec 64) (n i : Nat) (h : n ≤ i) : ((List.range n).map f).getD i 0 = 0#64 := getD_far _ _ (by simpa using h)
theorem dL_len (xs ys : List (BitVec 64)) : (dL xs ys).length = xs.length := by unfold dL; simp
theorem dL_get (xs ys : List (BitVec 64)) (i : Nat) (h : i < xs.length) : (dL xs ys).getD i 0 = dw xs ys (xs.length - 1) i := map_range_get _ _ _ h
def XF (xs : List (BitVec 64)) (i : Nat) : FF := fw (xs.getD i 0)
theorem fw_dw {xs ys : List (BitVec 64)} {n : Nat} (hX : ∀ i j, i < n → j < n → i ≠ j → XF xs i - XF xs j ≠ 0) : ∀ a t, t < n → fw (dw xs ys a t) = dd (XF xs) (XF ys) a t
  | 0, t, _ => rfl
  | a + 1, t, h => by
    show fw (if t < a + 1 then _ else _) = (if t < a + 1 then _ else _)
    by_cases e : t < a + 1
    · rw [if_pos e, if_pos e]; exact fw_dw hX a t h
    · rw [if_neg e, if_neg e]
      rw [fw_mp, ff_mul]
      show fw (sb _ _) * fw (iv _) = _
      have h1 : fw (sb (xs.getD t 0) (xs.getD (t - (a + 1)) 0)) = XF xs t - XF xs (t - (a + 1)) := fw_sb _ _
      have h2 := hX t (t - (a + 1)) h (by omega) (by omega)
      rw [fw_iv (by rw [h1]; exact h2), h1, fw_sb, fw_dw hX a t h, fw_dw hX a (t - 1) (by omega)]
/-- Newton's sum of the program -/
def sm (xs ds : List (BitVec 64)) : Nat → Nat → List (BitVec 64)
  | 0, _ => []
  | d + 1, i => trimL (addL (trimL (mulL (sm xs ds d (i + 1)) [sb 0#64 (xs.getD i 0), 1#64])) [ds.getD i 0])
theorem topF_zero (f : Nat → BitVec 64) (m : Nat) (h : ∀ i, m ≤ i → f i = 0#64) : ∀ n, topF f n ≤ m
  | 0 => Nat.zero_le _
  | n + 1 => by
    show (if f n = 0#64 then topF f n else n + 1) ≤ m
    by_cases e : f n = 0#64
    · rw [if_pos e]; exact topF_zero f m h n
    · rw [if_neg e]
      by_cases e2 : m ≤ n
      · exact absurd (h n e2) e
      · omega
theorem trimL_short (l : List (BitVec 64)) (m : Nat) (h : ∀ i, m ≤ i → cm l i = 0#64) : (trimL l).length ≤ m := by
  unfold trimL; rw [trimF_len]; exact topF_zero _ _ h _
theorem mul2_short (q : List (BitVec 64)) (m : BitVec 64) : (trimL (mulL q [m, 1#64])).length ≤ q.length + 1 := by
  refine trimL_short _ _ (fun i hi => ?_)
  rw [mulL_cm, cs_two, nf_far q i (by omega), Nat.zero_mul, if_neg (by omega), nf_far q (i - 1) (by omega)]
  exact mp_zero
theorem sm_len (xs ds : List (BitVec 64)) : ∀ d i, (sm xs ds d i).length ≤ d
  | 0, _ => Nat.le_refl _
  | d + 1, i => by
    have h1 := sm_len xs ds d (i + 1)
    have h2 := mul2_short (sm xs ds d (i + 1)) (sb 0#64 (xs.getD i 0))
    refine trimL_short _ _ (fun j hj => ?_)
    refine cm_far _ _ ?_
    unfold addL
    rw [addP_len]
    show max _ 1 ≤ j
    omega
theorem mp_to_ff {a b : Nat} (h : mp a = mp b) : ff a = ff b := by rw [← fw_mp, h, fw_mp]
theorem nv_single (v z : BitVec 64) : nv [v] z = v.toNat := by
  show 0 + v.toNat * z.toNat ^ 0 = v.toNat
  rw [Nat.pow_zero, Nat.mul_one, Nat.zero_add]
theorem nv_two (m z : BitVec 64) : nv [m, 1#64] z = m.toNat + z.toNat := by
  show (0 + m.toNat * z.toNat ^ 0) + (1#64).toNat * z.toNat ^ 1 = _
  rw [Nat.pow_zero, Nat.mul_one, Nat.zero_add, Nat.pow_one, show (1#64).toNat = 1 from rfl, Nat.one_mul]
theorem sm_value (xs ds : List (BitVec 64)) (z : BitVec 64) : ∀ d i, ff (nv (sm xs ds d i) z) = nw (XF xs) (XF ds) (fw z) d i
  | 0, i => rfl
  | d + 1, i => by
    have h1 := mp_to_ff (nv_trim (addL (trimL (mulL (sm xs ds d (i + 1)) [sb 0#64 (xs.getD i 0), 1#64])) [ds.getD i 0]) z)
    have h2 := mp_to_ff (nv_add (trimL (mulL (sm xs ds d (i + 1)) [sb 0#64 (xs.getD i 0), 1#64])) [ds.getD i 0] z)
    have h3 := mp_to_ff (nv_trim (mulL (sm xs ds d (i + 1)) [sb 0#64 (xs.getD i 0), 1#64]) z)
    have h4 := mp_to_ff (nv_mul (sm xs ds d (i + 1)) [sb 0#64 (xs.getD i 0), 1#64] z)
    rw [ff_add] at h2
    rw [ff_mul, sm_value xs ds z d (i + 1), nv_two, ff_add] at h4
    rw [nv_single] at h2
    have h5 : ff (sb 0#64 (xs.getD i 0)).toNat = fw 0#64 - XF xs i := fw_sb _ _
    rw [h5, fw_zero] at h4
    show ff (nv (trimL _) z) = nw (XF xs) (XF ds) (fw z) d (i + 1) * (fw z - XF xs i) + XF ds i
    rw [h1, h2, h3, h4]
    show nw (XF xs) (XF ds) (fw z) d (i + 1) * (0 - XF xs i + fw z) + XF ds i = _
    generalize nw (XF xs) (XF ds) (fw z) d (i + 1) = q
    generalize XF xs i = u
    generalize fw z = v
    generalize XF ds i = r
    grind
theorem nw_ext {X D E : Nat → FF} {z : FF} : ∀ d i, (∀ k, i ≤ k → k < i + d → D k = E k) → nw X D z d i = nw X E z d i
  | 0, _, _ => rfl
  | d + 1, i, h => by
    show nw X D z d (i + 1) * (z - X i) + D i = nw X E z d (i + 1) * (z - X i) + E i
    rw [nw_ext d (i + 1) (fun k h1 h2 => h k (by omega) (by omega)), h i (Nat.le_refl _) (by omega)]
/-- what through answers: as many as points -/
def thr (xs ys : List (BitVec 64)) : List (BitVec 64) := (List.range xs.length).map fun i => (sm xs (dL xs ys) xs.length 0).getD i 0
theorem thr_len (xs ys : List (BitVec 64)) : (thr xs ys).length = xs.length := by unfold thr; simp
theorem thr_get (xs ys : List (BitVec 64)) (i : Nat) : (thr xs ys).getD i 0 = (sm xs (dL xs ys) xs.length 0).getD i 0 := by
  by_cases h : i < xs.length
  · exact map_range_get _ _ _ h
  · unfold thr
    rw [map_range_far _ _ _ (by omega), getD_far _ _ (by have := sm_len xs (dL xs ys) xs.length 0; omega)]
/-- points that Check lets pass -/
theorem good_X {xs : List (BitVec 64)} (hb : blw xs = true) (hu : unl xs) : ∀ i j, i < xs.length → j < xs.length → i ≠ j → XF xs i - XF xs j ≠ 0 := by
  intro i j hi hj hij h
  have h1 : XF xs i = XF xs j := by
    generalize XF xs i = p at *
    generalize XF xs j = q at *
    grind
  have h2 := fw_inj (blw_out hb i hi) (blw_out hb j hj) h1
  rcases Nat.lt_or_gt_of_ne hij with h3 | h3
  · exact hu j hj i h3 h2
  · exact hu i hi j h3 h2.symm
theorem chk_parts {xs ys : List (BitVec 64)} (h : chkT xs ys = 0) : 1 ≤ xs.length ∧ xs.length ≤ 64 ∧ xs.length = ys.length ∧ blw xs = true ∧ blw ys = true ∧ unl xs := by
  unfold chkT at h
  by_cases h1 : xs.length < 1 ∨ 64 < xs.length ∨ xs.length ≠ ys.length
  · rw [if_pos h1] at h; exact absurd h (by decide)
  · rw [if_neg h1] at h
    by_cases h2 : (blw xs && blw ys) = true
    · rw [if_pos h2] at h
      rw [Bool.and_eq_true] at h2
      by_cases h3 : unl xs
      · exact ⟨by omega, by omega, by omega, h2.1, h2.2, h3⟩
      · rw [if_neg h3] at h; exact absurd h (by decide)
    · rw [if_neg h2] at h; exact absurd h (by decide)
theorem chk_make {xs ys : List (BitVec 64)} (h1 : 1 ≤ xs.length) (h2 : xs.length ≤ 64) (h3 : xs.length = ys.length) (h4 : blw xs = true) (h5 : blw ys = true) (h6 : unl xs) : chkT xs ys = 0 := by
  unfold chkT
  rw [if_neg (by omega), if_pos (by rw [h4, h5]; rfl), if_pos h6]
theorem thr_value {xs ys : List (BitVec 64)} (hX : ∀ i j, i < xs.length → j < xs.length → i ≠ j → XF xs i - XF xs j ≠ 0) (m : Nat) (hm : m < xs.length) : ff (nv (thr xs ys) (xs.getD m 0)) = XF ys m := by
  have h1 : mp (nv (thr xs ys) (xs.getD m 0)) = mp (nv (sm xs (dL xs ys) xs.length 0) (xs.getD m 0)) := nv_mod _ (fun i => by unfold cm; rw [thr_get])
  rw [mp_to_ff h1, sm_value]
  have h2 := nw_all (Y := XF ys) hX m hm
  rw [← h2]
  refine nw_ext _ _ (fun k _ hk => ?_)
  have hk2 : k < xs.length := by omega
  show fw ((dL xs ys).getD k 0) = gg (XF xs) (XF ys) 0 k k
  rw [dL_get _ _ _ hk2, fw_dw hX _ _ hk2]
  have h3 := dd_stay (XF xs) (XF ys) k (xs.length - 1 - k)
  rw [show k + (xs.length - 1 - k) = xs.length - 1 by omega] at h3
  have h4 := dd_gg (Y := XF ys) hX k 0 (by omega)
  rw [Nat.zero_add] at h4
  rw [h3, h4]
theorem mp_low {x : BitVec 64} (h : x.toNat < PP) : mp x.toNat = x := by
  apply BitVec.eq_of_toNat_eq; rw [mp_toNat, Nat.mod_eq_of_lt h]
theorem ff_word {N : Nat} {y : BitVec 64} (hy : y.toNat < PP) (h : ff N = fw y) : mp N = y := by
  rw [mp_ff (h : ff N = ff y.toNat), mp_low hy]
theorem list_of_get {a b : List (BitVec 64)} (hl : a.length = b.length) (h : ∀ i, i < a.length → a.getD i 0 = b.getD i 0) : a = b := by
  apply List.ext_getElem hl
  intro j hj1 hj2
  have h4 := h j hj1
  rw [List.getD_eq_getElem?_getD, List.getD_eq_getElem?_getD, List.getElem?_eq_getElem hj1, List.getElem?_eq_getElem hj2] at h4
  exact h4
theorem vals_blw (c xs : List (BitVec 64)) : blw (vals c xs) = true := blw_yes (fun j hj => by
  rw [vals_len] at hj; rw [vals_get _ _ _ hj]; exact mp_lt _)
theorem nv_pv (l : List (BitVec 64)) (x : BitVec 64) (n : Nat) (h : l.length ≤ n) : ff (nv l x) = pvF (XF l) (fw x) n := by
  rw [nv_up l x n h]; exact pvF_pv _ _ _
end Go.Proofs.YtebcfbcfipmahaaGreat
end
