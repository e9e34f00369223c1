/- gf2: Div, Mod, MulMod; the law's own words; the chapter's example; the law Gf2Tells. -/
import Derived.Test.YtppmpledcaonkaaGf2S
namespace Go.G2
set_option linter.unusedVariables false
theorem mulG_33 : mulG 3 3 = 5 := by
  rw [mulG_step, mulG_step (3 / 2), show 3 / 2 / 2 = 0 from rfl, mulG_zero]; rfl
theorem rm_43 : rmG 4 3 = 1 := by
  unfold rmG
  rw [dv_is (q := 3) (r := 1) (by decide) (by rw [mulG_33]; rfl) (by decide)]
theorem tW_one : tW 1 = [1#64] := by rfl
theorem vW_lit (x : BitVec 64) : vW [x] = x.toNat := by simp [vW]
end Go.G2
namespace Go.Proofs.Ytppmpledcaonkaa
open Go Go.RowKit Go.Bv Go.G2
set_option linter.unusedVariables false
set_option maxHeartbeats 1000000 in
theorem mod_q (a b : Option Addr) (n c m c2 : Nat) (l l2 : List (BitVec 64)) (w : World) (h : QRow w a n c l) (h2 : QRow w b m c2 l2) (hn : n ≤ 50000) (hm : m ≤ 50000) (hz : vW l2 ≠ 0) :
    Calls Try.prog 28 #[.slice a n c, .slice b m c2] w fun e w' => ∃ a3 c3, e = .returned (.tuple #[.slice a3 (tW (rmG (vW l) (vW l2))).length c3, .bool true]) ∧ QRow w' a3 (tW (rmG (vW l) (vW l2))).length c3 (tW (rmG (vW l) (vW l2))) ∧ New w w' := by
  have HD := Lib.hid (divide_q a b n c m c2 l l2 w h h2 hn hm hz)
  obtain ⟨R, hR⟩ : ∃ R, tW (rmG (vW l) (vW l2)) = R := ⟨_, rfl⟩
  obtain ⟨Q, hQ⟩ : ∃ Q, tW (dvG (vW l) (vW l2)).1 = Q := ⟨_, rfl⟩
  rw [hR, hQ] at HD
  rw [hR]
  clear h h2 hz hR hQ
  go_enter Try.func28, Try.ntmps28
  go_wp2_with fail
  refine HD.out.mono ?_
  rintro e w1 ⟨a1, c1, a3, c3, rfl, _, hq, hn1⟩
  have HQ := Lib.hid hq
  have HN := Lib.hid hn1
  clear hq hn1 HD
  go_wp2
  go_ret2
  exact ⟨_, _, rfl, HQ.out, HN.out⟩
theorem mod_z (a b : Option Addr) (n c m c2 : Nat) (l2 : List (BitVec 64)) (w : World) (h2 : QRow w b m c2 l2) (hm : m ≤ 50000) (hz : vW l2 = 0) :
    Calls Try.prog 28 #[.slice a n c, .slice b m c2] w fun e w' => e = .returned (.tuple #[.slice none 0 0, .bool false]) ∧ w' = w := by
  have HD := Lib.hid (divide_z a b n c m c2 l2 w h2 hm hz)
  clear h2 hz
  go_enter Try.func28, Try.ntmps28
  go_wp2_with fail
  refine HD.out.mono ?_
  rintro e w' ⟨rfl, hw⟩
  replace hw := hw.symm
  subst hw
  go_wp2
  go_ret2
  exact ⟨rfl, rfl⟩
set_option maxHeartbeats 1000000 in
theorem div_q (a b : Option Addr) (n c m c2 : Nat) (l l2 : List (BitVec 64)) (w : World) (h : QRow w a n c l) (h2 : QRow w b m c2 l2) (hn : n ≤ 50000) (hm : m ≤ 50000) (hz : vW l2 ≠ 0) :
    Calls Try.prog 27 #[.slice a n c, .slice b m c2] w fun e w' => ∃ a3 c3, e = .returned (.tuple #[.slice a3 (tW (dvG (vW l) (vW l2)).1).length c3, .bool true]) ∧ QRow w' a3 (tW (dvG (vW l) (vW l2)).1).length c3 (tW (dvG (vW l) (vW l2)).1) ∧ New w w' := by
  have HD := Lib.hid (divide_q a b n c m c2 l l2 w h h2 hn hm hz)
  obtain ⟨R, hR⟩ : ∃ R, tW (rmG (vW l) (vW l2)) = R := ⟨_, rfl⟩
  obtain ⟨Q, hQ⟩ : ∃ Q, tW (dvG (vW l) (vW l2)).1 = Q := ⟨_, rfl⟩
  rw [hR, hQ] at HD
  rw [hQ]
  clear h h2 hz hR hQ
  go_enter Try.func27, Try.ntmps27
  go_wp2_with fail
  refine HD.out.mono ?_
  rintro e w1 ⟨a1, c1, a3, c3, rfl, hq, _, hn1⟩
  have HQ := Lib.hid hq
  have HN := Lib.hid hn1
  clear hq hn1 HD
  go_wp2
  go_ret2
  exact ⟨_, _, rfl, HQ.out, HN.out⟩
theorem div_z (a b : Option Addr) (n c m c2 : Nat) (l2 : List (BitVec 64)) (w : World) (h2 : QRow w b m c2 l2) (hm : m ≤ 50000) (hz : vW l2 = 0) :
    Calls Try.prog 27 #[.slice a n c, .slice b m c2] w fun e w' => e = .returned (.tuple #[.slice none 0 0, .bool false]) ∧ w' = w := by
  have HD := Lib.hid (divide_z a b n c m c2 l2 w h2 hm hz)
  clear h2 hz
  go_enter Try.func27, Try.ntmps27
  go_wp2_with fail
  refine HD.out.mono ?_
  rintro e w' ⟨rfl, hw⟩
  replace hw := hw.symm
  subst hw
  go_wp2
  go_ret2
  exact ⟨rfl, rfl⟩
set_option maxHeartbeats 1000000 in
theorem mulmod_q (a b d : Option Addr) (n c m c2 k c3 : Nat) (l l2 l3 : List (BitVec 64)) (w : World) (h : QRow w a n c l) (h2 : QRow w b m c2 l2) (h3 : QRow w d k c3 l3) (hn : n ≤ 20000) (hm : m ≤ 20000) (hk : k ≤ 50000) (hz : vW l3 ≠ 0) :
    Calls Try.prog 34 #[.slice a n c, .slice b m c2, .slice d k c3] w fun e w' => ∃ a3 c9, e = .returned (.tuple #[.slice a3 (tW (rmG (mulG (vW l) (vW l2)) (vW l3))).length c9, .bool true]) ∧ QRow w' a3 (tW (rmG (mulG (vW l) (vW l2)) (vW l3))).length c9 (tW (rmG (mulG (vW l) (vW l2)) (vW l3))) ∧ New w w' := by
  have HD := Lib.hid (deg_q d k c3 l3 w h3 (by omega))
  obtain ⟨lo, hlo, _, _⟩ := bl_pos hz
  rw [hlo, show ((lo + 1 : Nat) : Int) - 1 = (lo : Int) by omega] at HD
  have HM := Lib.hid (mul_q a b n c m c2 l l2 w h h2 (by omega) (by omega))
  have hbl : (tW (mulG (vW l) (vW l2))).length ≤ 50000 := by
    rw [tW_len]
    have h1 := vW_lt l
    have h4 := vW_lt l2
    rw [h.len_eq] at h1
    rw [h2.len_eq] at h4
    have := bl_le.2 (mulG_lt (n := 64 * n) (m := 64 * m) (Nat.lt_of_lt_of_le h1 (Nat.pow_le_pow_right (by decide) (by omega))) h4)
    omega
  have HR := Lib.hid (fun a1 c1 w' (hq : QRow w' a1 (tW (mulG (vW l) (vW l2))).length c1 (tW (mulG (vW l) (vW l2)))) (hn' : New w w') => mod_q a1 d _ c1 k c3 _ l3 w' hq (h3.stay hn') hbl hk hz)
  rw [vW_tW] at HR
  obtain ⟨R, hR⟩ : ∃ R, tW (rmG (mulG (vW l) (vW l2)) (vW l3)) = R := ⟨_, rfl⟩
  obtain ⟨P, hP⟩ : ∃ P, tW (mulG (vW l) (vW l2)) = P := ⟨_, rfl⟩
  rw [hR, hP] at HR
  rw [hP] at HM
  rw [hR]
  have hl0 : ¬ (lo : Int) < 0 := by omega
  clear h h2 h3 hz hR hP hlo hbl
  go_enter Try.func34, Try.ntmps34
  go_wp2_with fail
  refine HD.out.mono ?_
  rintro e w' ⟨rfl, hw⟩
  replace hw := hw.symm
  subst hw
  clear HD
  go_wp2_with fail
  refine HM.out.mono ?_
  rintro e w1 ⟨a1, c1, rfl, hq, hn1⟩
  have HRR := Lib.hid (HR.out _ _ _ hq hn1)
  have HN := Lib.hid hn1
  clear hq hn1 HM HR
  go_wp2_with fail
  refine HRR.out.mono ?_
  rintro e w2 ⟨a3, c9, rfl, hq, hn2⟩
  have HQ := Lib.hid hq
  replace HN := Lib.hid (HN.out.trans hn2)
  clear hq hn2 HRR
  go_wp2
  go_ret2
  exact ⟨_, _, rfl, HQ.out, HN.out⟩
theorem words06 (a b : Option Addr) (n c m c2 : Nat) (l : List (BitVec 64)) (bs : List Bool) (w : World) (h : QRow w a n c l) (h2 : LRow w b m c2 bs) (hm : m ≤ 1000000) :
    Calls Try.prog 20 #[.slice a n c, .slice b m c2] w fun e w' => e = .returned (.bool (l == tW (vB bs))) ∧ New w w' := by
  have HW := Lib.hid (words_r b m c2 bs w h2 hm)
  have HR := Lib.hid (fun a1 c1 w' (hq : QRow w' a1 (tW (vB bs)).length c1 (tW (vB bs))) (hn' : New w w') => words_ref a a1 n c _ c1 l _ w w' (h.stay hn') hq hn')
  obtain ⟨R, hR⟩ : ∃ R, tW (vB bs) = R := ⟨_, rfl⟩
  rw [hR] at HW HR ⊢
  clear h h2 hR
  go_enter Try.func20, Try.ntmps20
  go_wp2_with fail
  refine HW.out.mono ?_
  rintro e w1 ⟨a1, c1, rfl, hq, hn1⟩
  have HRR := Lib.hid (HR.out _ _ _ hq hn1)
  clear hq hn1 HW HR
  go_wp2_with fail
  refine HRR.out.mono ?_
  rintro e w2 ⟨rfl, _, hn2⟩
  have HN := Lib.hid hn2
  clear hn2 HRR
  go_wp2
  go_ret
  exact ⟨rfl, HN.out⟩
theorem lit_row (w : World) (x : BitVec 64) : QRow (w.alloc (.cells #[.int .u64 (W64 x)] 34)) (some ⟨w.heap.size, 0, none⟩) 1 1 [x] where
  len_eq := rfl
  le := Nat.le_refl _
  most := by omega
  room := by omega
  none := (fun e => by cases e)
  cell := fun b off e i hi => by
    cases e
    obtain rfl : i = 0 := by omega
    exact cell_of_row _ _ 0 _ _ _ (heap_alloc_new _ _)
  spot := fun x e h0 => by cases e; rfl
  old := fun x e h0 => by cases e; simp
set_option maxRecDepth 100000 in
set_option maxHeartbeats 1000000 in
theorem awake06 (w : World) : Calls Try.prog 14 #[] w fun e w' => e = .returned (.bool true) ∧ New w w' := by
  have hq1 := lit_row w 4#64
  have hw1 : New w (w.alloc (.cells #[.int .u64 (W64 4#64)] 34)) := (New.refl w).alloc _
  obtain ⟨W1, hW1⟩ : ∃ z, w.alloc (.cells #[.int .u64 (W64 4#64)] 34) = z := ⟨_, rfl⟩
  rw [hW1] at hq1 hw1
  have hs1 : W1.heap.size = w.heap.size + 1 := by rw [← hW1]; simp
  have hq2 := lit_row W1 3#64
  have hw2 : New W1 (W1.alloc (.cells #[.int .u64 (W64 3#64)] 34)) := (New.refl W1).alloc _
  obtain ⟨W2, hW2⟩ : ∃ z, W1.alloc (.cells #[.int .u64 (W64 3#64)] 34) = z := ⟨_, rfl⟩
  rw [hW2] at hq2 hw2
  rw [hs1] at hq2
  have hm := mod_q _ _ 1 1 1 1 [4#64] [3#64] W2 (hq1.stay hw2) hq2 (by omega) (by omega) (by rw [vW_lit]; decide)
  rw [vW_lit, vW_lit, show (4#64).toNat = 4 from rfl, show (3#64).toNat = 3 from rfl, rm_43, tW_one] at hm
  have HM := Lib.hid hm
  have hc := fun w => clmul_q 3#64 3#64 w
  rw [show (3#64).toNat = 3 from rfl, mulG_33] at hc
  have HC := Lib.hid hc
  have HN := Lib.hid (hw1.trans hw2)
  have HW1 := Lib.hid hW1
  have HW2 := Lib.hid hW2
  have HL4 : Hid (W64 4#64 = 4) := Lib.hid rfl
  have HL3 : Hid (W64 3#64 = 3) := Lib.hid rfl
  rw [HL4.out] at HW1
  rw [HL3.out] at HW2 HC
  have HZ1 : Hid (W64 (BitVec.ofNat 64 (5 / 2 ^ 64)) = 0) := Lib.hid rfl
  have HZ5 : Hid (W64 (BitVec.ofNat 64 5) = 5) := Lib.hid rfl
  rw [HZ1.out, HZ5.out] at HC
  have HL1 : Hid (W64 1#64 = 1) := Lib.hid rfl
  clear hq1 hq2 hw1 hw2 hm hc hW1 hW2 hs1
  go_enter Try.func14, Try.ntmps14
  go_wp2_with fail
  rw [HW1.out, HW2.out]
  with_reducible refine HM.out.mono ?_
  rintro e w3 ⟨a3, c3, rfl, hq, hn3⟩
  have HQ := Lib.hid hq
  replace HN := Lib.hid (HN.out.trans hn3)
  clear hq hn3 HM HW1 HW2
  go_wp2_with fail
  refine (HC.out _).mono ?_
  rintro e w4 ⟨rfl, hn4⟩
  obtain ⟨b, off, rfl, hc⟩ := (HQ.out.stay hn4).addr (by decide)
  have c0 := hc 0 (by decide)
  rw [Nat.add_zero, show ([1#64] : List (BitVec 64)).getD 0 0 = 1#64 from rfl, HL1.out] at c0
  replace HN := Lib.hid (HN.out.trans hn4)
  clear hn4 hc HC HQ
  go_wp2
  go_ret
  exact ⟨rfl, HN.out⟩
end Go.Proofs.Ytppmpledcaonkaa
