/- The document's own Divide of layer 6. -/
import Derived.Test.YtppmpledcaonkaaGf2T
namespace Go.Bv
open Go Go.RowKit
set_option linter.unusedVariables false
theorem LRow.same {w : World} {a : Option Addr} {n c : Nat} {l m : List Bool} (h : LRow w a n c l) (h2 : LRow w a n c m) : l = m := by
  apply G2.bools_eq (n := n) h.len_eq h2.len_eq
  intro i hi
  obtain ⟨b, off, rfl, hc⟩ := h.addr (by omega)
  have e1 := hc i hi
  have e2 := h2.cell b off rfl i hi
  rw [e1] at e2
  simpa using e2
theorem LRow.cut {w : World} {a : Option Addr} {len cap : Nat} {l : List Bool} (h : LRow w a len cap l) (n : Nat) (hn : n ≤ len) : LRow w a n cap (l.take n) where
  len_eq := by have := h.len_eq; rw [List.length_take]; omega
  le := Nat.le_trans hn h.le
  most := by have := h.most; omega
  room := h.room
  none := (fun e => by have := h.none e; omega)
  cell := fun b2 o2 e i hi => by
    rw [h.cell b2 o2 e i (by omega), List.getD_eq_getElem?_getD, List.getD_eq_getElem?_getD, List.getElem?_take, if_pos hi]
  spot := fun x e h0 => h.spot x e (by omega)
  old := fun x e h0 => h.old x e (by omega)
open Classical in
/-- how many bits the number of a slice of bools has -/
noncomputable def msL (v : Value) (w : World) : Nat := if h : ∃ l : List Bool, ∃ a n c, v = .slice a n c ∧ LRow w a n c l then G2.bl (G2.vB (Classical.choose h)) else 0
theorem msL_is {w : World} {a : Option Addr} {n c : Nat} {l : List Bool} (h : LRow w a n c l) : msL (.slice a n c) w = G2.bl (G2.vB l) := by
  have hx : ∃ l : List Bool, ∃ a' n' c', (Value.slice a n c) = .slice a' n' c' ∧ LRow w a' n' c' l := ⟨l, a, n, c, rfl, h⟩
  unfold msL
  rw [dif_pos hx]
  obtain ⟨a', n', c', he, hr⟩ := Classical.choose_spec hx
  injection he with e1 e2 e3
  subst e1 e2 e3
  rw [hr.same h]
end Go.Bv
namespace Go.G2
set_option linter.unusedVariables false
theorem vB_take {bs : List Bool} {n : Nat} (h : vB bs < 2 ^ n) : vB (bs.take n) = vB bs := by
  apply Nat.eq_of_testBit_eq
  intro i
  rw [bit_bool, bit_bool, List.getD_eq_getElem?_getD, List.getElem?_take]
  by_cases hi : i < n
  · rw [if_pos hi, List.getD_eq_getElem?_getD]
  · rw [if_neg hi]
    have : (vB bs).testBit i = false := Nat.testBit_lt_two_pow (Nat.lt_of_lt_of_le h (Nat.pow_le_pow_right (by decide) (by omega)))
    rw [bit_bool] at this
    rw [this]; rfl
theorem vB_true : vB [true] = 1 := rfl
end Go.G2
namespace Go.Proofs.Ytppmpledcaonkaa
open Go Go.RowKit Go.Bv Go.G2
set_option linter.unusedVariables false
theorem lit_true (w : World) : LRow (w.alloc (.cells #[.bool true] 4)) (some ⟨w.heap.size, 0, none⟩) 1 1 [true] where
  len_eq := rfl
  le := Nat.le_refl _
  most := by omega
  room := by omega
  none := (fun e => by cases e)
  cell := fun b off e i hi => by
    cases e
    obtain rfl : i = 0 := by omega
    exact cell_of_row _ _ 0 _ _ _ (heap_alloc_new _ _)
  spot := fun x e h0 => by cases e; rfl
  old := fun x e h0 => by cases e; simp
set_option maxRecDepth 100000 in
set_option maxHeartbeats 4000000 in
theorem divide_r (a b : Option Addr) (n c m c2 : Nat) (bs cs : List Bool) (w : World) (h : LRow w a n c bs) (h2 : LRow w b m c2 cs) (hn : n ≤ 400000) (hm : m ≤ 400000) (hz : vB cs ≠ 0) :
    Calls Try.prog 29 #[.slice a n c, .slice b m c2] w fun e w' => ∃ a1 L c1 a3 c3, e = .returned (.tuple #[.slice a1 (L : Nat) c1, .slice a3 (n : Nat) c3]) ∧ LRow w' a1 L c1 (bO (dvG (vB bs) (vB cs)).1 L) ∧ LRow w' a3 n c3 (bO (rmG (vB bs) (vB cs)) n) ∧ (dvG (vB bs) (vB cs)).1 < 2 ^ L ∧ L ≤ n ∧ rmG (vB bs) (vB cs) < 2 ^ n ∧ New w w' := by
  obtain ⟨lo, hlo, hlo2, hlo3⟩ := bl_pos hz
  have HDM := Lib.hid (fun w' (hn' : New w w') => deg_r b m c2 cs w' (h2.stay hn') (by omega))
  rw [hlo, show ((lo + 1 : Nat) : Int) - 1 = (lo : Int) by omega] at HDM
  have hlm : lo + 1 ≤ m := by have := bl_vB cs; rw [h2.len_eq] at this; omega
  have hcut := h2.cut (lo + 1) hlm
  have hvc := vB_take hlo3
  have hcap := Nat.le_trans hlm h2.le
  have HUM := Lib.hid (fun t (ht : t ≤ 1000000) w' (hn' : New w w') => up_r b (lo + 1) c2 _ t w' (hcut.stay hn') ht (by omega))
  rw [hvc] at HUM
  have HA0 := Lib.hid (add_r a none n c 0 0 bs [] w h (nil_lrow w) (by omega) (by omega))
  rw [show vB [] = 0 from rfl, Nat.xor_zero, show max n 0 = n by omega] at HA0
  have hA : vB bs < 2 ^ n := by have := vB_lt bs; rwa [h.len_eq] at this
  obtain ⟨A, hAe⟩ : ∃ A, vB bs = A := ⟨_, rfl⟩
  obtain ⟨M, hMe⟩ : ∃ M, vB cs = M := ⟨_, rfl⟩
  rw [hAe] at HA0 hA ⊢
  rw [hMe] at HUM hz hlo hlo2 hlo3 ⊢
  have HFIN : Hid (∀ q r, A = mulG q M ^^^ r → bl r ≤ lo → (dvG A M).1 = q ∧ rmG A M = r) := Lib.hid (fun q r h1 h2 => by
    have h3 := dv_is hz h1 (by omega)
    exact ⟨by rw [h3], by unfold rmG; rw [h3]⟩)
  have HSTEP : Hid (∀ q r k t, lo + t = k → A = mulG q M ^^^ r → bl r = k + 1 → A = mulG (q ^^^ 2 ^ t) M ^^^ (r ^^^ 2 ^ t * M) ∧ bl (r ^^^ 2 ^ t * M) < bl r ∧ 2 ^ t * M < 2 ^ (t + (lo + 1))) := Lib.hid (fun q r k t hk h1 h3 => by
    have hr : r < 2 ^ (lo + t + 1) := bl_le.1 (by omega)
    have hb : r.testBit (lo + t) = true := by
      obtain ⟨j, e1, e2, _⟩ := bl_pos (n := r) (by intro e; rw [e, bl_zero] at h3; omega)
      rw [h3] at e1
      rw [hk, show k = j by omega]; exact e2
    obtain ⟨e1, e2⟩ := dv_step hlo2 hlo3 h1 hr hb
    refine ⟨e1, by have := bl_le.2 e2; omega, ?_⟩
    rw [Nat.pow_add]; exact (Nat.mul_lt_mul_left (Nat.two_pow_pos t)).2 hlo3)
  have HA := Lib.hid hA
  have hlo0 : (0 : Int) ≤ (lo : Int) := by omega
  have hw1 : 0 ≤ (lo : Int) + 1 := by omega
  have hw2 : ((lo : Int) + 1).toNat = lo + 1 := by omega
  have hlb : lo ≤ 1000000 := by omega
  have hcc : (lo : Int) + 1 ≤ (c2 : Int) := by omega
  have HTT := Lib.hid (fun w0 => lit_true w0)
  clear h h2 hz hlo hlo2 hlo3 hcut hvc hA hAe hMe
  go_enter Try.func29, Try.ntmps29
  go_wp2_with fail
  refine HA0.out.mono ?_
  rintro e w1 ⟨a3, c3, rfl, hr3, hn1⟩
  have HR3 := Lib.hid hr3
  have HN := Lib.hid hn1
  clear hr3 hn1 HA0
  go_wp2_with fail
  go_loopw [6, 7] (fun qv rv wr => ∃ (q r n1 c1 c3 : Nat) (a1 a3 : Option Addr), qv = .slice a1 n1 c1 ∧ rv = .slice a3 n c3 ∧ n1 ≤ n ∧ Hid (LRow wr a1 n1 c1 (bO q n1) ∧ LRow wr a3 n c3 (bO r n) ∧ q < 2 ^ n1 ∧ r < 2 ^ n ∧ A = mulG q M ^^^ r) ∧ New w wr) (fun _ rv wr => msL rv wr)
  case atStart => exact ⟨0, A, 0, 0, _, none, _, rfl, rfl, Nat.zero_le _, Lib.hid ⟨nil_lrow _, HR3.out, by decide, HA.out, by rw [mulG_zero, Nat.zero_xor]⟩, HN.out⟩
  case round =>
    clear HR3 HN
    obtain ⟨q, r, n1, c1, c3, a1, a3, rfl, rfl, hn1, HL, hnew⟩ := hrel
    obtain ⟨wq, hwq⟩ : ∃ z, z = wr := ⟨_, rfl⟩
    rw [← hwq] at HL hnew ⊢
    clear hwq
    obtain ⟨hl1, hl2, hq, hr, hAqr⟩ := HL.out
    have hvr : vB (bO r n) = r := vB_bO_all hr
    have hvq : vB (bO q n1) = q := vB_bO_all hq
    have HD := Lib.hid (deg_r a3 n c3 _ wq hl2 (by omega))
    rw [hvr] at HD
    have hbr : bl r ≤ n := bl_le.2 hr
    have HDQ := Lib.hid (HDM.out wq hnew)
    have hms := msL_is hl2
    rw [hvr] at hms
    have HMS := Lib.hid hms
    by_cases hle : bl r ≤ lo
    · obtain ⟨hf1, hf2⟩ := HFIN.out q r hAqr hle
      have hlt : ¬ (lo : Int) ≤ (bl r : Int) - 1 := by omega
      have HF := Lib.hid (And.intro hf1 hf2)
      have HN := Lib.hid hnew
      obtain ⟨B, hB⟩ : ∃ B, bl r = B := ⟨_, rfl⟩
      rw [hB] at HD hlt
      clear hl1 hl2 hq hr hAqr hvr hvq hms hf1 hf2 hnew hB hle hbr
      go_wp2_with fail
      refine HD.out.mono ?_
      rintro e w' ⟨rfl, hw⟩
      replace hw := hw.symm
      subst hw
      go_wp2_with fail
      refine HDQ.out.mono ?_
      rintro e w' ⟨rfl, hw⟩
      replace hw := hw.symm
      subst hw
      go_wp2
      go_ret2
      rw [HF.out.1, HF.out.2]
      exact ⟨_, _, _, _, _, rfl, HL.out.1, HL.out.2.1, HL.out.2.2.1, hn1, HL.out.2.2.2.1, HN.out⟩
    · obtain ⟨k, hk⟩ : ∃ k, bl r = k + 1 := ⟨bl r - 1, by omega⟩
      obtain ⟨t, ht⟩ : ∃ t, lo + t = k := ⟨k - lo, by omega⟩
      obtain ⟨hs1, hs2, hs3⟩ := HSTEP.out q r k t ht hAqr hk
      rw [hk, show ((k + 1 : Nat) : Int) - 1 = (k : Int) by omega] at HD
      have hlk : (lo : Int) ≤ (k : Int) := by omega
      have hkt : (k : Int) - (lo : Int) = (t : Int) := by omega
      have hkb : k ≤ 1000000 := by omega
      have htb : t ≤ 1000000 := by omega
      have ht1n : t + 1 ≤ n := by omega
      have htl : t + (lo + 1) = k + 1 := by omega
      have hk1n : k + 1 ≤ n := by omega
      -- the world behind the literal
      have htt := HTT.out wq
      have hnt : New wq (wq.alloc (.cells #[.bool true] 4)) := (New.refl wq).alloc _
      obtain ⟨W1, hW1⟩ : ∃ z, wq.alloc (.cells #[.bool true] 4) = z := ⟨_, rfl⟩
      rw [hW1] at htt hnt
      have HU1 := Lib.hid (up_r _ 1 1 [true] t W1 htt htb (by omega))
      rw [vB_true, Nat.mul_one] at HU1
      have hp2 : 2 ^ t < 2 ^ (t + 1) := Nat.pow_lt_pow_right (by decide) (by omega)
      have HAD := Lib.hid (fun a9 c9 w' (hr9 : LRow w' a9 (t + 1) c9 (bO (2 ^ t) (t + 1))) (hn' : New wq w') => add_r a1 a9 n1 c1 (t + 1) c9 _ _ w' (hl1.stay hn') hr9 (by omega) (by omega))
      rw [hvq, vB_bO_all hp2] at HAD
      have HAR := Lib.hid (fun a9 c9 w' (hr9 : LRow w' a9 (t + (lo + 1)) c9 (bO (2 ^ t * M) (t + (lo + 1)))) (hn' : New wq w') => add_r a3 a9 n c3 (t + (lo + 1)) c9 _ _ w' (hl2.stay hn') hr9 (by omega) (by omega))
      rw [hvr, vB_bO_all hs3, show max n (t + (lo + 1)) = n by omega] at HAR
      have HUB := Lib.hid (fun w' (hn' : New wq w') => HUM.out t htb w' (hnew.trans hn'))
      have HDB := Lib.hid (fun w' (hn' : New wq w') => HDM.out w' (hnew.trans hn'))
      have hxq : q ^^^ 2 ^ t < 2 ^ (max n1 (t + 1)) := Nat.xor_lt_two_pow (Nat.lt_of_lt_of_le hq (Nat.pow_le_pow_right (by decide) (by omega))) (Nat.lt_of_lt_of_le hp2 (Nat.pow_le_pow_right (by decide) (by omega)))
      have hxr : r ^^^ 2 ^ t * M < 2 ^ n := Nat.xor_lt_two_pow hr (Nat.lt_of_lt_of_le hs3 (Nat.pow_le_pow_right (by decide) (by omega)))
      have HX : Hid (q ^^^ 2 ^ t < 2 ^ (max n1 (t + 1)) ∧ r ^^^ 2 ^ t * M < 2 ^ n ∧ A = mulG (q ^^^ 2 ^ t) M ^^^ (r ^^^ 2 ^ t * M) ∧ bl (r ^^^ 2 ^ t * M) < bl r) := Lib.hid ⟨hxq, hxr, hs1, hs2⟩
      have HMX : Hid (max n1 (t + 1) ≤ n) := Lib.hid (by omega)
      obtain ⟨N1, hN1⟩ : ∃ N1, max n1 (t + 1) = N1 := ⟨_, rfl⟩
      rw [hN1] at HAD HX HMX
      have HNT := Lib.hid hnt
      have HW1 := Lib.hid hW1
      have HN := Lib.hid hnew
      clear hl1 hl2 hq hr hAqr hvr hvq hms hnew hle hbr hs1 hs2 hs3 hp2 hxq hxr hN1 htt hnt hW1 HL hk ht htl ht1n hk1n
      go_wp2_with fail
      refine HD.out.mono ?_
      rintro e w' ⟨rfl, hw⟩
      replace hw := hw.symm
      subst hw
      go_wp2_with fail
      refine HDQ.out.mono ?_
      rintro e w' ⟨rfl, hw⟩
      replace hw := hw.symm
      subst hw
      go_wp2_with fail
      refine HD.out.mono ?_
      rintro e w' ⟨rfl, hw⟩
      replace hw := hw.symm
      subst hw
      go_wp2_with fail
      refine HDQ.out.mono ?_
      rintro e w' ⟨rfl, hw⟩
      replace hw := hw.symm
      subst hw
      clear HD HDQ
      go_wp2_with fail
      rw [HW1.out]
      refine HU1.out.mono ?_
      rintro e w2 ⟨a9, c9, rfl, hr9, hn2⟩
      have HN2 := Lib.hid (HNT.out.trans hn2)
      replace HAD := Lib.hid (HAD.out _ _ _ hr9 HN2.out)
      clear hr9 hn2 HU1 HNT HW1
      go_wp2_with fail
      refine HAD.out.mono ?_
      rintro e w3 ⟨a8, c8, rfl, hr8, hn3⟩
      replace HN2 := Lib.hid (HN2.out.trans hn3)
      have HR8 := Lib.hid hr8
      replace HDB := Lib.hid (HDB.out _ HN2.out)
      replace HUB := Lib.hid (HUB.out _ HN2.out)
      clear hr8 hn3 HAD
      go_wp2_with fail
      refine HDB.out.mono ?_
      rintro e w' ⟨rfl, hw⟩
      replace hw := hw.symm
      subst hw
      clear HDB
      go_wp2_with fail
      refine HUB.out.mono ?_
      rintro e w4 ⟨a7, c7, rfl, hr7, hn4⟩
      replace HN2 := Lib.hid (HN2.out.trans hn4)
      replace HR8 := Lib.hid (HR8.out.stay hn4)
      replace HAR := Lib.hid (HAR.out _ _ _ hr7 HN2.out)
      clear hr7 hn4 HUB
      go_wp2_with fail
      refine HAR.out.mono ?_
      rintro e w5 ⟨a6, c6, rfl, hr6, hn5⟩
      replace HN2 := Lib.hid (HN2.out.trans hn5)
      replace HR8 := Lib.hid (HR8.out.stay hn5)
      have HR6 := Lib.hid hr6
      have HNN := Lib.hid (HN.out.trans HN2.out)
      have HM6 : Hid (msL (.slice a6 n c6) w5 = bl (r ^^^ 2 ^ t * M)) := Lib.hid (by rw [msL_is hr6, vB_bO_all HX.out.2.1])
      have hmx := HMX.out
      clear hr6 hn5 HAR HN2 HN HMX
      go_wp2
      refine ⟨⟨_, _, N1, _, _, _, _, rfl, rfl, hmx, Lib.hid ⟨HR8.out, HR6.out, HX.out.1, HX.out.2.1, HX.out.2.2.1⟩, HNN.out⟩, ?_⟩
      show msL (.slice a6 n c6) w5 < msL (.slice a3 n c3) wq
      rw [HM6.out, HMS.out]
      exact HX.out.2.2.2
end Go.Proofs.Ytppmpledcaonkaa
