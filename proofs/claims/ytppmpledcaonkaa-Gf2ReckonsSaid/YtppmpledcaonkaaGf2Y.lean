/- The law Gf2Reckons. -/
import Derived.Test.YtppmpledcaonkaaGf2U
import Derived.Deep.RegionHeld3
import Derived.Deep.DeepCutAuto
namespace Go.Proofs.Ytppmpledcaonkaa
open Go Go.RowKit Go.Bv Go.G2
set_option linter.unusedVariables false
def UZ (w : World) (b : Nat) : Prop := w.heap[b]? = some (.cells #[.int .u64 0, .int .u64 0] 36 (0, 0))
theorem UZ.stay {w w' : World} {b : Nat} (h : UZ w b) (hn : New w w') : UZ w' b := (hn.block _ (lt_of_block h)).trans h
theorem uz_of_alloc {W w : World} (h : New (W.alloc (.cells #[.int .u64 0, .int .u64 0] 36)).drew w) : UZ w W.heap.size ∧ New W w :=
  ⟨UZ.stay (UZ.stay (heap_alloc_new W _) (New.refl _).drew) h, ((New.refl W).alloc _).drew.trans h⟩
theorem uz_put {w : World} {b : Nat} (x y : Value) (h : UZ w b) : ((w.setCell ⟨b, 0, none⟩ x).setCell ⟨b, 1, none⟩ y).heap[b]? = some (.cells #[x, y] 36 (0, 0)) :=
  heap_setCell_same _ b 1 _ _ y (heap_setCell_same w b 0 _ _ x h)
theorem uz_new {W w : World} {b : Nat} (x y : Value) (hn : New W w) (hb : W.heap.size ≤ b) : New W ((w.setCell ⟨b, 0, none⟩ x).setCell ⟨b, 1, none⟩ y) := (hn.setCell hb _).setCell hb _
theorem drew_left6 {W w : World} (h : New W.drew w) : New W w := (New.refl W).drew.trans h
theorem two_row6 (w : World) (x y : BitVec 64) : QRow (w.alloc (.cells #[.int .u64 (W64 x), .int .u64 (W64 y)] 34)) (some ⟨w.heap.size, 0, none⟩) 2 2 [x, y] where
  len_eq := rfl
  le := Nat.le_refl _
  most := by omega
  room := by omega
  none := (fun e => by cases e)
  cell := fun b off e i hi => by
    cases e
    have hb := heap_alloc_new w (.cells #[.int .u64 (W64 x), .int .u64 (W64 y)] 34)
    have : i = 0 ∨ i = 1 := by omega
    rcases this with rfl | rfl
    · exact cell_of_row _ _ 0 _ _ _ hb
    · exact cell_of_row _ _ 1 _ _ _ hb
  spot := fun x e h0 => by cases e; rfl
  old := fun x e h0 => by cases e; simp
theorem vW_two (P : Nat) (hP : P < 2 ^ 128) : vW [BitVec.ofNat 64 P, BitVec.ofNat 64 (P / 2 ^ 64)] = P := by
  show (BitVec.ofNat 64 P).toNat + 2 ^ 64 * ((BitVec.ofNat 64 (P / 2 ^ 64)).toNat + 2 ^ 64 * 0) = P
  rw [BitVec.toNat_ofNat, BitVec.toNat_ofNat]
  omega
theorem take_low (l : List (BitVec 64)) (n : Nat) (h : 64 ≤ n) : vB ((bO (vW l) n).take 64) = (l.getD 0 0).toNat := by
  have e : (bO (vW l) n).take 64 = bO (vW l) 64 := by
    apply bools_eq (n := 64) (by rw [List.length_take, bO_len]; omega) (bO_len _ _)
    intro i hi
    rw [List.getD_eq_getElem?_getD, List.getElem?_take, if_pos hi, ← List.getD_eq_getElem?_getD, bO_get _ (by omega), bO_get _ hi]
  rw [e, vB_bO]
  have h1 := vW_div l 0
  rw [Nat.mul_zero, Nat.pow_zero, Nat.div_one] at h1
  rw [← h1, BitVec.toNat_ofNat]
set_option maxRecDepth 100000 in
set_option maxHeartbeats 8000000 in
theorem Gf2Reckons_walk (W : World) (a0 : Option Addr) (n0 m0 : Nat) (z0 : List Int) (w0 : IRow .u64 W a0 n0 m0 z0) (r0 : m0 * 8 ≤ 140737488351232) (a1 : Option Addr) (n1 m1 : Nat) (z1 : List Int) (w1 : IRow .u64 W a1 n1 m1 z1) (r1 : m1 * 8 ≤ 140737488351232) :
    Calls Try.prog 4 #[.slice a0 n0 m0, .slice a1 n1 m1] W fun e w' => e = .returned (.bool true) ∧ Below W.heap.size W w' := by
  obtain ⟨l, hl⟩ := w0.words r0
  obtain ⟨l2, hl2⟩ := w1.words r1
  have HL := Lib.hid hl
  have HL2 := Lib.hid hl2
  have HA := Lib.hid awake06
  clear w0 w1 r0 r1 hl hl2
  by_cases hs : n0 ≤ 6
  case neg =>
    have HS := Lib.hid (short_no a0 n0 m0 hs)
    go_enter Try.func4, Try.ntmps4
    go_wp2_with fail
    refine (HA.out _).mono ?_
    rintro e wA ⟨rfl, hn⟩
    have HN := Lib.hid hn
    clear hn HA
    go_wp2_with fail
    refine (HS.out _).mono ?_
    rintro e w' ⟨rfl, hw⟩
    replace hw := hw.symm
    subst hw
    go_wp2
    go_ret
    exact ⟨rfl, HN.out⟩
  have HS := Lib.hid (short_yes a0 n0 m0 hs)
  by_cases hs2 : n1 ≤ 6
  case neg =>
    have HS2 := Lib.hid (short_no a1 n1 m1 hs2)
    go_enter Try.func4, Try.ntmps4
    go_wp2_with fail
    refine (HA.out _).mono ?_
    rintro e wA ⟨rfl, hn⟩
    have HN := Lib.hid hn
    clear hn HA
    go_wp2_with fail
    refine (HS.out _).mono ?_
    rintro e w' ⟨rfl, hw⟩
    replace hw := hw.symm
    subst hw
    go_wp2_with fail
    refine (HS2.out _).mono ?_
    rintro e w' ⟨rfl, hw⟩
    replace hw := hw.symm
    subst hw
    go_wp2
    go_ret
    exact ⟨rfl, HN.out⟩
  have HS2 := Lib.hid (short_yes a1 n1 m1 hs2)
  have hA : vW l < 2 ^ (64 * n0) := by have := vW_lt l; rwa [HL.out.len_eq] at this
  have hB : vW l2 < 2 ^ (64 * n1) := by have := vW_lt l2; rwa [HL2.out.len_eq] at this
  have HOA := Lib.hid (fun w' (hn' : New W w') => of_r a0 n0 m0 l w' (HL.out.stay hn') (by omega))
  have HOB := Lib.hid (fun w' (hn' : New W w') => of_r a1 n1 m1 l2 w' (HL2.out.stay hn') (by omega))
  have HAD := Lib.hid (fun w' (hn' : New W w') => add_q a0 a1 n0 m0 n1 m1 l l2 w' (HL.out.stay hn') (HL2.out.stay hn') (by omega) (by omega))
  have HMU := Lib.hid (fun w' (hn' : New W w') => mul_q a0 a1 n0 m0 n1 m1 l l2 w' (HL.out.stay hn') (HL2.out.stay hn') (by omega) (by omega))
  have HRA := Lib.hid (fun w' a c b c9 (h1 : LRow w' a (64 * n0) c (bO (vW l) (64 * n0))) (h2 : LRow w' b (64 * n1) c9 (bO (vW l2) (64 * n1))) => add_r a b _ c _ c9 _ _ w' h1 h2 (by omega) (by omega))
  rw [vB_bO_all hA, vB_bO_all hB] at HRA
  have HRM := Lib.hid (fun w' a c b c9 (h1 : LRow w' a (64 * n0) c (bO (vW l) (64 * n0))) (h2 : LRow w' b (64 * n1) c9 (bO (vW l2) (64 * n1))) => mul_r a b _ c _ c9 _ _ w' h1 h2 (by omega) (by omega))
  rw [vB_bO_all hA, vB_bO_all hB] at HRM
  have hS : vW l ^^^ vW l2 < 2 ^ (max (64 * n0) (64 * n1)) := Nat.xor_lt_two_pow (Nat.lt_of_lt_of_le hA (Nat.pow_le_pow_right (by decide) (by omega))) (Nat.lt_of_lt_of_le hB (Nat.pow_le_pow_right (by decide) (by omega)))
  have HWS := Lib.hid (fun w' a c b c9 (h1 : QRow w' a (tW (vW l ^^^ vW l2)).length c (tW (vW l ^^^ vW l2))) (h2 : LRow w' b (max (64 * n0) (64 * n1)) c9 (bO (vW l ^^^ vW l2) (max (64 * n0) (64 * n1)))) => words06 a b _ c _ c9 _ _ w' h1 h2 (by omega))
  rw [vB_bO_all hS, beq_self_eq_true] at HWS
  have HWM := Lib.hid (fun w' a c b L c9 (h1 : QRow w' a (tW (mulG (vW l) (vW l2))).length c (tW (mulG (vW l) (vW l2)))) (h2 : LRow w' b L c9 (bO (mulG (vW l) (vW l2)) L)) (hL : L ≤ 1000000) => words06 a b _ c L c9 _ _ w' h1 h2 hL)
  have HLM : Hid (64 * n0 + 64 * n1 ≤ 1000000) := Lib.hid (by omega)
  have HLX : Hid (0 < n0 → vB ((bO (vW l) (64 * n0)).take 64) = (l.getD 0 0).toNat) := Lib.hid (fun h => take_low l _ (by omega))
  have HLY : Hid (0 < n1 → vB ((bO (vW l2) (64 * n1)).take 64) = (l2.getD 0 0).toNat) := Lib.hid (fun h => take_low l2 _ (by omega))
  have HCA : Hid (0 < n0 → 64 ≤ 64 * n0) := Lib.hid (fun h => by omega)
  have HCB : Hid (0 < n1 → 64 ≤ 64 * n1) := Lib.hid (fun h => by omega)
  obtain ⟨A, hAe⟩ : ∃ A, vW l = A := ⟨_, rfl⟩
  obtain ⟨B, hBe⟩ : ∃ B, vW l2 = B := ⟨_, rfl⟩
  rw [hAe] at HOA HAD HMU HRA HRM HWS HWM HLX
  rw [hBe] at HOB HAD HMU HRA HRM HWS HWM HLY
  obtain ⟨L0, hL0⟩ : ∃ L, 64 * n0 = L := ⟨_, rfl⟩
  obtain ⟨L1, hL1⟩ : ∃ L, 64 * n1 = L := ⟨_, rfl⟩
  rw [hL0] at HOA HRA HRM HWS HLM HLX HCA
  rw [hL1] at HOB HRA HRM HWS HLM HLY HCB
  clear hA hB hS hAe hBe hL0 hL1
  go_enter Try.func4, Try.ntmps4
  go_wp2_with fail
  refine (HA.out _).mono ?_
  rintro e wA ⟨rfl, hn⟩
  have HN := Lib.hid hn
  clear hn HA
  go_wp2_with fail
  refine (HS.out _).mono ?_
  rintro e w' ⟨rfl, hw⟩
  replace hw := hw.symm
  subst hw
  go_wp2_with fail
  refine (HS2.out _).mono ?_
  rintro e w' ⟨rfl, hw⟩
  replace hw := hw.symm
  subst hw
  go_wp2_with fail
  refine (HOA.out _ HN.out).mono ?_
  rintro e wB ⟨b3, d3, rfl, hr, hn⟩
  replace HN := Lib.hid (HN.out.trans hn)
  have HX := Lib.hid hr
  clear hr HOA
  clear hn
  go_wp2_with fail
  refine (HOB.out _ HN.out).mono ?_
  rintro e wC ⟨b4, d4, rfl, hr, hn⟩
  replace HX := Lib.hid (HX.out.stay hn)
  replace HN := Lib.hid (HN.out.trans hn)
  have HY := Lib.hid hr
  clear hr HOB
  clear hn
  go_wp2_with fail
  refine (HAD.out _ HN.out).mono ?_
  rintro e wD ⟨b5, d5, rfl, hq, hn⟩
  replace HX := Lib.hid (HX.out.stay hn)
  replace HY := Lib.hid (HY.out.stay hn)
  replace HN := Lib.hid (HN.out.trans hn)
  have H5 := Lib.hid hq
  clear hq HAD
  clear hn
  go_wp2_with fail
  refine (HRA.out _ _ _ _ _ HX.out HY.out).mono ?_
  rintro e wE ⟨b6, d6, rfl, hr, hn⟩
  replace HX := Lib.hid (HX.out.stay hn)
  replace HY := Lib.hid (HY.out.stay hn)
  replace H5 := Lib.hid (H5.out.stay hn)
  replace HN := Lib.hid (HN.out.trans hn)
  have H6 := Lib.hid hr
  clear hr HRA
  clear hn
  go_wp2_with fail
  refine (HWS.out _ _ _ _ _ H5.out H6.out).mono ?_
  rintro e wF ⟨rfl, hn⟩
  replace HX := Lib.hid (HX.out.stay hn)
  replace HY := Lib.hid (HY.out.stay hn)
  replace HN := Lib.hid (HN.out.trans hn)
  clear H5 H6 HWS
  clear hn
  go_wp2_with fail
  refine (HMU.out _ HN.out).mono ?_
  rintro e wG ⟨b7, d7, rfl, hq, hn⟩
  replace HX := Lib.hid (HX.out.stay hn)
  replace HY := Lib.hid (HY.out.stay hn)
  replace HN := Lib.hid (HN.out.trans hn)
  have H7 := Lib.hid hq
  clear hq HMU
  clear hn
  go_wp2_with fail
  refine (HRM.out _ _ _ _ _ HX.out HY.out).mono ?_
  rintro e wH ⟨b8, L8, d8, rfl, hr, h81, h82, hn⟩
  replace HX := Lib.hid (HX.out.stay hn)
  replace HY := Lib.hid (HY.out.stay hn)
  replace H7 := Lib.hid (H7.out.stay hn)
  replace HN := Lib.hid (HN.out.trans hn)
  have H8 := Lib.hid hr
  have HW8 := HWM.out _ _ _ _ _ _ H7.out hr (Nat.le_trans h82 HLM.out)
  rw [vB_bO_all h81, beq_self_eq_true] at HW8
  replace HWM := Lib.hid HW8
  clear hr h81 h82 HRM HW8
  clear hn
  go_wp2_with fail
  refine (HWM.out).mono ?_
  rintro e wI ⟨rfl, hn⟩
  replace HX := Lib.hid (HX.out.stay hn)
  replace HY := Lib.hid (HY.out.stay hn)
  replace HN := Lib.hid (HN.out.trans hn)
  clear H7 H8 HWM
  clear hn
  by_cases hz0 : n0 = 0
  · subst hz0
    go_wp2
    go_ret
    exact ⟨rfl, HN.out⟩
  by_cases hz1 : n1 = 0
  · subst hz1
    have hb0 : ((n0 : Int) == 0) = false := by rw [beq_eq_false_iff_ne]; omega
    go_wp2
    go_ret
    exact ⟨rfl, HN.out⟩
  have hb0 : ((n0 : Int) == 0) = false := by rw [beq_eq_false_iff_ne]; omega
  have hb1 : ((n1 : Int) == 0) = false := by rw [beq_eq_false_iff_ne]; omega
  have hp0 : (0 : Int) < (n0 : Int) := by omega
  have hp1 : (0 : Int) < (n1 : Int) := by omega
  have hq0 : 0 < n0 := by omega
  have hq1 : 0 < n1 := by omega
  have hlx := HLX.out (by omega)
  have hly := HLY.out (by omega)
  have hcx := Nat.le_trans (HCA.out (by omega)) HX.out.le
  have hcy := Nat.le_trans (HCB.out (by omega)) HY.out.le
  have HXC := Lib.hid (HX.out.cut 64 (HCA.out (by omega)))
  have HYC := Lib.hid (HY.out.cut 64 (HCB.out (by omega)))
  obtain ⟨b0, o0, rfl, hc0⟩ := (HL.out.stay HN.out).addr (by omega)
  have c0 := hc0 0 (by omega)
  obtain ⟨b1, o1, rfl, hc1⟩ := (HL2.out.stay HN.out).addr (by omega)
  have c1 := hc1 0 (by omega)
  rw [Nat.add_zero] at c0 c1
  obtain ⟨x, hx⟩ : ∃ x, l.getD 0 0 = x := ⟨_, rfl⟩
  obtain ⟨y, hy⟩ : ∃ y, l2.getD 0 0 = y := ⟨_, rfl⟩
  rw [hx] at c0 hlx
  rw [hy] at c1 hly
  have HLX2 := Lib.hid hlx
  have HLY2 := Lib.hid hly
  have HK : Hid (∀ w', New wI w' → w'.cell? ⟨b0, o0, none⟩ = some (.int .u64 (W64 x)) ∧ w'.cell? ⟨b1, o1, none⟩ = some (.int .u64 (W64 y))) := Lib.hid (fun w' hn' => ⟨(hn'.cell (a := ⟨b0, o0, none⟩) (cell_block c0)).trans c0, (hn'.cell (a := ⟨b1, o1, none⟩) (cell_block c1)).trans c1⟩)
  have HCL := Lib.hid (fun w => clmul_q x y w)
  obtain ⟨P, hP⟩ : ∃ P, mulG y.toNat x.toNat = P := ⟨_, rfl⟩
  have hPL : P < 2 ^ 128 := hP ▸ mulG_words
  have HVT := Lib.hid (vW_two P hPL)
  have HPE : Hid (mulG x.toNat y.toNat = P) := Lib.hid (by rw [mulG_comm]; exact hP)
  rw [hP] at HCL
  obtain ⟨p1, hp1e⟩ : ∃ q, BitVec.ofNat 64 (P / 2 ^ 64) = q := ⟨_, rfl⟩
  obtain ⟨p0, hp0e⟩ : ∃ q, BitVec.ofNat 64 P = q := ⟨_, rfl⟩
  rw [hp1e, hp0e] at HCL HVT
  have hcxi : (64 : Int) ≤ (d3 : Int) := by omega
  have hcyi : (64 : Int) ≤ (d4 : Int) := by omega
  have HPL := Lib.hid hPL
  clear hc0 hc1 hx hy hP hp1e hp0e hlx hly hcx hcy HLX HLY HCA HCB HL HL2 hPL
  go_wp2_with fail
  go_cut [7] (fun p wx => ∃ s, p = .pointer (some ⟨s, 0, none⟩) ∧ wx.heap[s]? = some (.cells #[.int .u64 (W64 p1), .int .u64 (W64 p0)] 36 (0, 0)) ∧ New wI wx)
  case first =>
    have SK := Lib.hid (fun (w1 : World) (hn : New wI w1) => And.intro hn (HK.out w1 hn))
    go_region_held3 (fun w1 => New wI w1 ∧ (w1.cell? ⟨b0, o0, none⟩ = some (.int .u64 (W64 x)) ∧ w1.cell? ⟨b1, o1, none⟩ = some (.int .u64 (W64 y))))
      ((refine SK.out _ ?_; first | with_reducible assumption | with_reducible exact (New.refl _).drew | with_reducible exact (New.refl _).drew.alloc _ | with_reducible exact ((New.refl _).alloc _).drew | with_reducible exact New.alloc (by assumption) _ | with_reducible exact uz_new _ _ (by assumption) (Nat.le_refl _) | with_reducible exact uz_new _ _ (New.alloc (by assumption) _) (by assumption) | with_reducible exact New.drew (by assumption)))
      (first
      | (go_at_call 26
         refine (HCL.out _).mono ?_
         rintro e w2 ⟨rfl, hn2⟩
         first
         | (with_reducible have hsn := uz_of_alloc hn2
            obtain ⟨hs, hn3⟩ := hsn
            have hsf : ∀ i, w2.frozen? ⟨wI.heap.size, i, none⟩ = false := fun i => frozen_of_row _ _ _ _ _ hs
            have s0 : w2.cell? ⟨wI.heap.size, 0, none⟩ = some (.int .u64 0) := cell_of_row _ _ 0 _ _ _ hs
            have s1 : w2.cell? ⟨wI.heap.size, 1, none⟩ = some (.int .u64 0) := cell_of_row _ _ 1 _ _ _ hs
            have HS := Lib.hid hs
            clear hs)
         | (have hn3 : New wI w2 := by with_reducible exact drew_left6 hn2
            have hn4 : Hid (wI.heap.size ≤ w2.heap.size) := Lib.hid hn3.le)
         clear hn2))
    all_goals (
      go_wp2_with fail
      go_meet
      case rel => first
        | exact ⟨_, rfl, heap_alloc_new _ _, hn3.alloc _⟩
        | exact ⟨_, rfl, uz_put _ _ HS.out, uz_new _ _ hn3 (Nat.le_refl _)⟩)
  case rest =>
    obtain ⟨s, rfl, hbs, hn⟩ := hcut
    replace HN := Lib.hid (HN.out.trans hn)
    replace HXC := Lib.hid (HXC.out.stay hn)
    replace HYC := Lib.hid (HYC.out.stay hn)
    have HKS : Hid (∀ w', New wc w' → w'.cell? ⟨s, 0, none⟩ = some (.int .u64 (W64 p1)) ∧ w'.cell? ⟨s, 1, none⟩ = some (.int .u64 (W64 p0))) := Lib.hid (fun w' hn' => by
      have h9 := (hn'.block _ (lt_of_block hbs)).trans hbs
      exact ⟨cell_of_row _ _ 0 _ _ _ h9, cell_of_row _ _ 1 _ _ _ h9⟩)
    obtain ⟨k0, k1⟩ := HKS.out wc (New.refl _)
    have HTQ := Lib.hid (fun a w' (hq : QRow w' a 2 2 [p0, p1]) => trim_q a 2 2 [p0, p1] w' hq)
    rw [HVT.out] at HTQ
    have HMR := Lib.hid (fun w' (hn' : New wc w') => mul_r b3 b4 64 d3 64 d4 _ _ w' (HXC.out.stay hn') (HYC.out.stay hn') (by omega) (by omega))
    rw [HLX2.out, HLY2.out, HPE.out] at HMR
    have HWW := Lib.hid (fun w' a c b L c9 (h1 : QRow w' a (tW P).length c (tW P)) (h2 : LRow w' b L c9 (bO P L)) (hL : L ≤ 1000000) => words06 a b _ c L c9 _ _ w' h1 h2 hL)
    clear hn hbs c0 c1 HK HCL HVT HX HY
    have SK := Lib.hid (fun (w1 : World) (hn : New wc w1) => And.intro hn (HKS.out w1 hn))
    go_wp2_with fail
    go_region_held3 (fun w1 => New wc w1 ∧ (w1.cell? ⟨s, 0, none⟩ = some (.int .u64 (W64 p1)) ∧ w1.cell? ⟨s, 1, none⟩ = some (.int .u64 (W64 p0))))
      ((refine SK.out _ ?_; first | with_reducible assumption | with_reducible exact (New.refl _).drew | with_reducible exact (New.refl _).drew.alloc _ | with_reducible exact ((New.refl _).alloc _).drew | with_reducible exact New.alloc (by assumption) _ | with_reducible exact New.drew (by assumption)))
      (first
      | (go_at_call 21
         refine (HTQ.out _ _ (by first | with_reducible exact two_row6 _ _ _ | with_reducible exact (two_row6 _ _ _).stay (New.refl _).drew)).mono ?_
         rintro e w2 ⟨a9, c9, rfl, hq, hn2⟩
         have hn3 : New wc w2 := by first | with_reducible exact ((New.refl _).drew.alloc _).trans hn2 | with_reducible exact (((New.refl _).alloc _).drew).trans hn2 | with_reducible exact ((New.refl _).alloc _).trans hn2
         have HQ9 := Lib.hid hq
         have HN3 := Lib.hid hn3
         clear hq hn2)
      | (go_at_call 25
         refine (HMR.out _ (by first | with_reducible assumption | with_reducible exact New.drew (by assumption))).mono ?_
         rintro e w3 ⟨a8, L8, c8, rfl, hr, h81, h82, hn4⟩
         have hn5 : New wc w3 := by first | with_reducible exact HN3.out.trans hn4 | with_reducible exact (HN3.out.drew).trans hn4
         have HQ8 := Lib.hid (HQ9.out.stay (by first | with_reducible exact hn4 | with_reducible exact (New.refl _).drew.trans hn4))
         have HR8 := Lib.hid hr
         have HL8 := Lib.hid (And.intro h81 h82)
         clear hr h81 h82 hn4)
      | (go_at_call 20
         have HWX := Lib.hid (HWW.out _ _ _ _ _ _ HQ8.out HR8.out (Nat.le_trans HL8.out.2 (by decide)))
         rw [vB_bO_all HL8.out.1, beq_self_eq_true] at HWX
         first
         | refine HWX.out.mono ?_
         | refine (HWW.out _ _ _ _ _ _ (HQ8.out.stay (New.refl _).drew) (HR8.out.stay (New.refl _).drew) (Nat.le_trans HL8.out.2 (by decide))).mono ?_
         rintro e w4 ⟨rfl, hn6⟩
         have hn7 : New wc w4 := by first | with_reducible exact hn5.trans hn6 | with_reducible exact hn5.drew.trans hn6))
    all_goals (
      go_wp2
      go_ret
      exact ⟨rfl, HN.out.trans hn7⟩)
end Go.Proofs.Ytppmpledcaonkaa
