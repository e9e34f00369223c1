import Derived.Test.YtfaobdmoifnglaaGreatZGf2S
import Derived.Test.YtfaobdmoifnglaaGreatZFouM
/- gf2.PowX. -/
namespace Go.G2
set_option linter.unusedVariables false
/-- the power of x, modulo a polynomial -/
noncomputable def xpG (E M : Nat) : Nat := rmG (2 ^ E) M
theorem xp_two {M k : Nat} (hM : M ≠ 0) : rmG (mulG (xpG k M) (xpG k M)) M = xpG (2 * k) M := by
  unfold xpG
  rw [rm_mul_l hM, rm_mul_r hM, mulG_pow, ← Nat.pow_add, Nat.two_mul]
theorem xp_one {M k : Nat} (hM : M ≠ 0) : rmG (mulG (xpG k M) 2) M = xpG (k + 1) M := by
  unfold xpG
  rw [rm_mul_l hM, mulG_pow, Nat.pow_succ]
theorem xp_add {M j k : Nat} (hM : M ≠ 0) : rmG (mulG (xpG j M) (xpG k M)) M = xpG (j + k) M := by
  unfold xpG
  rw [rm_mul_l hM, rm_mul_r hM, mulG_pow, ← Nat.pow_add]
theorem half_bit (E u : Nat) : E / 2 ^ u = 2 * (E / 2 ^ (u + 1)) + (E.testBit u).toNat := by
  rw [Nat.testBit_eq_decide_div_mod_eq, Nat.pow_succ, ← Nat.div_div_eq_div_mul]
  rcases Nat.mod_two_eq_zero_or_one (E / 2 ^ u) with h | h <;> rw [h] <;> simp <;> omega
end Go.G2
namespace Go.Proofs.YtfaobdmoifnglaaGreat
open Go Go.RowKit Go.Bv Go.G2
set_option linter.unusedVariables false
theorem len4_bl (a0 a1 a2 a3 : BitVec 64) : len4 a0 a1 a2 a3 = bl (four a0 a1 a2 a3) := by
  rw [← len4_eq]
  refine lenN_is 256 _ (bl_le.2 (four_lt _ _ _ _)) (lt_bl _) ?_
  by_cases h : four a0 a1 a2 a3 = 0
  · left; rw [h]; rfl
  · right
    obtain ⟨k, e1, e2, _⟩ := bl_pos h
    rw [e1, Nat.add_sub_cancel]
    exact ge_of_bit e2
theorem wlen4 (a0 a1 a2 a3 : BitVec 64) (w : World) :
    Calls Tryz.prog 140 #[.agg #[.int .u64 (W64 a0), .int .u64 (W64 a1), .int .u64 (W64 a2), .int .u64 (W64 a3)]] w fun e w' => e = .returned (.int .i64 ((bl (four a0 a1 a2 a3) : Nat) : Int)) ∧ New w w' := by
  rw [← len4_bl]
  exact wlen4_run a0 a1 a2 a3 _ _ _ _ rfl rfl rfl rfl w
set_option maxRecDepth 100000 in
set_option maxHeartbeats 4000000 in
theorem powx_z (a0 a1 a2 a3 : BitVec 64) (b : Option Addr) (m c2 : Nat) (l2 : List (BitVec 64)) (w : World) (h2 : QRow w b m c2 l2) (hm : m ≤ 20000) (hz : vW l2 = 0) :
    Calls Tryz.prog 111 #[.agg #[.int .u64 (W64 a0), .int .u64 (W64 a1), .int .u64 (W64 a2), .int .u64 (W64 a3)], .slice b m c2] w fun e w' => e = .returned (.tuple #[.slice none 0 0, .bool false]) ∧ New w w' := by
  have hb := heap_alloc_new w (.cells #[.int .u64 (W64 a0), .int .u64 (W64 a1), .int .u64 (W64 a2), .int .u64 (W64 a3)] 49)
  have hn0 : New w (w.alloc (.cells #[.int .u64 (W64 a0), .int .u64 (W64 a1), .int .u64 (W64 a2), .int .u64 (W64 a3)] 49)) := (New.refl w).alloc _
  obtain ⟨W0, hW0⟩ : ∃ z, w.alloc (.cells #[.int .u64 (W64 a0), .int .u64 (W64 a1), .int .u64 (W64 a2), .int .u64 (W64 a3)] 49) = z := ⟨_, rfl⟩
  rw [hW0] at hb hn0
  have hs0 : W0.heap.size = w.heap.size + 1 := by rw [← hW0]; simp
  have hn1 : New W0 (W0.alloc (.cells #[.int .u64 1] 22)) := (New.refl W0).alloc _
  obtain ⟨W1, hW1⟩ : ∃ z, W0.alloc (.cells #[.int .u64 1] 22) = z := ⟨_, rfl⟩
  rw [hW1] at hn1
  have hs1 : W1.heap.size = w.heap.size + 2 := by rw [← hW1]; simp [hs0]
  have HM := Lib.hid (mod_z (some ⟨w.heap.size + 1, 0, none⟩) b 1 1 m c2 l2 W1 ((h2.stay hn0).stay hn1) (by omega) hz)
  have HL := Lib.hid (fun w' => wlen4 a0 a1 a2 a3 w')
  have hn2 : New W1 (W1.alloc (.cells #[.int .u64 2] 22)) := (New.refl W1).alloc _
  obtain ⟨W2, hW2⟩ : ∃ z, W1.alloc (.cells #[.int .u64 2] 22) = z := ⟨_, rfl⟩
  rw [hW2] at hn2
  have hb2 := (hn2.block _ (by rw [hs1]; omega)).trans ((hn1.block _ (lt_of_block hb)).trans hb)
  have k0 : W2.cell? ⟨w.heap.size, 0, none⟩ = some (.int .u64 (W64 a0)) := cell_of_row _ _ 0 _ _ _ hb2
  have k1 : W2.cell? ⟨w.heap.size, 1, none⟩ = some (.int .u64 (W64 a1)) := cell_of_row _ _ 1 _ _ _ hb2
  have k2 : W2.cell? ⟨w.heap.size, 2, none⟩ = some (.int .u64 (W64 a2)) := cell_of_row _ _ 2 _ _ _ hb2
  have k3 : W2.cell? ⟨w.heap.size, 3, none⟩ = some (.int .u64 (W64 a3)) := cell_of_row _ _ 3 _ _ _ hb2
  have hbl : bl (four a0 a1 a2 a3) ≤ 256 := bl_le.2 (four_lt _ _ _ _)
  obtain ⟨L, hL⟩ : ∃ L, bl (four a0 a1 a2 a3) = L := ⟨_, rfl⟩
  rw [hL] at HL hbl
  have HN := Lib.hid ((hn0.trans hn1).trans hn2)
  have HW0 := Lib.hid hW0
  have HW1 := Lib.hid hW1
  have HW2 := Lib.hid hW2
  rw [← hW2] at k0 k1 k2 k3
  clear h2 hz hb hn0 hn1 hn2 hW0 hW1 hW2 hs0 hs1 hb2 hL
  go_enter Tryz.func111, Tryz.ntmps111
  go_wp2_with fail
  rw [HW0.out, HW1.out]
  with_reducible refine HM.out.mono ?_
  rintro e w' ⟨rfl, hw⟩
  replace hw := hw.symm
  subst hw
  go_wp2_with fail
  rw [HW2.out]
  with_reducible refine (HL.out _).mono ?_
  rintro e w3 ⟨rfl, hn3⟩
  replace HN := Lib.hid (HN.out.trans hn3)
  clear hn3 k0 k1 k2 k3
  go_wp2_with fail
  go_loopw [6, 7] (fun pv ov wr => pv = .slice none 0 0 ∧ ov = .bool false ∧ wr = w3) (fun _ _ _ => 0)
  case atStart => exact ⟨rfl, rfl, rfl⟩
  case round =>
    obtain ⟨rfl, rfl, rfl⟩ := hrel
    go_wp2
    go_ret2
    exact ⟨rfl, HN.out⟩
theorem tW_two : tW 2 = [2#64] := by rfl
set_option maxRecDepth 100000 in
set_option maxHeartbeats 4000000 in
theorem powx_q (a0 a1 a2 a3 : BitVec 64) (b : Option Addr) (m c2 : Nat) (l2 : List (BitVec 64)) (w : World) (h2 : QRow w b m c2 l2) (hm : m ≤ 10000) (hz : vW l2 ≠ 0) :
    Calls Tryz.prog 111 #[.agg #[.int .u64 (W64 a0), .int .u64 (W64 a1), .int .u64 (W64 a2), .int .u64 (W64 a3)], .slice b m c2] w fun e w' => ∃ a' c', e = .returned (.tuple #[.slice a' (tW (xpG (four a0 a1 a2 a3) (vW l2))).length c', .bool true]) ∧ QRow w' a' (tW (xpG (four a0 a1 a2 a3) (vW l2))).length c' (tW (xpG (four a0 a1 a2 a3) (vW l2))) ∧ New w w' := by
  have hb := heap_alloc_new w (.cells #[.int .u64 (W64 a0), .int .u64 (W64 a1), .int .u64 (W64 a2), .int .u64 (W64 a3)] 49)
  have hn0 : New w (w.alloc (.cells #[.int .u64 (W64 a0), .int .u64 (W64 a1), .int .u64 (W64 a2), .int .u64 (W64 a3)] 49)) := (New.refl w).alloc _
  obtain ⟨W0, hW0⟩ : ∃ z, w.alloc (.cells #[.int .u64 (W64 a0), .int .u64 (W64 a1), .int .u64 (W64 a2), .int .u64 (W64 a3)] 49) = z := ⟨_, rfl⟩
  rw [hW0] at hb hn0
  have hs0 : W0.heap.size = w.heap.size + 1 := by rw [← hW0]; simp
  have hq1 := lit_row W0 1#64
  rw [show W64 1#64 = 1 from rfl] at hq1
  have hn1 : New W0 (W0.alloc (.cells #[.int .u64 1] 22)) := (New.refl W0).alloc _
  obtain ⟨W1, hW1⟩ : ∃ z, W0.alloc (.cells #[.int .u64 1] 22) = z := ⟨_, rfl⟩
  rw [hW1] at hn1 hq1
  rw [hs0] at hq1
  have hmd := mod_q (some ⟨w.heap.size + 1, 0, none⟩) b 1 1 m c2 [1#64] l2 W1 hq1 ((h2.stay hn0).stay hn1) (by omega) (by omega) hz
  rw [vW_lit, show (1#64).toNat = 1 from rfl, show rmG 1 (vW l2) = xpG 0 (vW l2) from rfl] at hmd
  have HM := Lib.hid hmd
  have HL := Lib.hid (fun w' => wlen4 a0 a1 a2 a3 w')
  have HMM := Lib.hid (fun k a c w' (hq : QRow w' a (tW (xpG k (vW l2))).length c (tW (xpG k (vW l2)))) (hl : (tW (xpG k (vW l2))).length ≤ 20000) (hn' : New W1 w') => mulmod_q a a b _ c _ c m c2 _ _ l2 w' hq hq (((h2.stay hn0).stay hn1).stay hn') hl hl (by omega) hz)
  have hmm : ∀ k, rmG (mulG (vW (tW (xpG k (vW l2)))) (vW (tW (xpG k (vW l2))))) (vW l2) = xpG (2 * k) (vW l2) := fun k => by rw [vW_tW]; exact xp_two hz
  have HMX := Lib.hid (fun k a c bx cx w' (hq : QRow w' a (tW (xpG k (vW l2))).length c (tW (xpG k (vW l2)))) (hx : QRow w' bx 1 cx [2#64]) (hl : (tW (xpG k (vW l2))).length ≤ 20000) (hn' : New W1 w') => mulmod_q a bx b _ c 1 cx m c2 _ _ l2 w' hq hx (((h2.stay hn0).stay hn1).stay hn') hl (by omega) (by omega) hz)
  have hmx : ∀ k, rmG (mulG (vW (tW (xpG k (vW l2)))) (vW [2#64])) (vW l2) = xpG (k + 1) (vW l2) := fun k => by rw [vW_tW, vW_lit]; exact xp_one hz
  simp only [hmm] at HMM
  simp only [hmx] at HMX
  have HLN : Hid (∀ k, (tW (xpG k (vW l2))).length ≤ 20000) := Lib.hid (fun k => by
    have h9 := rm_lt (a := 2 ^ k) hz
    have h8 := bl_vW l2
    rw [h2.len_eq] at h8
    rw [tW_len]
    unfold xpG
    omega)
  obtain ⟨E, hE⟩ : ∃ E, four a0 a1 a2 a3 = E := ⟨_, rfl⟩
  have hbl : bl E ≤ 256 := hE ▸ bl_le.2 (four_lt _ _ _ _)
  have HBT : Hid (∀ (u : Nat) w', u < 256 → Calls Tryz.prog 142 #[.agg #[.int .u64 (W64 a0), .int .u64 (W64 a1), .int .u64 (W64 a2), .int .u64 (W64 a3)], .int .i64 (u : Int)] w' fun e w'' => e = .returned (.bool (E.testBit u)) ∧ New w' w'') := Lib.hid (fun u w' hu => by
    have := wbit4 a0 a1 a2 a3 (u : Int) w'
    rw [hE, decide_eq_true (by omega), Bool.true_and, Int.toNat_natCast] at this
    exact this)
  rw [hE] at HL ⊢
  have hE0 : E / 2 ^ bl E = 0 := Nat.div_eq_of_lt (lt_bl E)
  have HHB := Lib.hid (half_bit E)
  obtain ⟨L, hL⟩ : ∃ L, bl E = L := ⟨_, rfl⟩
  rw [hL] at HL hbl hE0
  obtain ⟨M, hMe⟩ : ∃ M, vW l2 = M := ⟨_, rfl⟩
  rw [hMe] at HM HMM HMX HLN ⊢
  have hq2 := lit_row W1 2#64
  rw [show W64 2#64 = 2 from rfl] at hq2
  have hn2 : New W1 (W1.alloc (.cells #[.int .u64 2] 22)) := (New.refl W1).alloc _
  have HB := Lib.hid (fun w' (hn' : New W1 w') => (hn'.block _ (lt_of_block ((hn1.block _ (lt_of_block hb)).trans hb))).trans ((hn1.block _ (lt_of_block hb)).trans hb))
  have HN01 := Lib.hid (hn0.trans hn1)
  have HW0 := Lib.hid hW0
  have HW1 := Lib.hid hW1
  have HE0 := Lib.hid hE0
  clear h2 hz hb hn0 hn1 hn2 hW0 hW1 hs0 hq1 hq2 hmd hmm hmx hE hL hMe hE0
  go_enter Tryz.func111, Tryz.ntmps111
  go_wp2_with fail
  rw [HW0.out, HW1.out]
  with_reducible refine HM.out.mono ?_
  rintro e w3 ⟨aq, cq, rfl, hq3, hn3⟩
  have hx := lit_row w3 2#64
  rw [show W64 2#64 = 2 from rfl] at hx
  have hn4 : New w3 (w3.alloc (.cells #[.int .u64 2] 22)) := (New.refl w3).alloc _
  have hb4 := HB.out _ (hn3.trans hn4)
  have k0 : (w3.alloc (.cells #[.int .u64 2] 22)).cell? ⟨w.heap.size, 0, none⟩ = some (.int .u64 (W64 a0)) := cell_of_row _ _ 0 _ _ _ hb4
  have k1 : (w3.alloc (.cells #[.int .u64 2] 22)).cell? ⟨w.heap.size, 1, none⟩ = some (.int .u64 (W64 a1)) := cell_of_row _ _ 1 _ _ _ hb4
  have k2 : (w3.alloc (.cells #[.int .u64 2] 22)).cell? ⟨w.heap.size, 2, none⟩ = some (.int .u64 (W64 a2)) := cell_of_row _ _ 2 _ _ _ hb4
  have k3 : (w3.alloc (.cells #[.int .u64 2] 22)).cell? ⟨w.heap.size, 3, none⟩ = some (.int .u64 (W64 a3)) := cell_of_row _ _ 3 _ _ _ hb4
  have HN3 := Lib.hid (hn3.trans hn4)
  have HQ3 := Lib.hid (hq3.stay hn4)
  have HX := Lib.hid hx
  clear hx hq3 hn3 hn4 hb4 HM HW0 HW1
  go_wp2_with fail
  with_reducible refine (HL.out _).mono ?_
  rintro e w5 ⟨rfl, hn5⟩
  replace HN3 := Lib.hid (HN3.out.trans hn5)
  replace HQ3 := Lib.hid (HQ3.out.stay hn5)
  replace HX := Lib.hid (HX.out.stay hn5)
  clear hn5 k0 k1 k2 k3
  go_wp2_with fail
  go_loopw [6, 7, 9] (fun pv ov iv wr => ∃ (u k c : Nat) (a : Option Addr), u ≤ L ∧ pv = .slice a (tW (xpG k M)).length c ∧ ov = .bool true ∧ iv = .int .i64 ((u : Int) - 1) ∧ Hid (k = E / 2 ^ u ∧ QRow wr a (tW (xpG k M)).length c (tW (xpG k M))) ∧ New w5 wr) (fun _ _ iv _ => (intOf iv + 1).toNat)
  case atStart => exact ⟨L, 0, _, _, Nat.le_refl _, rfl, rfl, rfl, Lib.hid ⟨HE0.out.symm, HQ3.out⟩, New.refl _⟩
  case round =>
    obtain ⟨u, k, c, a, hu, rfl, rfl, rfl, HK, hnew⟩ := hrel
    obtain ⟨wq, hwq⟩ : ∃ z, z = wr := ⟨_, rfl⟩
    rw [← hwq] at HK hnew ⊢
    clear hwq
    cases u with
    | zero =>
      have HF : Hid (k = E) := Lib.hid (by rw [HK.out.1]; simp)
      have HN := Lib.hid (HN01.out.trans (HN3.out.trans hnew))
      clear hnew
      go_wp2
      go_ret2
      rw [← HF.out]
      exact ⟨_, _, rfl, HK.out.2, HN.out⟩
    | succ u =>
      have hu1 : ((u + 1 : Nat) : Int) - 1 = (u : Int) := by omega
      rw [hu1]
      have hu0 : (0 : Int) ≤ (u : Int) := by omega
      have hnw := HN3.out.trans hnew
      have HC := Lib.hid (HMM.out k a c wq HK.out.2 (HLN.out k) hnw)
      have HBB := Lib.hid (HBT.out u)
      have HHU := Lib.hid (HHB.out u)
      have HNW := Lib.hid hnw
      have HNQ := Lib.hid hnew
      rcases hbit : E.testBit u with _ | _
      · rw [hbit] at HBB HHU
        have HKK : Hid (2 * k = E / 2 ^ u) := Lib.hid (by rw [HHU.out, HK.out.1]; rfl)
        clear hbit hnw hnew HK
        go_wp2_with fail
        refine HC.out.mono ?_
        rintro e w6 ⟨a6, c6, rfl, hq6, hn6⟩
        have hb6 := HB.out _ (HNW.out.trans hn6)
        have k0 : w6.cell? ⟨w.heap.size, 0, none⟩ = some (.int .u64 (W64 a0)) := cell_of_row _ _ 0 _ _ _ hb6
        have k1 : w6.cell? ⟨w.heap.size, 1, none⟩ = some (.int .u64 (W64 a1)) := cell_of_row _ _ 1 _ _ _ hb6
        have k2 : w6.cell? ⟨w.heap.size, 2, none⟩ = some (.int .u64 (W64 a2)) := cell_of_row _ _ 2 _ _ _ hb6
        have k3 : w6.cell? ⟨w.heap.size, 3, none⟩ = some (.int .u64 (W64 a3)) := cell_of_row _ _ 3 _ _ _ hb6
        have HQ6 := Lib.hid hq6
        replace HNQ := Lib.hid (HNQ.out.trans hn6)
        clear hq6 hn6 hb6 HC
        go_wp2_with fail
        refine (HBB.out _ (by omega)).mono ?_
        rintro e w7 ⟨rfl, hn7⟩
        replace HQ6 := Lib.hid (HQ6.out.stay hn7)
        replace HNQ := Lib.hid (HNQ.out.trans hn7)
        clear hn7 k0 k1 k2 k3
        go_wp2
        exact ⟨⟨u, 2 * k, _, _, by omega, rfl, rfl, rfl, Lib.hid ⟨HKK.out, HQ6.out⟩, HNQ.out⟩, by simp [intOf] <;> omega⟩
      · rw [hbit] at HBB HHU
        have HKK : Hid (2 * k + 1 = E / 2 ^ u) := Lib.hid (by rw [HHU.out, HK.out.1]; rfl)
        clear hbit hnw hnew HK
        go_wp2_with fail
        refine HC.out.mono ?_
        rintro e w6 ⟨a6, c6, rfl, hq6, hn6⟩
        have hb6 := HB.out _ (HNW.out.trans hn6)
        have k0 : w6.cell? ⟨w.heap.size, 0, none⟩ = some (.int .u64 (W64 a0)) := cell_of_row _ _ 0 _ _ _ hb6
        have k1 : w6.cell? ⟨w.heap.size, 1, none⟩ = some (.int .u64 (W64 a1)) := cell_of_row _ _ 1 _ _ _ hb6
        have k2 : w6.cell? ⟨w.heap.size, 2, none⟩ = some (.int .u64 (W64 a2)) := cell_of_row _ _ 2 _ _ _ hb6
        have k3 : w6.cell? ⟨w.heap.size, 3, none⟩ = some (.int .u64 (W64 a3)) := cell_of_row _ _ 3 _ _ _ hb6
        have HQ6 := Lib.hid hq6
        replace HNQ := Lib.hid (HNQ.out.trans hn6)
        replace HNW := Lib.hid (HNW.out.trans hn6)
        clear hq6 hn6 hb6 HC
        go_wp2_with fail
        refine (HBB.out _ (by omega)).mono ?_
        rintro e w7 ⟨rfl, hn7⟩
        replace HQ6 := Lib.hid (HQ6.out.stay hn7)
        replace HNQ := Lib.hid (HNQ.out.trans hn7)
        replace HNW := Lib.hid (HNW.out.trans hn7)
        have HCX := Lib.hid (HMX.out (2 * k) a6 c6 _ _ w7 HQ6.out (HX.out.stay HNQ.out) (HLN.out (2 * k)) HNW.out)
        clear hn7 k0 k1 k2 k3
        go_wp2_with fail
        refine HCX.out.mono ?_
        rintro e w8 ⟨a8, c8, rfl, hq8, hn8⟩
        have HQ8 := Lib.hid hq8
        replace HNQ := Lib.hid (HNQ.out.trans hn8)
        clear hq8 hn8 HCX HQ6
        go_wp2
        exact ⟨⟨u, 2 * k + 1, _, _, by omega, rfl, rfl, rfl, Lib.hid ⟨HKK.out, HQ8.out⟩, HNQ.out⟩, by simp [intOf] <;> omega⟩
end Go.Proofs.YtfaobdmoifnglaaGreat
