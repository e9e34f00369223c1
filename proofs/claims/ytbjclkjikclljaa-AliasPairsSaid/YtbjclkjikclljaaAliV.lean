/- Layer 43: AliasPairs. -/
import Derived.Test.YtbjclkjikclljaaAliQ
import Derived.Test.YtbjclkjikclljaaAliU
namespace Go.Proofs.Ytbjclkjikclljaa
open Go Go.RowKit Go.Bv Go.Ali
set_option linter.unusedVariables false
set_option maxRecDepth 100000
set_option maxHeartbeats 16000000 in
theorem pairs_43 (T : BitVec 64) (ab : Option Addr) (nb cb : Nat) (aa : Option Addr) (na ca : Nat) (be : List (BitVec 64)) (al : List Int) (c u : BitVec 64) (j : Int) (r : BitVec 64) (w : World) (h : TL w ab nb cb aa na ca be al) :
    Calls Try.prog 6 #[tv T ab nb cb aa na ca, .int .u64 (W64 c), .int .u64 (W64 u), .int .i64 j, .int .u64 (W64 r)] w fun e w' => e = .returned (.bool true) ∧ New w w' := by
  have hz : W64 0#64 = 0 := W64_lit 0 (by omega)
  have hn0 := (New.refl w).alloc (TB (.int .u64 (W64 T)) (.slice ab nb cb) (.slice aa na ca))
  have HTL : Hid (∀ w', New (w.alloc (TB (.int .u64 (W64 T)) (.slice ab nb cb) (.slice aa na ca))) w' → TL w' ab nb cb aa na ca be al) := Lib.hid (fun w' q => h.stay (hn0.trans q))
  have HBX : Hid (∀ w', New (w.alloc (TB (.int .u64 (W64 T)) (.slice ab nb cb) (.slice aa na ca))) w' → w'.heap[w.heap.size]? = some (TB (.int .u64 (W64 T)) (.slice ab nb cb) (.slice aa na ca))) := Lib.hid bx_stay
  obtain ⟨w0, hw0⟩ : ∃ w0, w.alloc (TB (.int .u64 (W64 T)) (.slice ab nb cb) (.slice aa na ca)) = w0 := ⟨_, rfl⟩
  have HN0 : Hid (New w0 w0) := Lib.hid (New.refl _)
  have HW := Lib.hid hw0
  have HNW : Hid (∀ w', New w0 w' → New w w') := Lib.hid (fun w' q => by rw [← hw0] at q; exact hn0.trans q)
  rw [hw0] at HTL HBX
  clear hn0 hw0
  by_cases hE : tE T be al = 0
  · have HE := Lib.hid hE
    obtain ⟨hn1, hn2, hna, hT0, hT1, hbb, hab⟩ := te_good hE
    have hlb := h.b.len_eq
    have hla := h.a.len_eq
    obtain rfl : na = nb := by omega
    have hW := w_of (n := na) (by omega)
    have HM : Hid (0 < na ∧ na ≤ 256) := Lib.hid (by omega)
    have hwq : ∀ i, jE T be al i = 0 → wtV T be al i = rwK T be al i na ∧ (rwK T be al i na).toNat = wnN T.toNat be al i na := fun i h0 => by
      rw [wt_ok h0, bf_weight (Int.le_refl _) hbb, hlb]
      exact ⟨rfl, rw_nat hT1 (by omega) (fun q hq => hbb q (by omega))⟩
    have hah : ∀ (x y : BitVec 64) (i : Int), x.toNat < na → y.toNat < T.toNat → (ahK T be al x.toNat y i na).toNat = rkN T.toNat be al i x.toNat y.toNat := fun x y i hx hy => by
      rw [ah_nat hT1 (by omega) (by omega), if_neg (by omega)]
    have HJ : Hid (((j < 0 ∨ ¬ j < 0 ∧ (na : Int) ≤ j) ∧ (∀ w', New w0 w' → Calls Try.prog 22 #[tv T ab na cb aa na ca, .int .i64 j, .int .u64 (W64 r)] w' fun e w2 => e = .returned (.tuple #[.int .u64 0, .int .u64 0, .int .i64 2]) ∧ New w' w2)) ∨ (¬ j < 0 ∧ ¬ (na : Int) ≤ j ∧ (rwK T be al j na).toNat ≤ r.toNat ∧ (∀ w', New w0 w' → Calls Try.prog 22 #[tv T ab na cb aa na ca, .int .i64 j, .int .u64 (W64 r)] w' fun e w2 => e = .returned (.tuple #[.int .u64 0, .int .u64 0, .int .i64 2]) ∧ New w' w2)) ∨ (¬ j < 0 ∧ ¬ (na : Int) ≤ j ∧ ¬ (rwK T be al j na).toNat ≤ r.toNat ∧ (∀ w', New w0 w' → Calls Try.prog 22 #[tv T ab na cb aa na ca, .int .i64 j, .int .u64 (W64 r)] w' fun e w2 => (∃ x y, e = .returned (.tuple #[.int .u64 (W64 x), .int .u64 (W64 y), .int .i64 0]) ∧ x.toNat < na ∧ y.toNat < T.toNat ∧ tlV be al x.toNat y = j ∧ ahK T be al x.toNat y j na = r) ∧ New w' w2))) := Lib.hid (by
      by_cases hj : j < 0 ∨ (be.length : Int) ≤ j
      · refine Or.inl ⟨by rw [hlb] at hj; omega, fun w' q => (pair_43 T ab na cb aa na ca be al j r w' (HTL.out w' q)).mono ?_⟩
        rintro e w2 ⟨x, y, e0, rfl, hp, n2⟩
        have h2 := je_out hE hj
        rcases hp with ⟨_, rfl, rfl, rfl⟩ | ⟨h3, _⟩ | ⟨h3, _⟩
        · rw [h2, hz]; exact ⟨rfl, n2⟩
        · rw [h2] at h3; cases h3
        · rw [h2] at h3; cases h3
      · have h0 := je_ok hE hj
        obtain ⟨e1, e2⟩ := hwq j h0
        by_cases hr : (rwK T be al j na).toNat ≤ r.toNat
        · refine Or.inr (Or.inl ⟨by omega, by omega, hr, fun w' q => (pair_43 T ab na cb aa na ca be al j r w' (HTL.out w' q)).mono ?_⟩)
          rintro e w2 ⟨x, y, e0, rfl, hp, n2⟩
          rcases hp with ⟨h3, _⟩ | ⟨_, _, rfl, rfl, rfl⟩ | ⟨_, h3, _⟩
          · exact absurd h0 h3
          · rw [hz]; exact ⟨rfl, n2⟩
          · rw [e1] at h3; omega
        · refine Or.inr (Or.inr ⟨by omega, by omega, hr, fun w' q => (pair_43 T ab na cb aa na ca be al j r w' (HTL.out w' q)).mono ?_⟩)
          rintro e w2 ⟨x, y, e0, rfl, hp, n2⟩
          rcases hp with ⟨h3, _⟩ | ⟨_, h3, _⟩ | ⟨_, _, rfl, hx, hy, ht, hk⟩
          · exact absurd h0 h3
          · rw [e1] at h3; omega
          · exact ⟨⟨x, y, rfl, by omega, hy, ht, BitVec.eq_of_toNat_eq (by rw [hah x y j (by omega) hy, hk])⟩, n2⟩)
    have HC : Hid ((c.toNat < na ∧ u.toNat < T.toNat ∧ ∃ i k, (∀ w', New w0 w' → Calls Try.prog 19 #[tv T ab na cb aa na ca, .int .u64 (W64 c), .int .u64 (W64 u)] w' fun e w2 => e = .returned (.tuple #[.int .i64 i, .int .u64 (W64 k), .int .i64 0]) ∧ New w' w2) ∧ (∀ w', New w0 w' → Calls Try.prog 22 #[tv T ab na cb aa na ca, .int .i64 i, .int .u64 (W64 k)] w' fun e w2 => e = .returned (.tuple #[.int .u64 (W64 c), .int .u64 (W64 u), .int .i64 0]) ∧ New w' w2)) ∨ (na ≤ c.toNat ∨ ¬ na ≤ c.toNat ∧ T.toNat ≤ u.toNat)) := Lib.hid (by
      by_cases hp : be.length ≤ c.toNat ∨ T.toNat ≤ u.toNat
      · refine Or.inr (by rw [hlb] at hp; omega)
      · have h0 := pe_ok hE hp
        have ht : tV T be al c.toNat u = tlV be al c.toNat u := by unfold tV; rw [if_pos h0]
        have hrk : rkV T be al c.toNat u = ahK T be al c.toNat u (tlV be al c.toNat u) na := by rw [rk_ok h0, ht, bf_ahead (by omega), hlb]
        refine Or.inl ⟨by omega, by omega, tlV be al c.toNat u, ahK T be al c.toNat u (tlV be al c.toNat u) na, fun w' q => ?_, fun w' q => (pair_43 T ab na cb aa na ca be al _ _ w' (HTL.out w' q)).mono ?_⟩
        · have := rank_43 T ab na cb aa na ca be al c u w' (HTL.out w' q)
          rw [ht, hrk, h0] at this
          exact this
        · rintro e w2 ⟨x, y, e0, rfl, hp2, n2⟩
          have hi : ¬ (tlV be al c.toNat u < 0 ∨ (be.length : Int) ≤ tlV be al c.toNat u) := by
            unfold tlV
            by_cases hb : u.toNat < (be.getD c.toNat 0).toNat
            · rw [if_pos hb]; omega
            · rw [if_neg hb]; have := hab c.toNat (by omega); omega
          have hj0 := je_ok hE hi
          obtain ⟨e1, e2⟩ := hwq _ hj0
          have e3 := hah c u (tlV be al c.toNat u) (by omega) (by omega)
          have e4 := rk_below (T := T.toNat) (n := na) (be := be) (al := al) (c := c.toNat) (u := u) (by omega) (by omega) rfl
          rcases hp2 with ⟨h3, _⟩ | ⟨_, h3, _⟩ | ⟨_, _, rfl, hx, hy, ht2, hk⟩
          · exact absurd hj0 h3
          · rw [e1] at h3; omega
          · rw [e3] at hk
            obtain ⟨q1, q2⟩ := rk_one (T := T.toNat) (u := u) (y := y) (by omega) hy rfl ht2 hk
            rw [show x = c from BitVec.eq_of_toNat_eq q1, q2]
            exact ⟨rfl, n2⟩)
    have HTA : Hid (∀ w', New w0 w' → Calls Try.prog 14 #[tv T ab na cb aa na ca] w' fun e w2 => e = .returned (.int .i64 0) ∧ New w' w2) := Lib.hid (fun w' q => by rw [← HE.out]; exact table_43 T ab na cb aa na ca be al w' (HTL.out w' q))
    have HWR : Hid (∀ w', New w0 w' → Calls Try.prog 16 #[tv T ab na cb aa na ca, .int .i64 j] w' fun e w2 => e = .returned (.int .u64 (W64 (rwK T be al j na))) ∧ New w' w2) := Lib.hid (fun w' q => weightr_43 T ab na cb aa ca be al j HM.out.1 w' (HTL.out w' q))
    have HTR : Hid (∀ x y : BitVec 64, x.toNat < na → tlV be al x.toNat y = j → ∀ w', New w0 w' → Calls Try.prog 20 #[tv T ab na cb aa na ca, .int .u64 (W64 x), .int .u64 (W64 y)] w' fun e w2 => e = .returned (.int .i64 j) ∧ New w' w2) := Lib.hid (fun x y hx ht w' q => by have := tellr_43 T ab na cb aa ca be al x y hx w' (HTL.out w' q); rw [ht] at this; exact this)
    have HAR : Hid (∀ x y : BitVec 64, ahK T be al x.toNat y j na = r → ∀ w', New w0 w' → Calls Try.prog 21 #[tv T ab na cb aa na ca, .int .u64 (W64 x), .int .u64 (W64 y), .int .i64 j] w' fun e w2 => e = .returned (.int .u64 (W64 r)) ∧ New w' w2) := Lib.hid (fun x y ha w' q => by have := aheadr_43 T ab na cb aa ca be al x y j HM.out.1 HM.out.2 w' (HTL.out w' q); rw [ha] at this; exact this)
    obtain ⟨rq, hrq⟩ : ∃ v, rwK T be al j na = v := ⟨_, rfl⟩
    rw [hrq] at HWR HJ
    clear hE hn1 hn2 hna hT0 hT1 hbb hab hlb hla h hwq hah hz hrq
    rcases HC.out with ⟨c1, c2, i, k, hrk, hpk⟩ | hc | ⟨hc, hc2⟩
    · have HRK := Lib.hid hrk
      have HPK := Lib.hid hpk
      have hd := decide_eq_true (show W64 c < (na : Int) by unfold W64; omega)
      have hd2 := decide_eq_true (show W64 u < W64 T by unfold W64; omega)
      clear c1 c2 hrk hpk HC
      rcases HJ.out with ⟨hj, hpj⟩ | ⟨j1, j2, hr, hpj⟩ | ⟨j1, j2, hr, hpj⟩
      · have HPJ := Lib.hid hpj
        clear hpj HJ
        rcases hj with hj | ⟨hj, hj2⟩
        · skip
          go_enter Try.func6, Try.ntmps6
          go_wp2_with fail
          rw [HW.out]
          refine (awake43 _).mono ?_
          rintro e w1 ⟨rfl, n1⟩
          have HN1 := Lib.hid (HN0.out.trans n1)
          clear n1
          have k0 := cell_of_row _ _ 0 _ _ _ (HBX.out w1 HN1.out)
          have k1 := cell_of_row _ _ 1 _ _ _ (HBX.out w1 HN1.out)
          have k2 := cell_of_row _ _ 2 _ _ _ (HBX.out w1 HN1.out)
          go_wp2_with fail
          refine (HTA.out _ HN1.out).mono ?_
          rintro e w2 ⟨rfl, n2⟩
          have HN2 := Lib.hid (HN1.out.trans n2)
          clear k0 k1 k2 n2
          have k0 := cell_of_row _ _ 0 _ _ _ (HBX.out w2 HN2.out)
          have k1 := cell_of_row _ _ 1 _ _ _ (HBX.out w2 HN2.out)
          have k2 := cell_of_row _ _ 2 _ _ _ (HBX.out w2 HN2.out)
          go_wp2_with fail
          refine (HRK.out _ HN2.out).mono ?_
          rintro e w3 ⟨rfl, n3⟩
          have HN3 := Lib.hid (HN2.out.trans n3)
          clear k0 k1 k2 n3
          have k0 := cell_of_row _ _ 0 _ _ _ (HBX.out w3 HN3.out)
          have k1 := cell_of_row _ _ 1 _ _ _ (HBX.out w3 HN3.out)
          have k2 := cell_of_row _ _ 2 _ _ _ (HBX.out w3 HN3.out)
          go_wp2_with fail
          refine (HPK.out _ HN3.out).mono ?_
          rintro e w4 ⟨rfl, n4⟩
          have HN4 := Lib.hid (HN3.out.trans n4)
          clear k0 k1 k2 n4
          have k0 := cell_of_row _ _ 0 _ _ _ (HBX.out w4 HN4.out)
          have k1 := cell_of_row _ _ 1 _ _ _ (HBX.out w4 HN4.out)
          have k2 := cell_of_row _ _ 2 _ _ _ (HBX.out w4 HN4.out)
          go_wp2_with fail
          refine (HPJ.out _ HN4.out).mono ?_
          rintro e w5 ⟨rfl, n5⟩
          have HN5 := Lib.hid (HN4.out.trans n5)
          clear k0 k1 k2 n5
          have k0 := cell_of_row _ _ 0 _ _ _ (HBX.out w5 HN5.out)
          have k1 := cell_of_row _ _ 1 _ _ _ (HBX.out w5 HN5.out)
          have k2 := cell_of_row _ _ 2 _ _ _ (HBX.out w5 HN5.out)
          go_wp2
          go_ret
          exact ⟨rfl, HNW.out _ HN5.out⟩
        · skip
          go_enter Try.func6, Try.ntmps6
          go_wp2_with fail
          rw [HW.out]
          refine (awake43 _).mono ?_
          rintro e w1 ⟨rfl, n1⟩
          have HN1 := Lib.hid (HN0.out.trans n1)
          clear n1
          have k0 := cell_of_row _ _ 0 _ _ _ (HBX.out w1 HN1.out)
          have k1 := cell_of_row _ _ 1 _ _ _ (HBX.out w1 HN1.out)
          have k2 := cell_of_row _ _ 2 _ _ _ (HBX.out w1 HN1.out)
          go_wp2_with fail
          refine (HTA.out _ HN1.out).mono ?_
          rintro e w2 ⟨rfl, n2⟩
          have HN2 := Lib.hid (HN1.out.trans n2)
          clear k0 k1 k2 n2
          have k0 := cell_of_row _ _ 0 _ _ _ (HBX.out w2 HN2.out)
          have k1 := cell_of_row _ _ 1 _ _ _ (HBX.out w2 HN2.out)
          have k2 := cell_of_row _ _ 2 _ _ _ (HBX.out w2 HN2.out)
          go_wp2_with fail
          refine (HRK.out _ HN2.out).mono ?_
          rintro e w3 ⟨rfl, n3⟩
          have HN3 := Lib.hid (HN2.out.trans n3)
          clear k0 k1 k2 n3
          have k0 := cell_of_row _ _ 0 _ _ _ (HBX.out w3 HN3.out)
          have k1 := cell_of_row _ _ 1 _ _ _ (HBX.out w3 HN3.out)
          have k2 := cell_of_row _ _ 2 _ _ _ (HBX.out w3 HN3.out)
          go_wp2_with fail
          refine (HPK.out _ HN3.out).mono ?_
          rintro e w4 ⟨rfl, n4⟩
          have HN4 := Lib.hid (HN3.out.trans n4)
          clear k0 k1 k2 n4
          have k0 := cell_of_row _ _ 0 _ _ _ (HBX.out w4 HN4.out)
          have k1 := cell_of_row _ _ 1 _ _ _ (HBX.out w4 HN4.out)
          have k2 := cell_of_row _ _ 2 _ _ _ (HBX.out w4 HN4.out)
          go_wp2_with fail
          refine (HPJ.out _ HN4.out).mono ?_
          rintro e w5 ⟨rfl, n5⟩
          have HN5 := Lib.hid (HN4.out.trans n5)
          clear k0 k1 k2 n5
          have k0 := cell_of_row _ _ 0 _ _ _ (HBX.out w5 HN5.out)
          have k1 := cell_of_row _ _ 1 _ _ _ (HBX.out w5 HN5.out)
          have k2 := cell_of_row _ _ 2 _ _ _ (HBX.out w5 HN5.out)
          go_wp2
          go_ret
          exact ⟨rfl, HNW.out _ HN5.out⟩
      · have HPJ := Lib.hid hpj
        have hq : decide (W64 rq ≤ W64 r) = true := by rw [dle]; exact decide_eq_true hr
        clear hpj HJ hr
        go_enter Try.func6, Try.ntmps6
        go_wp2_with fail
        rw [HW.out]
        refine (awake43 _).mono ?_
        rintro e w1 ⟨rfl, n1⟩
        have HN1 := Lib.hid (HN0.out.trans n1)
        clear n1
        have k0 := cell_of_row _ _ 0 _ _ _ (HBX.out w1 HN1.out)
        have k1 := cell_of_row _ _ 1 _ _ _ (HBX.out w1 HN1.out)
        have k2 := cell_of_row _ _ 2 _ _ _ (HBX.out w1 HN1.out)
        go_wp2_with fail
        refine (HTA.out _ HN1.out).mono ?_
        rintro e w2 ⟨rfl, n2⟩
        have HN2 := Lib.hid (HN1.out.trans n2)
        clear k0 k1 k2 n2
        have k0 := cell_of_row _ _ 0 _ _ _ (HBX.out w2 HN2.out)
        have k1 := cell_of_row _ _ 1 _ _ _ (HBX.out w2 HN2.out)
        have k2 := cell_of_row _ _ 2 _ _ _ (HBX.out w2 HN2.out)
        go_wp2_with fail
        refine (HRK.out _ HN2.out).mono ?_
        rintro e w3 ⟨rfl, n3⟩
        have HN3 := Lib.hid (HN2.out.trans n3)
        clear k0 k1 k2 n3
        have k0 := cell_of_row _ _ 0 _ _ _ (HBX.out w3 HN3.out)
        have k1 := cell_of_row _ _ 1 _ _ _ (HBX.out w3 HN3.out)
        have k2 := cell_of_row _ _ 2 _ _ _ (HBX.out w3 HN3.out)
        go_wp2_with fail
        refine (HPK.out _ HN3.out).mono ?_
        rintro e w4 ⟨rfl, n4⟩
        have HN4 := Lib.hid (HN3.out.trans n4)
        clear k0 k1 k2 n4
        have k0 := cell_of_row _ _ 0 _ _ _ (HBX.out w4 HN4.out)
        have k1 := cell_of_row _ _ 1 _ _ _ (HBX.out w4 HN4.out)
        have k2 := cell_of_row _ _ 2 _ _ _ (HBX.out w4 HN4.out)
        go_wp2_with fail
        refine (HPJ.out _ HN4.out).mono ?_
        rintro e w5 ⟨rfl, n5⟩
        have HN5 := Lib.hid (HN4.out.trans n5)
        clear k0 k1 k2 n5
        have k0 := cell_of_row _ _ 0 _ _ _ (HBX.out w5 HN5.out)
        have k1 := cell_of_row _ _ 1 _ _ _ (HBX.out w5 HN5.out)
        have k2 := cell_of_row _ _ 2 _ _ _ (HBX.out w5 HN5.out)
        go_wp2_with fail
        refine (HWR.out _ HN5.out).mono ?_
        rintro e w6 ⟨rfl, n6⟩
        have HN6 := Lib.hid (HN5.out.trans n6)
        clear k0 k1 k2 n6
        have k0 := cell_of_row _ _ 0 _ _ _ (HBX.out w6 HN6.out)
        have k1 := cell_of_row _ _ 1 _ _ _ (HBX.out w6 HN6.out)
        have k2 := cell_of_row _ _ 2 _ _ _ (HBX.out w6 HN6.out)
        go_wp2
        go_ret
        exact ⟨rfl, HNW.out _ HN6.out⟩
      · have HPJ := Lib.hid hpj
        have hq : decide (W64 rq ≤ W64 r) = false := by rw [dle]; exact decide_eq_false hr
        clear hpj HJ hr
        go_enter Try.func6, Try.ntmps6
        go_wp2_with fail
        rw [HW.out]
        refine (awake43 _).mono ?_
        rintro e w1 ⟨rfl, n1⟩
        have HN1 := Lib.hid (HN0.out.trans n1)
        clear n1
        have k0 := cell_of_row _ _ 0 _ _ _ (HBX.out w1 HN1.out)
        have k1 := cell_of_row _ _ 1 _ _ _ (HBX.out w1 HN1.out)
        have k2 := cell_of_row _ _ 2 _ _ _ (HBX.out w1 HN1.out)
        go_wp2_with fail
        refine (HTA.out _ HN1.out).mono ?_
        rintro e w2 ⟨rfl, n2⟩
        have HN2 := Lib.hid (HN1.out.trans n2)
        clear k0 k1 k2 n2
        have k0 := cell_of_row _ _ 0 _ _ _ (HBX.out w2 HN2.out)
        have k1 := cell_of_row _ _ 1 _ _ _ (HBX.out w2 HN2.out)
        have k2 := cell_of_row _ _ 2 _ _ _ (HBX.out w2 HN2.out)
        go_wp2_with fail
        refine (HRK.out _ HN2.out).mono ?_
        rintro e w3 ⟨rfl, n3⟩
        have HN3 := Lib.hid (HN2.out.trans n3)
        clear k0 k1 k2 n3
        have k0 := cell_of_row _ _ 0 _ _ _ (HBX.out w3 HN3.out)
        have k1 := cell_of_row _ _ 1 _ _ _ (HBX.out w3 HN3.out)
        have k2 := cell_of_row _ _ 2 _ _ _ (HBX.out w3 HN3.out)
        go_wp2_with fail
        refine (HPK.out _ HN3.out).mono ?_
        rintro e w4 ⟨rfl, n4⟩
        have HN4 := Lib.hid (HN3.out.trans n4)
        clear k0 k1 k2 n4
        have k0 := cell_of_row _ _ 0 _ _ _ (HBX.out w4 HN4.out)
        have k1 := cell_of_row _ _ 1 _ _ _ (HBX.out w4 HN4.out)
        have k2 := cell_of_row _ _ 2 _ _ _ (HBX.out w4 HN4.out)
        go_wp2_with fail
        refine (HPJ.out _ HN4.out).mono ?_
        rintro e w5 ⟨⟨x, y, rfl, hx, hy, hxy, hax⟩, n5⟩
        have HN5 := Lib.hid (HN4.out.trans n5)
        have hx1 := decide_eq_true (show W64 x < (na : Int) by unfold W64; omega)
        have hy1 := decide_eq_true (show W64 y < W64 T by unfold W64; omega)
        have HT3 := Lib.hid (HTR.out x y hx hxy)
        have HA3 := Lib.hid (HAR.out x y hax)
        clear hx hy hxy hax
        clear k0 k1 k2 n5
        have k0 := cell_of_row _ _ 0 _ _ _ (HBX.out w5 HN5.out)
        have k1 := cell_of_row _ _ 1 _ _ _ (HBX.out w5 HN5.out)
        have k2 := cell_of_row _ _ 2 _ _ _ (HBX.out w5 HN5.out)
        go_wp2_with fail
        refine (HWR.out _ HN5.out).mono ?_
        rintro e w6 ⟨rfl, n6⟩
        have HN6 := Lib.hid (HN5.out.trans n6)
        clear k0 k1 k2 n6
        have k0 := cell_of_row _ _ 0 _ _ _ (HBX.out w6 HN6.out)
        have k1 := cell_of_row _ _ 1 _ _ _ (HBX.out w6 HN6.out)
        have k2 := cell_of_row _ _ 2 _ _ _ (HBX.out w6 HN6.out)
        go_wp2_with fail
        refine (HT3.out _ HN6.out).mono ?_
        rintro e w7 ⟨rfl, n7⟩
        have HN7 := Lib.hid (HN6.out.trans n7)
        clear k0 k1 k2 n7
        have k0 := cell_of_row _ _ 0 _ _ _ (HBX.out w7 HN7.out)
        have k1 := cell_of_row _ _ 1 _ _ _ (HBX.out w7 HN7.out)
        have k2 := cell_of_row _ _ 2 _ _ _ (HBX.out w7 HN7.out)
        go_wp2_with fail
        refine (HA3.out _ HN7.out).mono ?_
        rintro e w8 ⟨rfl, n8⟩
        have HN8 := Lib.hid (HN7.out.trans n8)
        clear k0 k1 k2 n8
        have k0 := cell_of_row _ _ 0 _ _ _ (HBX.out w8 HN8.out)
        have k1 := cell_of_row _ _ 1 _ _ _ (HBX.out w8 HN8.out)
        have k2 := cell_of_row _ _ 2 _ _ _ (HBX.out w8 HN8.out)
        go_wp2
        go_ret
        exact ⟨rfl, HNW.out _ HN8.out⟩
    · have hd := decide_eq_false (show ¬ W64 c < (na : Int) by unfold W64; omega)
      clear hc HC
      rcases HJ.out with ⟨hj, hpj⟩ | ⟨j1, j2, hr, hpj⟩ | ⟨j1, j2, hr, hpj⟩
      · have HPJ := Lib.hid hpj
        clear hpj HJ
        rcases hj with hj | ⟨hj, hj2⟩
        · skip
          go_enter Try.func6, Try.ntmps6
          go_wp2_with fail
          rw [HW.out]
          refine (awake43 _).mono ?_
          rintro e w1 ⟨rfl, n1⟩
          have HN1 := Lib.hid (HN0.out.trans n1)
          clear n1
          have k0 := cell_of_row _ _ 0 _ _ _ (HBX.out w1 HN1.out)
          have k1 := cell_of_row _ _ 1 _ _ _ (HBX.out w1 HN1.out)
          have k2 := cell_of_row _ _ 2 _ _ _ (HBX.out w1 HN1.out)
          go_wp2_with fail
          refine (HTA.out _ HN1.out).mono ?_
          rintro e w2 ⟨rfl, n2⟩
          have HN2 := Lib.hid (HN1.out.trans n2)
          clear k0 k1 k2 n2
          have k0 := cell_of_row _ _ 0 _ _ _ (HBX.out w2 HN2.out)
          have k1 := cell_of_row _ _ 1 _ _ _ (HBX.out w2 HN2.out)
          have k2 := cell_of_row _ _ 2 _ _ _ (HBX.out w2 HN2.out)
          go_wp2_with fail
          refine (HPJ.out _ HN2.out).mono ?_
          rintro e w3 ⟨rfl, n3⟩
          have HN3 := Lib.hid (HN2.out.trans n3)
          clear k0 k1 k2 n3
          have k0 := cell_of_row _ _ 0 _ _ _ (HBX.out w3 HN3.out)
          have k1 := cell_of_row _ _ 1 _ _ _ (HBX.out w3 HN3.out)
          have k2 := cell_of_row _ _ 2 _ _ _ (HBX.out w3 HN3.out)
          go_wp2
          go_ret
          exact ⟨rfl, HNW.out _ HN3.out⟩
        · skip
          go_enter Try.func6, Try.ntmps6
          go_wp2_with fail
          rw [HW.out]
          refine (awake43 _).mono ?_
          rintro e w1 ⟨rfl, n1⟩
          have HN1 := Lib.hid (HN0.out.trans n1)
          clear n1
          have k0 := cell_of_row _ _ 0 _ _ _ (HBX.out w1 HN1.out)
          have k1 := cell_of_row _ _ 1 _ _ _ (HBX.out w1 HN1.out)
          have k2 := cell_of_row _ _ 2 _ _ _ (HBX.out w1 HN1.out)
          go_wp2_with fail
          refine (HTA.out _ HN1.out).mono ?_
          rintro e w2 ⟨rfl, n2⟩
          have HN2 := Lib.hid (HN1.out.trans n2)
          clear k0 k1 k2 n2
          have k0 := cell_of_row _ _ 0 _ _ _ (HBX.out w2 HN2.out)
          have k1 := cell_of_row _ _ 1 _ _ _ (HBX.out w2 HN2.out)
          have k2 := cell_of_row _ _ 2 _ _ _ (HBX.out w2 HN2.out)
          go_wp2_with fail
          refine (HPJ.out _ HN2.out).mono ?_
          rintro e w3 ⟨rfl, n3⟩
          have HN3 := Lib.hid (HN2.out.trans n3)
          clear k0 k1 k2 n3
          have k0 := cell_of_row _ _ 0 _ _ _ (HBX.out w3 HN3.out)
          have k1 := cell_of_row _ _ 1 _ _ _ (HBX.out w3 HN3.out)
          have k2 := cell_of_row _ _ 2 _ _ _ (HBX.out w3 HN3.out)
          go_wp2
          go_ret
          exact ⟨rfl, HNW.out _ HN3.out⟩
      · have HPJ := Lib.hid hpj
        have hq : decide (W64 rq ≤ W64 r) = true := by rw [dle]; exact decide_eq_true hr
        clear hpj HJ hr
        go_enter Try.func6, Try.ntmps6
        go_wp2_with fail
        rw [HW.out]
        refine (awake43 _).mono ?_
        rintro e w1 ⟨rfl, n1⟩
        have HN1 := Lib.hid (HN0.out.trans n1)
        clear n1
        have k0 := cell_of_row _ _ 0 _ _ _ (HBX.out w1 HN1.out)
        have k1 := cell_of_row _ _ 1 _ _ _ (HBX.out w1 HN1.out)
        have k2 := cell_of_row _ _ 2 _ _ _ (HBX.out w1 HN1.out)
        go_wp2_with fail
        refine (HTA.out _ HN1.out).mono ?_
        rintro e w2 ⟨rfl, n2⟩
        have HN2 := Lib.hid (HN1.out.trans n2)
        clear k0 k1 k2 n2
        have k0 := cell_of_row _ _ 0 _ _ _ (HBX.out w2 HN2.out)
        have k1 := cell_of_row _ _ 1 _ _ _ (HBX.out w2 HN2.out)
        have k2 := cell_of_row _ _ 2 _ _ _ (HBX.out w2 HN2.out)
        go_wp2_with fail
        refine (HPJ.out _ HN2.out).mono ?_
        rintro e w3 ⟨rfl, n3⟩
        have HN3 := Lib.hid (HN2.out.trans n3)
        clear k0 k1 k2 n3
        have k0 := cell_of_row _ _ 0 _ _ _ (HBX.out w3 HN3.out)
        have k1 := cell_of_row _ _ 1 _ _ _ (HBX.out w3 HN3.out)
        have k2 := cell_of_row _ _ 2 _ _ _ (HBX.out w3 HN3.out)
        go_wp2_with fail
        refine (HWR.out _ HN3.out).mono ?_
        rintro e w4 ⟨rfl, n4⟩
        have HN4 := Lib.hid (HN3.out.trans n4)
        clear k0 k1 k2 n4
        have k0 := cell_of_row _ _ 0 _ _ _ (HBX.out w4 HN4.out)
        have k1 := cell_of_row _ _ 1 _ _ _ (HBX.out w4 HN4.out)
        have k2 := cell_of_row _ _ 2 _ _ _ (HBX.out w4 HN4.out)
        go_wp2
        go_ret
        exact ⟨rfl, HNW.out _ HN4.out⟩
      · have HPJ := Lib.hid hpj
        have hq : decide (W64 rq ≤ W64 r) = false := by rw [dle]; exact decide_eq_false hr
        clear hpj HJ hr
        go_enter Try.func6, Try.ntmps6
        go_wp2_with fail
        rw [HW.out]
        refine (awake43 _).mono ?_
        rintro e w1 ⟨rfl, n1⟩
        have HN1 := Lib.hid (HN0.out.trans n1)
        clear n1
        have k0 := cell_of_row _ _ 0 _ _ _ (HBX.out w1 HN1.out)
        have k1 := cell_of_row _ _ 1 _ _ _ (HBX.out w1 HN1.out)
        have k2 := cell_of_row _ _ 2 _ _ _ (HBX.out w1 HN1.out)
        go_wp2_with fail
        refine (HTA.out _ HN1.out).mono ?_
        rintro e w2 ⟨rfl, n2⟩
        have HN2 := Lib.hid (HN1.out.trans n2)
        clear k0 k1 k2 n2
        have k0 := cell_of_row _ _ 0 _ _ _ (HBX.out w2 HN2.out)
        have k1 := cell_of_row _ _ 1 _ _ _ (HBX.out w2 HN2.out)
        have k2 := cell_of_row _ _ 2 _ _ _ (HBX.out w2 HN2.out)
        go_wp2_with fail
        refine (HPJ.out _ HN2.out).mono ?_
        rintro e w3 ⟨⟨x, y, rfl, hx, hy, hxy, hax⟩, n3⟩
        have HN3 := Lib.hid (HN2.out.trans n3)
        have hx1 := decide_eq_true (show W64 x < (na : Int) by unfold W64; omega)
        have hy1 := decide_eq_true (show W64 y < W64 T by unfold W64; omega)
        have HT3 := Lib.hid (HTR.out x y hx hxy)
        have HA3 := Lib.hid (HAR.out x y hax)
        clear hx hy hxy hax
        clear k0 k1 k2 n3
        have k0 := cell_of_row _ _ 0 _ _ _ (HBX.out w3 HN3.out)
        have k1 := cell_of_row _ _ 1 _ _ _ (HBX.out w3 HN3.out)
        have k2 := cell_of_row _ _ 2 _ _ _ (HBX.out w3 HN3.out)
        go_wp2_with fail
        refine (HWR.out _ HN3.out).mono ?_
        rintro e w4 ⟨rfl, n4⟩
        have HN4 := Lib.hid (HN3.out.trans n4)
        clear k0 k1 k2 n4
        have k0 := cell_of_row _ _ 0 _ _ _ (HBX.out w4 HN4.out)
        have k1 := cell_of_row _ _ 1 _ _ _ (HBX.out w4 HN4.out)
        have k2 := cell_of_row _ _ 2 _ _ _ (HBX.out w4 HN4.out)
        go_wp2_with fail
        refine (HT3.out _ HN4.out).mono ?_
        rintro e w5 ⟨rfl, n5⟩
        have HN5 := Lib.hid (HN4.out.trans n5)
        clear k0 k1 k2 n5
        have k0 := cell_of_row _ _ 0 _ _ _ (HBX.out w5 HN5.out)
        have k1 := cell_of_row _ _ 1 _ _ _ (HBX.out w5 HN5.out)
        have k2 := cell_of_row _ _ 2 _ _ _ (HBX.out w5 HN5.out)
        go_wp2_with fail
        refine (HA3.out _ HN5.out).mono ?_
        rintro e w6 ⟨rfl, n6⟩
        have HN6 := Lib.hid (HN5.out.trans n6)
        clear k0 k1 k2 n6
        have k0 := cell_of_row _ _ 0 _ _ _ (HBX.out w6 HN6.out)
        have k1 := cell_of_row _ _ 1 _ _ _ (HBX.out w6 HN6.out)
        have k2 := cell_of_row _ _ 2 _ _ _ (HBX.out w6 HN6.out)
        go_wp2
        go_ret
        exact ⟨rfl, HNW.out _ HN6.out⟩
    · have hd := decide_eq_true (show W64 c < (na : Int) by unfold W64; omega)
      have hd2 := decide_eq_false (show ¬ W64 u < W64 T by unfold W64; omega)
      clear hc hc2 HC
      rcases HJ.out with ⟨hj, hpj⟩ | ⟨j1, j2, hr, hpj⟩ | ⟨j1, j2, hr, hpj⟩
      · have HPJ := Lib.hid hpj
        clear hpj HJ
        rcases hj with hj | ⟨hj, hj2⟩
        · skip
          go_enter Try.func6, Try.ntmps6
          go_wp2_with fail
          rw [HW.out]
          refine (awake43 _).mono ?_
          rintro e w1 ⟨rfl, n1⟩
          have HN1 := Lib.hid (HN0.out.trans n1)
          clear n1
          have k0 := cell_of_row _ _ 0 _ _ _ (HBX.out w1 HN1.out)
          have k1 := cell_of_row _ _ 1 _ _ _ (HBX.out w1 HN1.out)
          have k2 := cell_of_row _ _ 2 _ _ _ (HBX.out w1 HN1.out)
          go_wp2_with fail
          refine (HTA.out _ HN1.out).mono ?_
          rintro e w2 ⟨rfl, n2⟩
          have HN2 := Lib.hid (HN1.out.trans n2)
          clear k0 k1 k2 n2
          have k0 := cell_of_row _ _ 0 _ _ _ (HBX.out w2 HN2.out)
          have k1 := cell_of_row _ _ 1 _ _ _ (HBX.out w2 HN2.out)
          have k2 := cell_of_row _ _ 2 _ _ _ (HBX.out w2 HN2.out)
          go_wp2_with fail
          refine (HPJ.out _ HN2.out).mono ?_
          rintro e w3 ⟨rfl, n3⟩
          have HN3 := Lib.hid (HN2.out.trans n3)
          clear k0 k1 k2 n3
          have k0 := cell_of_row _ _ 0 _ _ _ (HBX.out w3 HN3.out)
          have k1 := cell_of_row _ _ 1 _ _ _ (HBX.out w3 HN3.out)
          have k2 := cell_of_row _ _ 2 _ _ _ (HBX.out w3 HN3.out)
          go_wp2
          go_ret
          exact ⟨rfl, HNW.out _ HN3.out⟩
        · skip
          go_enter Try.func6, Try.ntmps6
          go_wp2_with fail
          rw [HW.out]
          refine (awake43 _).mono ?_
          rintro e w1 ⟨rfl, n1⟩
          have HN1 := Lib.hid (HN0.out.trans n1)
          clear n1
          have k0 := cell_of_row _ _ 0 _ _ _ (HBX.out w1 HN1.out)
          have k1 := cell_of_row _ _ 1 _ _ _ (HBX.out w1 HN1.out)
          have k2 := cell_of_row _ _ 2 _ _ _ (HBX.out w1 HN1.out)
          go_wp2_with fail
          refine (HTA.out _ HN1.out).mono ?_
          rintro e w2 ⟨rfl, n2⟩
          have HN2 := Lib.hid (HN1.out.trans n2)
          clear k0 k1 k2 n2
          have k0 := cell_of_row _ _ 0 _ _ _ (HBX.out w2 HN2.out)
          have k1 := cell_of_row _ _ 1 _ _ _ (HBX.out w2 HN2.out)
          have k2 := cell_of_row _ _ 2 _ _ _ (HBX.out w2 HN2.out)
          go_wp2_with fail
          refine (HPJ.out _ HN2.out).mono ?_
          rintro e w3 ⟨rfl, n3⟩
          have HN3 := Lib.hid (HN2.out.trans n3)
          clear k0 k1 k2 n3
          have k0 := cell_of_row _ _ 0 _ _ _ (HBX.out w3 HN3.out)
          have k1 := cell_of_row _ _ 1 _ _ _ (HBX.out w3 HN3.out)
          have k2 := cell_of_row _ _ 2 _ _ _ (HBX.out w3 HN3.out)
          go_wp2
          go_ret
          exact ⟨rfl, HNW.out _ HN3.out⟩
      · have HPJ := Lib.hid hpj
        have hq : decide (W64 rq ≤ W64 r) = true := by rw [dle]; exact decide_eq_true hr
        clear hpj HJ hr
        go_enter Try.func6, Try.ntmps6
        go_wp2_with fail
        rw [HW.out]
        refine (awake43 _).mono ?_
        rintro e w1 ⟨rfl, n1⟩
        have HN1 := Lib.hid (HN0.out.trans n1)
        clear n1
        have k0 := cell_of_row _ _ 0 _ _ _ (HBX.out w1 HN1.out)
        have k1 := cell_of_row _ _ 1 _ _ _ (HBX.out w1 HN1.out)
        have k2 := cell_of_row _ _ 2 _ _ _ (HBX.out w1 HN1.out)
        go_wp2_with fail
        refine (HTA.out _ HN1.out).mono ?_
        rintro e w2 ⟨rfl, n2⟩
        have HN2 := Lib.hid (HN1.out.trans n2)
        clear k0 k1 k2 n2
        have k0 := cell_of_row _ _ 0 _ _ _ (HBX.out w2 HN2.out)
        have k1 := cell_of_row _ _ 1 _ _ _ (HBX.out w2 HN2.out)
        have k2 := cell_of_row _ _ 2 _ _ _ (HBX.out w2 HN2.out)
        go_wp2_with fail
        refine (HPJ.out _ HN2.out).mono ?_
        rintro e w3 ⟨rfl, n3⟩
        have HN3 := Lib.hid (HN2.out.trans n3)
        clear k0 k1 k2 n3
        have k0 := cell_of_row _ _ 0 _ _ _ (HBX.out w3 HN3.out)
        have k1 := cell_of_row _ _ 1 _ _ _ (HBX.out w3 HN3.out)
        have k2 := cell_of_row _ _ 2 _ _ _ (HBX.out w3 HN3.out)
        go_wp2_with fail
        refine (HWR.out _ HN3.out).mono ?_
        rintro e w4 ⟨rfl, n4⟩
        have HN4 := Lib.hid (HN3.out.trans n4)
        clear k0 k1 k2 n4
        have k0 := cell_of_row _ _ 0 _ _ _ (HBX.out w4 HN4.out)
        have k1 := cell_of_row _ _ 1 _ _ _ (HBX.out w4 HN4.out)
        have k2 := cell_of_row _ _ 2 _ _ _ (HBX.out w4 HN4.out)
        go_wp2
        go_ret
        exact ⟨rfl, HNW.out _ HN4.out⟩
      · have HPJ := Lib.hid hpj
        have hq : decide (W64 rq ≤ W64 r) = false := by rw [dle]; exact decide_eq_false hr
        clear hpj HJ hr
        go_enter Try.func6, Try.ntmps6
        go_wp2_with fail
        rw [HW.out]
        refine (awake43 _).mono ?_
        rintro e w1 ⟨rfl, n1⟩
        have HN1 := Lib.hid (HN0.out.trans n1)
        clear n1
        have k0 := cell_of_row _ _ 0 _ _ _ (HBX.out w1 HN1.out)
        have k1 := cell_of_row _ _ 1 _ _ _ (HBX.out w1 HN1.out)
        have k2 := cell_of_row _ _ 2 _ _ _ (HBX.out w1 HN1.out)
        go_wp2_with fail
        refine (HTA.out _ HN1.out).mono ?_
        rintro e w2 ⟨rfl, n2⟩
        have HN2 := Lib.hid (HN1.out.trans n2)
        clear k0 k1 k2 n2
        have k0 := cell_of_row _ _ 0 _ _ _ (HBX.out w2 HN2.out)
        have k1 := cell_of_row _ _ 1 _ _ _ (HBX.out w2 HN2.out)
        have k2 := cell_of_row _ _ 2 _ _ _ (HBX.out w2 HN2.out)
        go_wp2_with fail
        refine (HPJ.out _ HN2.out).mono ?_
        rintro e w3 ⟨⟨x, y, rfl, hx, hy, hxy, hax⟩, n3⟩
        have HN3 := Lib.hid (HN2.out.trans n3)
        have hx1 := decide_eq_true (show W64 x < (na : Int) by unfold W64; omega)
        have hy1 := decide_eq_true (show W64 y < W64 T by unfold W64; omega)
        have HT3 := Lib.hid (HTR.out x y hx hxy)
        have HA3 := Lib.hid (HAR.out x y hax)
        clear hx hy hxy hax
        clear k0 k1 k2 n3
        have k0 := cell_of_row _ _ 0 _ _ _ (HBX.out w3 HN3.out)
        have k1 := cell_of_row _ _ 1 _ _ _ (HBX.out w3 HN3.out)
        have k2 := cell_of_row _ _ 2 _ _ _ (HBX.out w3 HN3.out)
        go_wp2_with fail
        refine (HWR.out _ HN3.out).mono ?_
        rintro e w4 ⟨rfl, n4⟩
        have HN4 := Lib.hid (HN3.out.trans n4)
        clear k0 k1 k2 n4
        have k0 := cell_of_row _ _ 0 _ _ _ (HBX.out w4 HN4.out)
        have k1 := cell_of_row _ _ 1 _ _ _ (HBX.out w4 HN4.out)
        have k2 := cell_of_row _ _ 2 _ _ _ (HBX.out w4 HN4.out)
        go_wp2_with fail
        refine (HT3.out _ HN4.out).mono ?_
        rintro e w5 ⟨rfl, n5⟩
        have HN5 := Lib.hid (HN4.out.trans n5)
        clear k0 k1 k2 n5
        have k0 := cell_of_row _ _ 0 _ _ _ (HBX.out w5 HN5.out)
        have k1 := cell_of_row _ _ 1 _ _ _ (HBX.out w5 HN5.out)
        have k2 := cell_of_row _ _ 2 _ _ _ (HBX.out w5 HN5.out)
        go_wp2_with fail
        refine (HA3.out _ HN5.out).mono ?_
        rintro e w6 ⟨rfl, n6⟩
        have HN6 := Lib.hid (HN5.out.trans n6)
        clear k0 k1 k2 n6
        have k0 := cell_of_row _ _ 0 _ _ _ (HBX.out w6 HN6.out)
        have k1 := cell_of_row _ _ 1 _ _ _ (HBX.out w6 HN6.out)
        have k2 := cell_of_row _ _ 2 _ _ _ (HBX.out w6 HN6.out)
        go_wp2
        go_ret
        exact ⟨rfl, HNW.out _ HN6.out⟩
  · have HZ := Lib.hid hz
    have hje := je_bad (j := j) hE
    obtain ⟨z, hzz⟩ : ∃ z, tE T be al = z := ⟨_, rfl⟩
    have HTA : Hid (∀ w', New w0 w' → Calls Try.prog 14 #[tv T ab nb cb aa na ca] w' fun e w2 => e = .returned (.int .i64 z) ∧ New w' w2) := Lib.hid (fun w' q => by rw [← hzz]; exact table_43 T ab nb cb aa na ca be al w' (HTL.out w' q))
    have HPJ : Hid (∀ w', New w0 w' → Calls Try.prog 22 #[tv T ab nb cb aa na ca, .int .i64 j, .int .u64 (W64 r)] w' fun e w2 => e = .returned (.tuple #[.int .u64 0, .int .u64 0, .int .i64 z]) ∧ New w' w2) := Lib.hid (fun w' q => (pair_43 T ab nb cb aa na ca be al j r w' (HTL.out w' q)).mono (by
      rintro e w2 ⟨x, y, e0, rfl, hp, n2⟩
      rcases hp with ⟨_, rfl, rfl, rfl⟩ | ⟨h3, _⟩ | ⟨h3, _⟩
      · rw [hje, hzz, HZ.out]; exact ⟨rfl, n2⟩
      · rw [hje] at h3; exact absurd h3 hE
      · rw [hje] at h3; exact absurd h3 hE))
    have hb : (z != 0) = true := by rw [bne_iff_ne, ← hzz]; exact hE
    clear h hE hz hzz hje
    go_enter Try.func6, Try.ntmps6
    go_wp2_with fail
    rw [HW.out]
    refine (awake43 _).mono ?_
    rintro e w1 ⟨rfl, n1⟩
    have HN1 := Lib.hid (HN0.out.trans n1)
    clear n1
    have k0 := cell_of_row _ _ 0 _ _ _ (HBX.out w1 HN1.out)
    have k1 := cell_of_row _ _ 1 _ _ _ (HBX.out w1 HN1.out)
    have k2 := cell_of_row _ _ 2 _ _ _ (HBX.out w1 HN1.out)
    go_wp2_with fail
    refine (HTA.out _ HN1.out).mono ?_
    rintro e w2 ⟨rfl, n2⟩
    have HN2 := Lib.hid (HN1.out.trans n2)
    clear k0 k1 k2 n2
    have k0 := cell_of_row _ _ 0 _ _ _ (HBX.out w2 HN2.out)
    have k1 := cell_of_row _ _ 1 _ _ _ (HBX.out w2 HN2.out)
    have k2 := cell_of_row _ _ 2 _ _ _ (HBX.out w2 HN2.out)
    go_wp2_with fail
    refine (HPJ.out _ HN2.out).mono ?_
    rintro e w3 ⟨rfl, n3⟩
    have HN3 := Lib.hid (HN2.out.trans n3)
    clear k0 k1 k2 n3
    have k0 := cell_of_row _ _ 0 _ _ _ (HBX.out w3 HN3.out)
    have k1 := cell_of_row _ _ 1 _ _ _ (HBX.out w3 HN3.out)
    have k2 := cell_of_row _ _ 2 _ _ _ (HBX.out w3 HN3.out)
    go_wp2_with fail
    refine (HTA.out _ HN3.out).mono ?_
    rintro e w4 ⟨rfl, n4⟩
    have HN4 := Lib.hid (HN3.out.trans n4)
    clear k0 k1 k2 n4
    have k0 := cell_of_row _ _ 0 _ _ _ (HBX.out w4 HN4.out)
    have k1 := cell_of_row _ _ 1 _ _ _ (HBX.out w4 HN4.out)
    have k2 := cell_of_row _ _ 2 _ _ _ (HBX.out w4 HN4.out)
    go_wp2
    go_ret
    exact ⟨rfl, HNW.out _ HN4.out⟩
theorem AliasPairs_walk (W : World) (T0 : BitVec 64) (b0 : Option Addr) (nb0 mb0 : Nat) (a0 : Option Addr) (na0 ma0 : Nat) (be0 : List (BitVec 64)) (al0 : List Int) (w0 : TL W b0 nb0 mb0 a0 na0 ma0 be0 al0) (a1 : Int) (w1 : (Lit.int .u64 a1).wf = true) (a2 : Int) (w2 : (Lit.int .u64 a2).wf = true) (a3 : Int) (w3 : (Lit.int .i64 a3).wf = true) (a4 : Int) (w4 : (Lit.int .u64 a4).wf = true) :
    Calls Try.prog 6 #[.agg #[.int .u64 (W64 T0), .slice b0 nb0 mb0, .slice a0 na0 ma0], .int .u64 a1, .int .u64 a2, .int .i64 a3, .int .u64 a4] W fun e w' => e = .returned (.bool true) ∧ Below W.heap.size W w' := by
  obtain ⟨c, rfl⟩ := wf64 w1
  obtain ⟨u, rfl⟩ := wf64 w2
  obtain ⟨r, rfl⟩ := wf64 w4
  exact pairs_43 T0 b0 nb0 mb0 a0 na0 ma0 be0 al0 c u a3 r W w0
end Go.Proofs.Ytbjclkjikclljaa
