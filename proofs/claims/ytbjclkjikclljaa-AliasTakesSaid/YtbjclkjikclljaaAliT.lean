/- Layer 43: AliasTells. -/
import Derived.Test.YtbjclkjikclljaaAliL
namespace Go.Proofs.Ytbjclkjikclljaa
open Go Go.RowKit Go.Bv Go.Ali
set_option linter.unusedVariables false
set_option maxRecDepth 100000
/-- a table in a box, wherever we have come -/
theorem bx_stay {w : World} {o : Obj} : ∀ w', New (w.alloc o) w' → w'.heap[w.heap.size]? = some o := fun w' h => blk_stay (heap_alloc_new w o) h
set_option maxHeartbeats 16000000 in
theorem tells_43 (T : BitVec 64) (ab : Option Addr) (nb cb : Nat) (aa : Option Addr) (na ca : Nat) (be : List (BitVec 64)) (al : List Int) (c u : BitVec 64) (j : Int) (w : World) (h : TL w ab nb cb aa na ca be al) :
    Calls Try.prog 5 #[tv T ab nb cb aa na ca, .int .u64 (W64 c), .int .u64 (W64 u), .int .i64 j] w fun e w' => e = .returned (.bool true) ∧ New w w' := by
  have hz : W64 0#64 = 0 := W64_lit 0 (by omega)
  have hn0 := (New.refl w).alloc (TB (.int .u64 (W64 T)) (.slice ab nb cb) (.slice aa na ca))
  have HX := Lib.hid hn0
  have HTL : Hid (∀ w', New (w.alloc (TB (.int .u64 (W64 T)) (.slice ab nb cb) (.slice aa na ca))) w' → TL w' ab nb cb aa na ca be al) := Lib.hid (fun w' q => h.stay (hn0.trans q))
  have HBX : Hid (∀ w', New (w.alloc (TB (.int .u64 (W64 T)) (.slice ab nb cb) (.slice aa na ca))) w' → w'.heap[w.heap.size]? = some (TB (.int .u64 (W64 T)) (.slice ab nb cb) (.slice aa na ca))) := Lib.hid bx_stay
  obtain ⟨w0, hw0⟩ : ∃ w0, w.alloc (TB (.int .u64 (W64 T)) (.slice ab nb cb) (.slice aa na ca)) = w0 := ⟨_, rfl⟩
  have HN0 : Hid (New w0 w0) := Lib.hid (New.refl _)
  have HW := Lib.hid hw0
  have HNW : Hid (∀ w', New w0 w' → New w w') := Lib.hid (fun w' q => by rw [← hw0] at q; exact hn0.trans q)
  rw [hw0] at HTL HBX
  clear hn0 hw0 HX
  by_cases hE : tE T be al = 0
  · have HE := Lib.hid hE
    obtain ⟨hn1, hn2, hna, hT0, hT1, hbb, hab⟩ := te_good hE
    have hlb := h.b.len_eq
    have hla := h.a.len_eq
    obtain rfl : na = nb := by omega
    have hW := w_of (n := na) (by omega)
    have HM : Hid (0 < na ∧ na ≤ 256) := Lib.hid (by omega)
    have HJ : Hid ((¬ j < 0 ∧ ¬ (na : Int) ≤ j ∧ jE T be al j = 0 ∧ wtV T be al j = rwK T be al j na) ∨ (jE T be al j = 2 ∧ wtV T be al j = 0#64 ∧ (j < 0 ∨ ¬ j < 0 ∧ (na : Int) ≤ j))) := Lib.hid (by
      by_cases hj : j < 0 ∨ (be.length : Int) ≤ j
      · refine Or.inr ⟨je_out hE hj, wt_no (by rw [je_out hE hj]; decide), by rw [hlb] at hj; omega⟩
      · have h0 := je_ok hE hj
        refine Or.inl ⟨by omega, by omega, h0, ?_⟩
        rw [wt_ok h0, bf_weight (by omega) hbb, hlb])
    have HP : Hid ((c.toNat < na ∧ u.toNat < T.toNat ∧ pE T be al c.toNat u = 0 ∧ tV T be al c.toNat u = tlV be al c.toNat u ∧ rkV T be al c.toNat u = ahK T be al c.toNat u (tlV be al c.toNat u) na) ∨ (pE T be al c.toNat u = 2 ∧ tV T be al c.toNat u = 0 ∧ rkV T be al c.toNat u = 0#64 ∧ (na ≤ c.toNat ∨ ¬ na ≤ c.toNat ∧ T.toNat ≤ u.toNat))) := Lib.hid (by
      by_cases hp : be.length ≤ c.toNat ∨ T.toNat ≤ u.toNat
      · have h2 := pe_out hE hp
        refine Or.inr ⟨h2, tv_no (by rw [h2]; decide), rk_no (by rw [h2]; decide), by rw [hlb] at hp; omega⟩
      · have h0 := pe_ok hE hp
        have ht : tV T be al c.toNat u = tlV be al c.toNat u := by unfold tV; rw [if_pos h0]
        refine Or.inl ⟨by omega, by omega, h0, ht, ?_⟩
        rw [rk_ok h0, ht, bf_ahead (by omega), hlb])
    obtain ⟨jv, hjv⟩ : ∃ v, jE T be al j = v := ⟨_, rfl⟩
    obtain ⟨wv, hwv⟩ : ∃ v, wtV T be al j = v := ⟨_, rfl⟩
    obtain ⟨pv, hpv⟩ : ∃ v, pE T be al c.toNat u = v := ⟨_, rfl⟩
    obtain ⟨tv', htv⟩ : ∃ v, tV T be al c.toNat u = v := ⟨_, rfl⟩
    obtain ⟨rv, hrv⟩ : ∃ v, rkV T be al c.toNat u = v := ⟨_, rfl⟩
    have HTE : Hid (∀ w', New w0 w' → Calls Try.prog 18 #[tv T ab na cb aa na ca, .int .u64 (W64 c), .int .u64 (W64 u)] w' fun e w2 => e = .returned (.tuple #[.int .i64 tv', .int .i64 pv]) ∧ New w' w2) := Lib.hid (fun w' q => by rw [← htv, ← hpv]; exact tell_43 T ab na cb aa na ca be al c u w' (HTL.out w' q))
    have HRA : Hid (∀ w', New w0 w' → Calls Try.prog 19 #[tv T ab na cb aa na ca, .int .u64 (W64 c), .int .u64 (W64 u)] w' fun e w2 => e = .returned (.tuple #[.int .i64 tv', .int .u64 (W64 rv), .int .i64 pv]) ∧ New w' w2) := Lib.hid (fun w' q => by rw [← htv, ← hpv, ← hrv]; exact rank_43 T ab na cb aa na ca be al c u w' (HTL.out w' q))
    have HWE : Hid (∀ w', New w0 w' → Calls Try.prog 15 #[tv T ab na cb aa na ca, .int .i64 j] w' fun e w2 => e = .returned (.tuple #[.int .u64 (W64 wv), .int .i64 jv]) ∧ New w' w2) := Lib.hid (fun w' q => by rw [← hwv, ← hjv]; exact weight_43 T ab na cb aa na ca be al j w' (HTL.out w' q))
    have HTA : Hid (∀ w', New w0 w' → Calls Try.prog 14 #[tv T ab na cb aa na ca] w' fun e w2 => e = .returned (.int .i64 0) ∧ New w' w2) := Lib.hid (fun w' q => by rw [← HE.out]; exact table_43 T ab na cb aa na ca be al w' (HTL.out w' q))
    rw [hjv, hwv] at HJ
    rw [hpv, htv, hrv] at HP
    obtain ⟨tl, htl⟩ : ∃ v, tlV be al c.toNat u = v := ⟨_, rfl⟩
    obtain ⟨rw', hrw⟩ : ∃ v, rwK T be al j na = v := ⟨_, rfl⟩
    obtain ⟨ah, hah⟩ : ∃ v, ahK T be al c.toNat u tl na = v := ⟨_, rfl⟩
    rw [htl, hah] at HP
    rw [hrw] at HJ
    have HWR : Hid (∀ w', New w0 w' → Calls Try.prog 16 #[tv T ab na cb aa na ca, .int .i64 j] w' fun e w2 => e = .returned (.int .u64 (W64 rw')) ∧ New w' w2) := Lib.hid (fun w' q => by rw [← hrw]; exact weightr_43 T ab na cb aa ca be al j HM.out.1 w' (HTL.out w' q))
    have HTR : Hid (c.toNat < na → ∀ w', New w0 w' → Calls Try.prog 20 #[tv T ab na cb aa na ca, .int .u64 (W64 c), .int .u64 (W64 u)] w' fun e w2 => e = .returned (.int .i64 tl) ∧ New w' w2) := Lib.hid (fun hc w' q => by rw [← htl]; exact tellr_43 T ab na cb aa ca be al c u hc w' (HTL.out w' q))
    have HAR : Hid (∀ w', New w0 w' → Calls Try.prog 21 #[tv T ab na cb aa na ca, .int .u64 (W64 c), .int .u64 (W64 u), .int .i64 tl] w' fun e w2 => e = .returned (.int .u64 (W64 ah)) ∧ New w' w2) := Lib.hid (fun w' q => by rw [← hah]; exact aheadr_43 T ab na cb aa ca be al c u tl HM.out.1 HM.out.2 w' (HTL.out w' q))
    have HZ := Lib.hid hz
    clear hE hn1 hn2 hna hT0 hT1 hbb hab hlb hla h hjv hwv hpv htv hrv htl hrw hah hz
    rcases HJ.out with ⟨j1, j2, rfl, rfl⟩ | ⟨rfl, rfl, hj⟩
    · skip
      clear HJ
      rcases HP.out with ⟨p1, p2, rfl, rfl, rfl⟩ | ⟨rfl, rfl, rfl, hp⟩
      · have HC := Lib.hid p1
        have hd := decide_eq_false (show ¬ (na : Int) ≤ W64 c by unfold W64; omega)
        have hd2 := decide_eq_false (show ¬ W64 T ≤ W64 u by unfold W64; omega)
        clear p1 p2 HP
        go_enter Try.func5, Try.ntmps5
        go_wp2_with fail
        rw [HW.out]
        refine (awake43 _).mono ?_
        rintro e w1 ⟨rfl, n1⟩
        have HN1 := Lib.hid (HN0.out.trans n1)
        clear n1
        have k0 := cell_of_row _ _ 0 _ _ _ (HBX.out w1 HN1.out)
        have k1 := cell_of_row _ _ 1 _ _ _ (HBX.out w1 HN1.out)
        have k2 := cell_of_row _ _ 2 _ _ _ (HBX.out w1 HN1.out)
        go_wp2_with fail
        refine (HTE.out _ HN1.out).mono ?_
        rintro e w2 ⟨rfl, n2⟩
        have HN2 := Lib.hid (HN1.out.trans n2)
        clear k0 k1 k2 n2
        have k0 := cell_of_row _ _ 0 _ _ _ (HBX.out w2 HN2.out)
        have k1 := cell_of_row _ _ 1 _ _ _ (HBX.out w2 HN2.out)
        have k2 := cell_of_row _ _ 2 _ _ _ (HBX.out w2 HN2.out)
        go_wp2_with fail
        refine (HRA.out _ HN2.out).mono ?_
        rintro e w3 ⟨rfl, n3⟩
        have HN3 := Lib.hid (HN2.out.trans n3)
        clear k0 k1 k2 n3
        have k0 := cell_of_row _ _ 0 _ _ _ (HBX.out w3 HN3.out)
        have k1 := cell_of_row _ _ 1 _ _ _ (HBX.out w3 HN3.out)
        have k2 := cell_of_row _ _ 2 _ _ _ (HBX.out w3 HN3.out)
        go_wp2_with fail
        refine (HWE.out _ HN3.out).mono ?_
        rintro e w4 ⟨rfl, n4⟩
        have HN4 := Lib.hid (HN3.out.trans n4)
        clear k0 k1 k2 n4
        have k0 := cell_of_row _ _ 0 _ _ _ (HBX.out w4 HN4.out)
        have k1 := cell_of_row _ _ 1 _ _ _ (HBX.out w4 HN4.out)
        have k2 := cell_of_row _ _ 2 _ _ _ (HBX.out w4 HN4.out)
        go_wp2_with fail
        refine (HTA.out _ HN4.out).mono ?_
        rintro e w5 ⟨rfl, n5⟩
        have HN5 := Lib.hid (HN4.out.trans n5)
        clear k0 k1 k2 n5
        have k0 := cell_of_row _ _ 0 _ _ _ (HBX.out w5 HN5.out)
        have k1 := cell_of_row _ _ 1 _ _ _ (HBX.out w5 HN5.out)
        have k2 := cell_of_row _ _ 2 _ _ _ (HBX.out w5 HN5.out)
        go_wp2_with fail
        refine (HWR.out _ HN5.out).mono ?_
        rintro e w6 ⟨rfl, n6⟩
        have HN6 := Lib.hid (HN5.out.trans n6)
        clear k0 k1 k2 n6
        have k0 := cell_of_row _ _ 0 _ _ _ (HBX.out w6 HN6.out)
        have k1 := cell_of_row _ _ 1 _ _ _ (HBX.out w6 HN6.out)
        have k2 := cell_of_row _ _ 2 _ _ _ (HBX.out w6 HN6.out)
        go_wp2_with fail
        refine (HTR.out HC.out _ HN6.out).mono ?_
        rintro e w7 ⟨rfl, n7⟩
        have HN7 := Lib.hid (HN6.out.trans n7)
        clear k0 k1 k2 n7
        have k0 := cell_of_row _ _ 0 _ _ _ (HBX.out w7 HN7.out)
        have k1 := cell_of_row _ _ 1 _ _ _ (HBX.out w7 HN7.out)
        have k2 := cell_of_row _ _ 2 _ _ _ (HBX.out w7 HN7.out)
        go_wp2_with fail
        refine (HAR.out _ HN7.out).mono ?_
        rintro e w8 ⟨rfl, n8⟩
        have HN8 := Lib.hid (HN7.out.trans n8)
        clear k0 k1 k2 n8
        have k0 := cell_of_row _ _ 0 _ _ _ (HBX.out w8 HN8.out)
        have k1 := cell_of_row _ _ 1 _ _ _ (HBX.out w8 HN8.out)
        have k2 := cell_of_row _ _ 2 _ _ _ (HBX.out w8 HN8.out)
        go_wp2
        go_ret
        exact ⟨rfl, HNW.out _ HN8.out⟩
      · clear HP
        rw [HZ.out] at HRA
        rcases hp with hp | ⟨hp, hp2⟩
        · have hd := decide_eq_true (show (na : Int) ≤ W64 c by unfold W64; omega)
          clear hp
          go_enter Try.func5, Try.ntmps5
          go_wp2_with fail
          rw [HW.out]
          refine (awake43 _).mono ?_
          rintro e w1 ⟨rfl, n1⟩
          have HN1 := Lib.hid (HN0.out.trans n1)
          clear n1
          have k0 := cell_of_row _ _ 0 _ _ _ (HBX.out w1 HN1.out)
          have k1 := cell_of_row _ _ 1 _ _ _ (HBX.out w1 HN1.out)
          have k2 := cell_of_row _ _ 2 _ _ _ (HBX.out w1 HN1.out)
          go_wp2_with fail
          refine (HTE.out _ HN1.out).mono ?_
          rintro e w2 ⟨rfl, n2⟩
          have HN2 := Lib.hid (HN1.out.trans n2)
          clear k0 k1 k2 n2
          have k0 := cell_of_row _ _ 0 _ _ _ (HBX.out w2 HN2.out)
          have k1 := cell_of_row _ _ 1 _ _ _ (HBX.out w2 HN2.out)
          have k2 := cell_of_row _ _ 2 _ _ _ (HBX.out w2 HN2.out)
          go_wp2_with fail
          refine (HRA.out _ HN2.out).mono ?_
          rintro e w3 ⟨rfl, n3⟩
          have HN3 := Lib.hid (HN2.out.trans n3)
          clear k0 k1 k2 n3
          have k0 := cell_of_row _ _ 0 _ _ _ (HBX.out w3 HN3.out)
          have k1 := cell_of_row _ _ 1 _ _ _ (HBX.out w3 HN3.out)
          have k2 := cell_of_row _ _ 2 _ _ _ (HBX.out w3 HN3.out)
          go_wp2_with fail
          refine (HWE.out _ HN3.out).mono ?_
          rintro e w4 ⟨rfl, n4⟩
          have HN4 := Lib.hid (HN3.out.trans n4)
          clear k0 k1 k2 n4
          have k0 := cell_of_row _ _ 0 _ _ _ (HBX.out w4 HN4.out)
          have k1 := cell_of_row _ _ 1 _ _ _ (HBX.out w4 HN4.out)
          have k2 := cell_of_row _ _ 2 _ _ _ (HBX.out w4 HN4.out)
          go_wp2_with fail
          refine (HTA.out _ HN4.out).mono ?_
          rintro e w5 ⟨rfl, n5⟩
          have HN5 := Lib.hid (HN4.out.trans n5)
          clear k0 k1 k2 n5
          have k0 := cell_of_row _ _ 0 _ _ _ (HBX.out w5 HN5.out)
          have k1 := cell_of_row _ _ 1 _ _ _ (HBX.out w5 HN5.out)
          have k2 := cell_of_row _ _ 2 _ _ _ (HBX.out w5 HN5.out)
          go_wp2_with fail
          refine (HWR.out _ HN5.out).mono ?_
          rintro e w6 ⟨rfl, n6⟩
          have HN6 := Lib.hid (HN5.out.trans n6)
          clear k0 k1 k2 n6
          have k0 := cell_of_row _ _ 0 _ _ _ (HBX.out w6 HN6.out)
          have k1 := cell_of_row _ _ 1 _ _ _ (HBX.out w6 HN6.out)
          have k2 := cell_of_row _ _ 2 _ _ _ (HBX.out w6 HN6.out)
          go_wp2
          go_ret
          exact ⟨rfl, HNW.out _ HN6.out⟩
        · have hd := decide_eq_false (show ¬ (na : Int) ≤ W64 c by unfold W64; omega)
          have hd2 := decide_eq_true (show W64 T ≤ W64 u by unfold W64; omega)
          clear hp hp2
          go_enter Try.func5, Try.ntmps5
          go_wp2_with fail
          rw [HW.out]
          refine (awake43 _).mono ?_
          rintro e w1 ⟨rfl, n1⟩
          have HN1 := Lib.hid (HN0.out.trans n1)
          clear n1
          have k0 := cell_of_row _ _ 0 _ _ _ (HBX.out w1 HN1.out)
          have k1 := cell_of_row _ _ 1 _ _ _ (HBX.out w1 HN1.out)
          have k2 := cell_of_row _ _ 2 _ _ _ (HBX.out w1 HN1.out)
          go_wp2_with fail
          refine (HTE.out _ HN1.out).mono ?_
          rintro e w2 ⟨rfl, n2⟩
          have HN2 := Lib.hid (HN1.out.trans n2)
          clear k0 k1 k2 n2
          have k0 := cell_of_row _ _ 0 _ _ _ (HBX.out w2 HN2.out)
          have k1 := cell_of_row _ _ 1 _ _ _ (HBX.out w2 HN2.out)
          have k2 := cell_of_row _ _ 2 _ _ _ (HBX.out w2 HN2.out)
          go_wp2_with fail
          refine (HRA.out _ HN2.out).mono ?_
          rintro e w3 ⟨rfl, n3⟩
          have HN3 := Lib.hid (HN2.out.trans n3)
          clear k0 k1 k2 n3
          have k0 := cell_of_row _ _ 0 _ _ _ (HBX.out w3 HN3.out)
          have k1 := cell_of_row _ _ 1 _ _ _ (HBX.out w3 HN3.out)
          have k2 := cell_of_row _ _ 2 _ _ _ (HBX.out w3 HN3.out)
          go_wp2_with fail
          refine (HWE.out _ HN3.out).mono ?_
          rintro e w4 ⟨rfl, n4⟩
          have HN4 := Lib.hid (HN3.out.trans n4)
          clear k0 k1 k2 n4
          have k0 := cell_of_row _ _ 0 _ _ _ (HBX.out w4 HN4.out)
          have k1 := cell_of_row _ _ 1 _ _ _ (HBX.out w4 HN4.out)
          have k2 := cell_of_row _ _ 2 _ _ _ (HBX.out w4 HN4.out)
          go_wp2_with fail
          refine (HTA.out _ HN4.out).mono ?_
          rintro e w5 ⟨rfl, n5⟩
          have HN5 := Lib.hid (HN4.out.trans n5)
          clear k0 k1 k2 n5
          have k0 := cell_of_row _ _ 0 _ _ _ (HBX.out w5 HN5.out)
          have k1 := cell_of_row _ _ 1 _ _ _ (HBX.out w5 HN5.out)
          have k2 := cell_of_row _ _ 2 _ _ _ (HBX.out w5 HN5.out)
          go_wp2_with fail
          refine (HWR.out _ HN5.out).mono ?_
          rintro e w6 ⟨rfl, n6⟩
          have HN6 := Lib.hid (HN5.out.trans n6)
          clear k0 k1 k2 n6
          have k0 := cell_of_row _ _ 0 _ _ _ (HBX.out w6 HN6.out)
          have k1 := cell_of_row _ _ 1 _ _ _ (HBX.out w6 HN6.out)
          have k2 := cell_of_row _ _ 2 _ _ _ (HBX.out w6 HN6.out)
          go_wp2
          go_ret
          exact ⟨rfl, HNW.out _ HN6.out⟩
    · rw [HZ.out] at HWE
      rcases hj with hj | ⟨hj, hj2⟩
      · skip
        clear HJ
        rcases HP.out with ⟨p1, p2, rfl, rfl, rfl⟩ | ⟨rfl, rfl, rfl, hp⟩
        · have HC := Lib.hid p1
          have hd := decide_eq_false (show ¬ (na : Int) ≤ W64 c by unfold W64; omega)
          have hd2 := decide_eq_false (show ¬ W64 T ≤ W64 u by unfold W64; omega)
          clear p1 p2 HP
          go_enter Try.func5, Try.ntmps5
          go_wp2_with fail
          rw [HW.out]
          refine (awake43 _).mono ?_
          rintro e w1 ⟨rfl, n1⟩
          have HN1 := Lib.hid (HN0.out.trans n1)
          clear n1
          have k0 := cell_of_row _ _ 0 _ _ _ (HBX.out w1 HN1.out)
          have k1 := cell_of_row _ _ 1 _ _ _ (HBX.out w1 HN1.out)
          have k2 := cell_of_row _ _ 2 _ _ _ (HBX.out w1 HN1.out)
          go_wp2_with fail
          refine (HTE.out _ HN1.out).mono ?_
          rintro e w2 ⟨rfl, n2⟩
          have HN2 := Lib.hid (HN1.out.trans n2)
          clear k0 k1 k2 n2
          have k0 := cell_of_row _ _ 0 _ _ _ (HBX.out w2 HN2.out)
          have k1 := cell_of_row _ _ 1 _ _ _ (HBX.out w2 HN2.out)
          have k2 := cell_of_row _ _ 2 _ _ _ (HBX.out w2 HN2.out)
          go_wp2_with fail
          refine (HRA.out _ HN2.out).mono ?_
          rintro e w3 ⟨rfl, n3⟩
          have HN3 := Lib.hid (HN2.out.trans n3)
          clear k0 k1 k2 n3
          have k0 := cell_of_row _ _ 0 _ _ _ (HBX.out w3 HN3.out)
          have k1 := cell_of_row _ _ 1 _ _ _ (HBX.out w3 HN3.out)
          have k2 := cell_of_row _ _ 2 _ _ _ (HBX.out w3 HN3.out)
          go_wp2_with fail
          refine (HWE.out _ HN3.out).mono ?_
          rintro e w4 ⟨rfl, n4⟩
          have HN4 := Lib.hid (HN3.out.trans n4)
          clear k0 k1 k2 n4
          have k0 := cell_of_row _ _ 0 _ _ _ (HBX.out w4 HN4.out)
          have k1 := cell_of_row _ _ 1 _ _ _ (HBX.out w4 HN4.out)
          have k2 := cell_of_row _ _ 2 _ _ _ (HBX.out w4 HN4.out)
          go_wp2_with fail
          refine (HTA.out _ HN4.out).mono ?_
          rintro e w5 ⟨rfl, n5⟩
          have HN5 := Lib.hid (HN4.out.trans n5)
          clear k0 k1 k2 n5
          have k0 := cell_of_row _ _ 0 _ _ _ (HBX.out w5 HN5.out)
          have k1 := cell_of_row _ _ 1 _ _ _ (HBX.out w5 HN5.out)
          have k2 := cell_of_row _ _ 2 _ _ _ (HBX.out w5 HN5.out)
          go_wp2_with fail
          refine (HTR.out HC.out _ HN5.out).mono ?_
          rintro e w6 ⟨rfl, n6⟩
          have HN6 := Lib.hid (HN5.out.trans n6)
          clear k0 k1 k2 n6
          have k0 := cell_of_row _ _ 0 _ _ _ (HBX.out w6 HN6.out)
          have k1 := cell_of_row _ _ 1 _ _ _ (HBX.out w6 HN6.out)
          have k2 := cell_of_row _ _ 2 _ _ _ (HBX.out w6 HN6.out)
          go_wp2_with fail
          refine (HAR.out _ HN6.out).mono ?_
          rintro e w7 ⟨rfl, n7⟩
          have HN7 := Lib.hid (HN6.out.trans n7)
          clear k0 k1 k2 n7
          have k0 := cell_of_row _ _ 0 _ _ _ (HBX.out w7 HN7.out)
          have k1 := cell_of_row _ _ 1 _ _ _ (HBX.out w7 HN7.out)
          have k2 := cell_of_row _ _ 2 _ _ _ (HBX.out w7 HN7.out)
          go_wp2
          go_ret
          exact ⟨rfl, HNW.out _ HN7.out⟩
        · clear HP
          rw [HZ.out] at HRA
          rcases hp with hp | ⟨hp, hp2⟩
          · have hd := decide_eq_true (show (na : Int) ≤ W64 c by unfold W64; omega)
            clear hp
            go_enter Try.func5, Try.ntmps5
            go_wp2_with fail
            rw [HW.out]
            refine (awake43 _).mono ?_
            rintro e w1 ⟨rfl, n1⟩
            have HN1 := Lib.hid (HN0.out.trans n1)
            clear n1
            have k0 := cell_of_row _ _ 0 _ _ _ (HBX.out w1 HN1.out)
            have k1 := cell_of_row _ _ 1 _ _ _ (HBX.out w1 HN1.out)
            have k2 := cell_of_row _ _ 2 _ _ _ (HBX.out w1 HN1.out)
            go_wp2_with fail
            refine (HTE.out _ HN1.out).mono ?_
            rintro e w2 ⟨rfl, n2⟩
            have HN2 := Lib.hid (HN1.out.trans n2)
            clear k0 k1 k2 n2
            have k0 := cell_of_row _ _ 0 _ _ _ (HBX.out w2 HN2.out)
            have k1 := cell_of_row _ _ 1 _ _ _ (HBX.out w2 HN2.out)
            have k2 := cell_of_row _ _ 2 _ _ _ (HBX.out w2 HN2.out)
            go_wp2_with fail
            refine (HRA.out _ HN2.out).mono ?_
            rintro e w3 ⟨rfl, n3⟩
            have HN3 := Lib.hid (HN2.out.trans n3)
            clear k0 k1 k2 n3
            have k0 := cell_of_row _ _ 0 _ _ _ (HBX.out w3 HN3.out)
            have k1 := cell_of_row _ _ 1 _ _ _ (HBX.out w3 HN3.out)
            have k2 := cell_of_row _ _ 2 _ _ _ (HBX.out w3 HN3.out)
            go_wp2_with fail
            refine (HWE.out _ HN3.out).mono ?_
            rintro e w4 ⟨rfl, n4⟩
            have HN4 := Lib.hid (HN3.out.trans n4)
            clear k0 k1 k2 n4
            have k0 := cell_of_row _ _ 0 _ _ _ (HBX.out w4 HN4.out)
            have k1 := cell_of_row _ _ 1 _ _ _ (HBX.out w4 HN4.out)
            have k2 := cell_of_row _ _ 2 _ _ _ (HBX.out w4 HN4.out)
            go_wp2_with fail
            refine (HTA.out _ HN4.out).mono ?_
            rintro e w5 ⟨rfl, n5⟩
            have HN5 := Lib.hid (HN4.out.trans n5)
            clear k0 k1 k2 n5
            have k0 := cell_of_row _ _ 0 _ _ _ (HBX.out w5 HN5.out)
            have k1 := cell_of_row _ _ 1 _ _ _ (HBX.out w5 HN5.out)
            have k2 := cell_of_row _ _ 2 _ _ _ (HBX.out w5 HN5.out)
            go_wp2
            go_ret
            exact ⟨rfl, HNW.out _ HN5.out⟩
          · have hd := decide_eq_false (show ¬ (na : Int) ≤ W64 c by unfold W64; omega)
            have hd2 := decide_eq_true (show W64 T ≤ W64 u by unfold W64; omega)
            clear hp hp2
            go_enter Try.func5, Try.ntmps5
            go_wp2_with fail
            rw [HW.out]
            refine (awake43 _).mono ?_
            rintro e w1 ⟨rfl, n1⟩
            have HN1 := Lib.hid (HN0.out.trans n1)
            clear n1
            have k0 := cell_of_row _ _ 0 _ _ _ (HBX.out w1 HN1.out)
            have k1 := cell_of_row _ _ 1 _ _ _ (HBX.out w1 HN1.out)
            have k2 := cell_of_row _ _ 2 _ _ _ (HBX.out w1 HN1.out)
            go_wp2_with fail
            refine (HTE.out _ HN1.out).mono ?_
            rintro e w2 ⟨rfl, n2⟩
            have HN2 := Lib.hid (HN1.out.trans n2)
            clear k0 k1 k2 n2
            have k0 := cell_of_row _ _ 0 _ _ _ (HBX.out w2 HN2.out)
            have k1 := cell_of_row _ _ 1 _ _ _ (HBX.out w2 HN2.out)
            have k2 := cell_of_row _ _ 2 _ _ _ (HBX.out w2 HN2.out)
            go_wp2_with fail
            refine (HRA.out _ HN2.out).mono ?_
            rintro e w3 ⟨rfl, n3⟩
            have HN3 := Lib.hid (HN2.out.trans n3)
            clear k0 k1 k2 n3
            have k0 := cell_of_row _ _ 0 _ _ _ (HBX.out w3 HN3.out)
            have k1 := cell_of_row _ _ 1 _ _ _ (HBX.out w3 HN3.out)
            have k2 := cell_of_row _ _ 2 _ _ _ (HBX.out w3 HN3.out)
            go_wp2_with fail
            refine (HWE.out _ HN3.out).mono ?_
            rintro e w4 ⟨rfl, n4⟩
            have HN4 := Lib.hid (HN3.out.trans n4)
            clear k0 k1 k2 n4
            have k0 := cell_of_row _ _ 0 _ _ _ (HBX.out w4 HN4.out)
            have k1 := cell_of_row _ _ 1 _ _ _ (HBX.out w4 HN4.out)
            have k2 := cell_of_row _ _ 2 _ _ _ (HBX.out w4 HN4.out)
            go_wp2_with fail
            refine (HTA.out _ HN4.out).mono ?_
            rintro e w5 ⟨rfl, n5⟩
            have HN5 := Lib.hid (HN4.out.trans n5)
            clear k0 k1 k2 n5
            have k0 := cell_of_row _ _ 0 _ _ _ (HBX.out w5 HN5.out)
            have k1 := cell_of_row _ _ 1 _ _ _ (HBX.out w5 HN5.out)
            have k2 := cell_of_row _ _ 2 _ _ _ (HBX.out w5 HN5.out)
            go_wp2
            go_ret
            exact ⟨rfl, HNW.out _ HN5.out⟩
      · skip
        clear HJ
        rcases HP.out with ⟨p1, p2, rfl, rfl, rfl⟩ | ⟨rfl, rfl, rfl, hp⟩
        · have HC := Lib.hid p1
          have hd := decide_eq_false (show ¬ (na : Int) ≤ W64 c by unfold W64; omega)
          have hd2 := decide_eq_false (show ¬ W64 T ≤ W64 u by unfold W64; omega)
          clear p1 p2 HP
          go_enter Try.func5, Try.ntmps5
          go_wp2_with fail
          rw [HW.out]
          refine (awake43 _).mono ?_
          rintro e w1 ⟨rfl, n1⟩
          have HN1 := Lib.hid (HN0.out.trans n1)
          clear n1
          have k0 := cell_of_row _ _ 0 _ _ _ (HBX.out w1 HN1.out)
          have k1 := cell_of_row _ _ 1 _ _ _ (HBX.out w1 HN1.out)
          have k2 := cell_of_row _ _ 2 _ _ _ (HBX.out w1 HN1.out)
          go_wp2_with fail
          refine (HTE.out _ HN1.out).mono ?_
          rintro e w2 ⟨rfl, n2⟩
          have HN2 := Lib.hid (HN1.out.trans n2)
          clear k0 k1 k2 n2
          have k0 := cell_of_row _ _ 0 _ _ _ (HBX.out w2 HN2.out)
          have k1 := cell_of_row _ _ 1 _ _ _ (HBX.out w2 HN2.out)
          have k2 := cell_of_row _ _ 2 _ _ _ (HBX.out w2 HN2.out)
          go_wp2_with fail
          refine (HRA.out _ HN2.out).mono ?_
          rintro e w3 ⟨rfl, n3⟩
          have HN3 := Lib.hid (HN2.out.trans n3)
          clear k0 k1 k2 n3
          have k0 := cell_of_row _ _ 0 _ _ _ (HBX.out w3 HN3.out)
          have k1 := cell_of_row _ _ 1 _ _ _ (HBX.out w3 HN3.out)
          have k2 := cell_of_row _ _ 2 _ _ _ (HBX.out w3 HN3.out)
          go_wp2_with fail
          refine (HWE.out _ HN3.out).mono ?_
          rintro e w4 ⟨rfl, n4⟩
          have HN4 := Lib.hid (HN3.out.trans n4)
          clear k0 k1 k2 n4
          have k0 := cell_of_row _ _ 0 _ _ _ (HBX.out w4 HN4.out)
          have k1 := cell_of_row _ _ 1 _ _ _ (HBX.out w4 HN4.out)
          have k2 := cell_of_row _ _ 2 _ _ _ (HBX.out w4 HN4.out)
          go_wp2_with fail
          refine (HTA.out _ HN4.out).mono ?_
          rintro e w5 ⟨rfl, n5⟩
          have HN5 := Lib.hid (HN4.out.trans n5)
          clear k0 k1 k2 n5
          have k0 := cell_of_row _ _ 0 _ _ _ (HBX.out w5 HN5.out)
          have k1 := cell_of_row _ _ 1 _ _ _ (HBX.out w5 HN5.out)
          have k2 := cell_of_row _ _ 2 _ _ _ (HBX.out w5 HN5.out)
          go_wp2_with fail
          refine (HTR.out HC.out _ HN5.out).mono ?_
          rintro e w6 ⟨rfl, n6⟩
          have HN6 := Lib.hid (HN5.out.trans n6)
          clear k0 k1 k2 n6
          have k0 := cell_of_row _ _ 0 _ _ _ (HBX.out w6 HN6.out)
          have k1 := cell_of_row _ _ 1 _ _ _ (HBX.out w6 HN6.out)
          have k2 := cell_of_row _ _ 2 _ _ _ (HBX.out w6 HN6.out)
          go_wp2_with fail
          refine (HAR.out _ HN6.out).mono ?_
          rintro e w7 ⟨rfl, n7⟩
          have HN7 := Lib.hid (HN6.out.trans n7)
          clear k0 k1 k2 n7
          have k0 := cell_of_row _ _ 0 _ _ _ (HBX.out w7 HN7.out)
          have k1 := cell_of_row _ _ 1 _ _ _ (HBX.out w7 HN7.out)
          have k2 := cell_of_row _ _ 2 _ _ _ (HBX.out w7 HN7.out)
          go_wp2
          go_ret
          exact ⟨rfl, HNW.out _ HN7.out⟩
        · clear HP
          rw [HZ.out] at HRA
          rcases hp with hp | ⟨hp, hp2⟩
          · have hd := decide_eq_true (show (na : Int) ≤ W64 c by unfold W64; omega)
            clear hp
            go_enter Try.func5, Try.ntmps5
            go_wp2_with fail
            rw [HW.out]
            refine (awake43 _).mono ?_
            rintro e w1 ⟨rfl, n1⟩
            have HN1 := Lib.hid (HN0.out.trans n1)
            clear n1
            have k0 := cell_of_row _ _ 0 _ _ _ (HBX.out w1 HN1.out)
            have k1 := cell_of_row _ _ 1 _ _ _ (HBX.out w1 HN1.out)
            have k2 := cell_of_row _ _ 2 _ _ _ (HBX.out w1 HN1.out)
            go_wp2_with fail
            refine (HTE.out _ HN1.out).mono ?_
            rintro e w2 ⟨rfl, n2⟩
            have HN2 := Lib.hid (HN1.out.trans n2)
            clear k0 k1 k2 n2
            have k0 := cell_of_row _ _ 0 _ _ _ (HBX.out w2 HN2.out)
            have k1 := cell_of_row _ _ 1 _ _ _ (HBX.out w2 HN2.out)
            have k2 := cell_of_row _ _ 2 _ _ _ (HBX.out w2 HN2.out)
            go_wp2_with fail
            refine (HRA.out _ HN2.out).mono ?_
            rintro e w3 ⟨rfl, n3⟩
            have HN3 := Lib.hid (HN2.out.trans n3)
            clear k0 k1 k2 n3
            have k0 := cell_of_row _ _ 0 _ _ _ (HBX.out w3 HN3.out)
            have k1 := cell_of_row _ _ 1 _ _ _ (HBX.out w3 HN3.out)
            have k2 := cell_of_row _ _ 2 _ _ _ (HBX.out w3 HN3.out)
            go_wp2_with fail
            refine (HWE.out _ HN3.out).mono ?_
            rintro e w4 ⟨rfl, n4⟩
            have HN4 := Lib.hid (HN3.out.trans n4)
            clear k0 k1 k2 n4
            have k0 := cell_of_row _ _ 0 _ _ _ (HBX.out w4 HN4.out)
            have k1 := cell_of_row _ _ 1 _ _ _ (HBX.out w4 HN4.out)
            have k2 := cell_of_row _ _ 2 _ _ _ (HBX.out w4 HN4.out)
            go_wp2_with fail
            refine (HTA.out _ HN4.out).mono ?_
            rintro e w5 ⟨rfl, n5⟩
            have HN5 := Lib.hid (HN4.out.trans n5)
            clear k0 k1 k2 n5
            have k0 := cell_of_row _ _ 0 _ _ _ (HBX.out w5 HN5.out)
            have k1 := cell_of_row _ _ 1 _ _ _ (HBX.out w5 HN5.out)
            have k2 := cell_of_row _ _ 2 _ _ _ (HBX.out w5 HN5.out)
            go_wp2
            go_ret
            exact ⟨rfl, HNW.out _ HN5.out⟩
          · have hd := decide_eq_false (show ¬ (na : Int) ≤ W64 c by unfold W64; omega)
            have hd2 := decide_eq_true (show W64 T ≤ W64 u by unfold W64; omega)
            clear hp hp2
            go_enter Try.func5, Try.ntmps5
            go_wp2_with fail
            rw [HW.out]
            refine (awake43 _).mono ?_
            rintro e w1 ⟨rfl, n1⟩
            have HN1 := Lib.hid (HN0.out.trans n1)
            clear n1
            have k0 := cell_of_row _ _ 0 _ _ _ (HBX.out w1 HN1.out)
            have k1 := cell_of_row _ _ 1 _ _ _ (HBX.out w1 HN1.out)
            have k2 := cell_of_row _ _ 2 _ _ _ (HBX.out w1 HN1.out)
            go_wp2_with fail
            refine (HTE.out _ HN1.out).mono ?_
            rintro e w2 ⟨rfl, n2⟩
            have HN2 := Lib.hid (HN1.out.trans n2)
            clear k0 k1 k2 n2
            have k0 := cell_of_row _ _ 0 _ _ _ (HBX.out w2 HN2.out)
            have k1 := cell_of_row _ _ 1 _ _ _ (HBX.out w2 HN2.out)
            have k2 := cell_of_row _ _ 2 _ _ _ (HBX.out w2 HN2.out)
            go_wp2_with fail
            refine (HRA.out _ HN2.out).mono ?_
            rintro e w3 ⟨rfl, n3⟩
            have HN3 := Lib.hid (HN2.out.trans n3)
            clear k0 k1 k2 n3
            have k0 := cell_of_row _ _ 0 _ _ _ (HBX.out w3 HN3.out)
            have k1 := cell_of_row _ _ 1 _ _ _ (HBX.out w3 HN3.out)
            have k2 := cell_of_row _ _ 2 _ _ _ (HBX.out w3 HN3.out)
            go_wp2_with fail
            refine (HWE.out _ HN3.out).mono ?_
            rintro e w4 ⟨rfl, n4⟩
            have HN4 := Lib.hid (HN3.out.trans n4)
            clear k0 k1 k2 n4
            have k0 := cell_of_row _ _ 0 _ _ _ (HBX.out w4 HN4.out)
            have k1 := cell_of_row _ _ 1 _ _ _ (HBX.out w4 HN4.out)
            have k2 := cell_of_row _ _ 2 _ _ _ (HBX.out w4 HN4.out)
            go_wp2_with fail
            refine (HTA.out _ HN4.out).mono ?_
            rintro e w5 ⟨rfl, n5⟩
            have HN5 := Lib.hid (HN4.out.trans n5)
            clear k0 k1 k2 n5
            have k0 := cell_of_row _ _ 0 _ _ _ (HBX.out w5 HN5.out)
            have k1 := cell_of_row _ _ 1 _ _ _ (HBX.out w5 HN5.out)
            have k2 := cell_of_row _ _ 2 _ _ _ (HBX.out w5 HN5.out)
            go_wp2
            go_ret
            exact ⟨rfl, HNW.out _ HN5.out⟩
  · have HZ := Lib.hid hz
    have HPE := Lib.hid (pe_bad (c := c.toNat) (u := u) hE)
    have HJE := Lib.hid (je_bad (j := j) hE)
    have HTV : Hid (tV T be al c.toNat u = 0) := Lib.hid (tv_no (by rw [HPE.out]; exact hE))
    have HRV : Hid (rkV T be al c.toNat u = 0#64) := Lib.hid (rk_no (by rw [HPE.out]; exact hE))
    have HWV : Hid (wtV T be al j = 0#64) := Lib.hid (wt_no (by rw [HJE.out]; exact hE))
    obtain ⟨z, hzz⟩ : ∃ z, tE T be al = z := ⟨_, rfl⟩
    have HTE : Hid (∀ w', New w0 w' → Calls Try.prog 18 #[tv T ab nb cb aa na ca, .int .u64 (W64 c), .int .u64 (W64 u)] w' fun e w2 => e = .returned (.tuple #[.int .i64 0, .int .i64 z]) ∧ New w' w2) := Lib.hid (fun w' q => by have := tell_43 T ab nb cb aa na ca be al c u w' (HTL.out w' q); rw [HTV.out, HPE.out, hzz] at this; exact this)
    have HRA : Hid (∀ w', New w0 w' → Calls Try.prog 19 #[tv T ab nb cb aa na ca, .int .u64 (W64 c), .int .u64 (W64 u)] w' fun e w2 => e = .returned (.tuple #[.int .i64 0, .int .u64 0, .int .i64 z]) ∧ New w' w2) := Lib.hid (fun w' q => by have := rank_43 T ab nb cb aa na ca be al c u w' (HTL.out w' q); rw [HTV.out, HRV.out, HPE.out, hzz, HZ.out] at this; exact this)
    have HWE : Hid (∀ w', New w0 w' → Calls Try.prog 15 #[tv T ab nb cb aa na ca, .int .i64 j] w' fun e w2 => e = .returned (.tuple #[.int .u64 0, .int .i64 z]) ∧ New w' w2) := Lib.hid (fun w' q => by have := weight_43 T ab nb cb aa na ca be al j w' (HTL.out w' q); rw [HWV.out, HJE.out, hzz, HZ.out] at this; exact this)
    have HTA : Hid (∀ w', New w0 w' → Calls Try.prog 14 #[tv T ab nb cb aa na ca] w' fun e w2 => e = .returned (.int .i64 z) ∧ New w' w2) := Lib.hid (fun w' q => by rw [← hzz]; exact table_43 T ab nb cb aa na ca be al w' (HTL.out w' q))
    have HCK : Hid (∀ w', New w0 w' → Calls Try.prog 13 #[tv T ab nb cb aa na ca] w' fun e w2 => e = .returned (.int .i64 z) ∧ New w' w2) := Lib.hid (fun w' q => by rw [← hzz]; exact check_43 T ab nb cb aa na ca be al w' (HTL.out w' q))
    have hb : (z != 0) = true := by rw [bne_iff_ne, ← hzz]; exact hE
    clear h hE hz hzz
    go_enter Try.func5, Try.ntmps5
    go_wp2_with fail
    rw [HW.out]
    refine (awake43 _).mono ?_
    rintro e w1 ⟨rfl, n1⟩
    have HN1 := Lib.hid (HN0.out.trans n1)
    clear n1
    have k0 := cell_of_row _ _ 0 _ _ _ (HBX.out w1 HN1.out)
    have k1 := cell_of_row _ _ 1 _ _ _ (HBX.out w1 HN1.out)
    have k2 := cell_of_row _ _ 2 _ _ _ (HBX.out w1 HN1.out)
    go_wp2_with fail
    refine (HTE.out _ HN1.out).mono ?_
    rintro e w2 ⟨rfl, n2⟩
    have HN2 := Lib.hid (HN1.out.trans n2)
    clear k0 k1 k2 n2
    have k0 := cell_of_row _ _ 0 _ _ _ (HBX.out w2 HN2.out)
    have k1 := cell_of_row _ _ 1 _ _ _ (HBX.out w2 HN2.out)
    have k2 := cell_of_row _ _ 2 _ _ _ (HBX.out w2 HN2.out)
    go_wp2_with fail
    refine (HRA.out _ HN2.out).mono ?_
    rintro e w3 ⟨rfl, n3⟩
    have HN3 := Lib.hid (HN2.out.trans n3)
    clear k0 k1 k2 n3
    have k0 := cell_of_row _ _ 0 _ _ _ (HBX.out w3 HN3.out)
    have k1 := cell_of_row _ _ 1 _ _ _ (HBX.out w3 HN3.out)
    have k2 := cell_of_row _ _ 2 _ _ _ (HBX.out w3 HN3.out)
    go_wp2_with fail
    refine (HWE.out _ HN3.out).mono ?_
    rintro e w4 ⟨rfl, n4⟩
    have HN4 := Lib.hid (HN3.out.trans n4)
    clear k0 k1 k2 n4
    have k0 := cell_of_row _ _ 0 _ _ _ (HBX.out w4 HN4.out)
    have k1 := cell_of_row _ _ 1 _ _ _ (HBX.out w4 HN4.out)
    have k2 := cell_of_row _ _ 2 _ _ _ (HBX.out w4 HN4.out)
    go_wp2_with fail
    refine (HTA.out _ HN4.out).mono ?_
    rintro e w5 ⟨rfl, n5⟩
    have HN5 := Lib.hid (HN4.out.trans n5)
    clear k0 k1 k2 n5
    have k0 := cell_of_row _ _ 0 _ _ _ (HBX.out w5 HN5.out)
    have k1 := cell_of_row _ _ 1 _ _ _ (HBX.out w5 HN5.out)
    have k2 := cell_of_row _ _ 2 _ _ _ (HBX.out w5 HN5.out)
    go_wp2_with fail
    refine (HCK.out _ HN5.out).mono ?_
    rintro e w6 ⟨rfl, n6⟩
    have HN6 := Lib.hid (HN5.out.trans n6)
    clear k0 k1 k2 n6
    have k0 := cell_of_row _ _ 0 _ _ _ (HBX.out w6 HN6.out)
    have k1 := cell_of_row _ _ 1 _ _ _ (HBX.out w6 HN6.out)
    have k2 := cell_of_row _ _ 2 _ _ _ (HBX.out w6 HN6.out)
    go_wp2
    go_ret
    exact ⟨rfl, HNW.out _ HN6.out⟩
end Go.Proofs.Ytbjclkjikclljaa
