/- Layer 43: Weight, Rank. -/
import Derived.Test.YtbjclkjikclljaaAliI
namespace Go.Ali
/-- how many pairs tell an item, 0 where something is wrong -/
def wtV (T : BitVec 64) (be : List (BitVec 64)) (al : List Int) (j : Int) : BitVec 64 := if jE T be al j = 0 then bfK T be al j (be.length : Int) 0#64 be.length else 0#64
theorem wt_no {T : BitVec 64} {be : List (BitVec 64)} {al : List Int} {j : Int} (h : jE T be al j ≠ 0) : wtV T be al j = 0#64 := by unfold wtV; rw [if_neg h]
theorem wt_ok {T : BitVec 64} {be : List (BitVec 64)} {al : List Int} {j : Int} (h : jE T be al j = 0) : wtV T be al j = bfK T be al j (be.length : Int) 0#64 be.length := by unfold wtV; rw [if_pos h]
/-- a pair's rank, 0 where something is wrong -/
def rkV (T : BitVec 64) (be : List (BitVec 64)) (al : List Int) (c : Nat) (u : BitVec 64) : BitVec 64 := if pE T be al c u = 0 then bfK T be al (tV T be al c u) (c : Int) u be.length else 0#64
theorem rk_no {T : BitVec 64} {be : List (BitVec 64)} {al : List Int} {c : Nat} {u : BitVec 64} (h : pE T be al c u ≠ 0) : rkV T be al c u = 0#64 := by unfold rkV; rw [if_neg h]
theorem rk_ok {T : BitVec 64} {be : List (BitVec 64)} {al : List Int} {c : Nat} {u : BitVec 64} (h : pE T be al c u = 0) : rkV T be al c u = bfK T be al (tV T be al c u) (c : Int) u be.length := by unfold rkV; rw [if_pos h]
theorem pe_good {T : BitVec 64} {be : List (BitVec 64)} {al : List Int} {c : Nat} {u : BitVec 64} (h : pE T be al c u = 0) : tE T be al = 0 ∧ c < be.length ∧ u.toNat < T.toNat := by
  by_cases h1 : tE T be al = 0
  · by_cases h2 : be.length ≤ c ∨ T.toNat ≤ u.toNat
    · rw [pe_out h1 h2] at h; cases h
    · exact ⟨h1, by omega, by omega⟩
  · rw [pe_bad h1] at h; exact absurd h h1
end Go.Ali
namespace Go.Proofs.Ytbjclkjikclljaa
open Go Go.RowKit Go.Bv Go.Ali
set_option linter.unusedVariables false
set_option maxRecDepth 100000
set_option maxHeartbeats 8000000 in
theorem weight_43 (T : BitVec 64) (ab : Option Addr) (nb cb : Nat) (aa : Option Addr) (na ca : Nat) (be : List (BitVec 64)) (al : List Int) (j : Int) (w : World) (h : TL w ab nb cb aa na ca be al) :
    Calls Try.prog 15 #[tv T ab nb cb aa na ca, .int .i64 j] w fun e w' => e = .returned (.tuple #[.int .u64 (W64 (wtV T be al j)), .int .i64 (jE T be al j)]) ∧ New w w' := by
  have hbx := heap_alloc_new w (TB (.int .u64 (W64 T)) (.slice ab nb cb) (.slice aa na ca))
  have hn0 := (New.refl w).alloc (TB (.int .u64 (W64 T)) (.slice ab nb cb) (.slice aa na ca))
  have k0 := cell_of_row _ _ 0 _ _ _ hbx
  have k1 := cell_of_row _ _ 1 _ _ _ hbx
  have k2 := cell_of_row _ _ 2 _ _ _ hbx
  have HBX := Lib.hid hbx
  have HCH := Lib.hid (check_43 T ab nb cb aa na ca be al _ (h.stay hn0))
  have HN0 := Lib.hid hn0
  have hz : W64 0#64 = 0 := W64_lit 0 (by omega)
  clear hbx hn0
  by_cases hE : tE T be al = 0
  · have HE := Lib.hid hE
    rw [hE] at HCH
    obtain ⟨hn1, hn2, hna, hT0, hT1, hbb, hab⟩ := te_good hE
    have hlb := h.b.len_eq
    have hla := h.a.len_eq
    obtain rfl : na = nb := by omega
    have HTL := Lib.hid h
    have HLB := Lib.hid hlb
    by_cases hj : j < 0 ∨ (be.length : Int) ≤ j
    · have HP : Hid (jE T be al j = 2) := Lib.hid (je_out HE.out hj)
      have HV : Hid (wtV T be al j = 0#64) := Lib.hid (wt_no (by rw [HP.out]; decide))
      rw [HP.out, HV.out, hz]
      have hj2 : j < 0 ∨ (¬ j < 0 ∧ (na : Int) ≤ j) := by rw [hlb] at hj; omega
      clear hE hn1 hn2 hna hT0 hT1 hbb hab hlb hla h hj hz
      rcases hj2 with hj | ⟨hj, hj2⟩
      all_goals (
        go_enter Try.func15, Try.ntmps15
        go_wp2_with fail
        refine HCH.out.mono ?_
        rintro e w1 ⟨rfl, n1⟩
        have k1 := cell_of_row _ _ 1 _ _ _ (blk_stay HBX.out n1)
        have HN1 := Lib.hid (HN0.out.trans n1)
        clear n1 HCH
        go_wp2
        refine bodyPost_ret (by simp [results, Try.results15, go_sem]; try rfl) rfl ?_
        exact ⟨rfl, HN1.out⟩)
    · have HP : Hid (jE T be al j = 0) := Lib.hid (je_ok HE.out hj)
      have HV := Lib.hid (wt_ok HP.out)
      rw [HP.out]
      have hj1 : ¬ j < 0 := by omega
      have hj2 : ¬ (na : Int) ≤ j := by omega
      have HZ := Lib.hid hz
      clear hE hn1 hn2 hna hT0 hT1 hbb hab hlb hla h hj hz
      go_enter Try.func15, Try.ntmps15
      go_wp2_with fail
      refine HCH.out.mono ?_
      rintro e w1 ⟨rfl, n1⟩
      have k0 := cell_of_row _ _ 0 _ _ _ (blk_stay HBX.out n1)
      have k1 := cell_of_row _ _ 1 _ _ _ (blk_stay HBX.out n1)
      have k2 := cell_of_row _ _ 2 _ _ _ (blk_stay HBX.out n1)
      have HN1 := Lib.hid (HN0.out.trans n1)
      have HBF := before_43 T ab na cb aa ca be al j (na : Int) 0#64 _ (HTL.out.stay HN1.out)
      rw [HZ.out] at HBF
      have HBF := Lib.hid HBF
      clear n1 HCH
      go_wp2_with fail
      refine HBF.out.mono ?_
      rintro e w2 ⟨rfl, n2⟩
      have HN2 := Lib.hid (HN1.out.trans n2)
      clear n2 HBF
      go_wp2
      refine bodyPost_ret (by simp [results, Try.results15, go_sem]; try rfl) rfl ?_
      rw [HV.out, HLB.out]
      exact ⟨rfl, HN2.out⟩
  · have HP := Lib.hid (je_bad (j := j) hE)
    have HV : Hid (wtV T be al j = 0#64) := Lib.hid (wt_no (by rw [HP.out]; exact hE))
    rw [HP.out, HV.out, hz]
    obtain ⟨z, hz⟩ : ∃ z, tE T be al = z := ⟨_, rfl⟩
    rw [hz] at HCH hE ⊢
    have hb : (z != 0) = true := by rw [bne_iff_ne]; exact hE
    clear hE hz h
    go_enter Try.func15, Try.ntmps15
    go_wp2_with fail
    refine HCH.out.mono ?_
    rintro e w1 ⟨rfl, n1⟩
    have HN1 := Lib.hid (HN0.out.trans n1)
    clear n1 HCH k0 k1 k2
    go_wp2
    refine bodyPost_ret (by simp [results, Try.results15, go_sem]; try rfl) rfl ?_
    exact ⟨rfl, HN1.out⟩
set_option maxHeartbeats 8000000 in
theorem rank_43 (T : BitVec 64) (ab : Option Addr) (nb cb : Nat) (aa : Option Addr) (na ca : Nat) (be : List (BitVec 64)) (al : List Int) (c u : BitVec 64) (w : World) (h : TL w ab nb cb aa na ca be al) :
    Calls Try.prog 19 #[tv T ab nb cb aa na ca, .int .u64 (W64 c), .int .u64 (W64 u)] w fun e w' => e = .returned (.tuple #[.int .i64 (tV T be al c.toNat u), .int .u64 (W64 (rkV T be al c.toNat u)), .int .i64 (pE T be al c.toNat u)]) ∧ New w w' := by
  have hbx := heap_alloc_new w (TB (.int .u64 (W64 T)) (.slice ab nb cb) (.slice aa na ca))
  have hn0 := (New.refl w).alloc (TB (.int .u64 (W64 T)) (.slice ab nb cb) (.slice aa na ca))
  have k0 := cell_of_row _ _ 0 _ _ _ hbx
  have k1 := cell_of_row _ _ 1 _ _ _ hbx
  have k2 := cell_of_row _ _ 2 _ _ _ hbx
  have HBX := Lib.hid hbx
  have HTT := tell_43 T ab nb cb aa na ca be al c u _ (h.stay hn0)
  have HN0 := Lib.hid hn0
  have hz : W64 0#64 = 0 := W64_lit 0 (by omega)
  clear hbx hn0
  by_cases hP : pE T be al c.toNat u = 0
  · obtain ⟨hE, hc, hu⟩ := pe_good hP
    obtain ⟨hn1, hn2, hna, hT0, hT1, hbb, hab⟩ := te_good hE
    have hlb := h.b.len_eq
    have hla := h.a.len_eq
    obtain rfl : na = nb := by omega
    have HV := Lib.hid (rk_ok hP)
    have HTL := Lib.hid h
    have HLB := Lib.hid hlb
    rw [hP] at HTT ⊢
    obtain ⟨i, hi⟩ : ∃ i, c.toNat = i := ⟨_, rfl⟩
    have hci : W64 c = (i : Int) := by unfold W64; rw [hi]
    have hwr : wrap64 (i : Int) = (i : Int) := by unfold wrap64; omega
    rw [hi] at HTT HV ⊢
    rw [hci] at HTT ⊢
    obtain ⟨t, ht⟩ : ∃ t, tV T be al i u = t := ⟨_, rfl⟩
    rw [ht] at HTT HV ⊢
    have HTT := Lib.hid HTT
    clear hE hc hu hn1 hn2 hna hT0 hT1 hbb hab hlb hla h hP hi hci ht hz
    go_enter Try.func19, Try.ntmps19
    go_wp2_with fail
    refine HTT.out.mono ?_
    rintro e w1 ⟨rfl, n1⟩
    have k0 := cell_of_row _ _ 0 _ _ _ (blk_stay HBX.out n1)
    have k1 := cell_of_row _ _ 1 _ _ _ (blk_stay HBX.out n1)
    have k2 := cell_of_row _ _ 2 _ _ _ (blk_stay HBX.out n1)
    have HN1 := Lib.hid (HN0.out.trans n1)
    have HBF := Lib.hid (before_43 T ab na cb aa ca be al t (i : Int) u _ (HTL.out.stay HN1.out))
    clear n1 HTT
    go_wp2_with fail
    refine HBF.out.mono ?_
    rintro e w2 ⟨rfl, n2⟩
    have HN2 := Lib.hid (HN1.out.trans n2)
    clear n2 HBF
    go_wp2
    refine bodyPost_ret (by simp [results, Try.results19, go_sem]; try rfl) rfl ?_
    rw [HV.out, HLB.out]
    exact ⟨rfl, HN2.out⟩
  · have HV := Lib.hid (rk_no hP)
    have HT0 := Lib.hid (tv_no hP)
    rw [HT0.out] at HTT ⊢
    rw [HV.out, hz]
    obtain ⟨z, hz⟩ : ∃ z, pE T be al c.toNat u = z := ⟨_, rfl⟩
    rw [hz] at HTT hP ⊢
    have hb : (z != 0) = true := by rw [bne_iff_ne]; exact hP
    have HTT := Lib.hid HTT
    clear hP hz h
    go_enter Try.func19, Try.ntmps19
    go_wp2_with fail
    refine HTT.out.mono ?_
    rintro e w1 ⟨rfl, n1⟩
    have HN1 := Lib.hid (HN0.out.trans n1)
    clear n1 HTT k0 k1 k2
    go_wp2
    refine bodyPost_ret (by simp [results, Try.results19, go_sem]; try rfl) rfl ?_
    exact ⟨rfl, HN1.out⟩
end Go.Proofs.Ytbjclkjikclljaa
