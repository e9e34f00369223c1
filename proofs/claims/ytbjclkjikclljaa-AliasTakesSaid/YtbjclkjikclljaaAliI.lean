/- Layer 43: Tell, Weight, Rank. -/
import Derived.Test.YtbjclkjikclljaaAliH
namespace Go.Ali
theorem te_good {T : BitVec 64} {be : List (BitVec 64)} {al : List Int} (h : tE T be al = 0) : 1 ≤ be.length ∧ be.length ≤ 256 ∧ al.length = be.length ∧ 0 < T.toNat ∧ T.toNat ≤ 1099511627776 ∧ (∀ i, i < be.length → (be.getD i 0).toNat ≤ T.toNat) ∧ (∀ i, i < be.length → 0 ≤ al.getD i 0 ∧ al.getD i 0 < (be.length : Int)) := by
  by_cases h1 : be.length < 1 ∨ 256 < be.length ∨ al.length ≠ be.length
  · rw [te_len h1] at h; cases h
  by_cases h2 : T.toNat = 0
  · rw [te_zero h1 h2] at h; cases h
  by_cases h3 : 1099511627776 < T.toNat
  · rw [te_over h1 h2 h3] at h; cases h
  have h4 : ∀ i, i < be.length → ¬ T.toNat < (be.getD i 0).toNat := fun i hi e => by rw [te_below h1 h2 h3 hi e] at h; cases h
  have h5 : ∀ i, i < be.length → ¬ (al.getD i 0 < 0 ∨ (be.length : Int) ≤ al.getD i 0) := fun i hi e => by rw [te_item h1 h2 h3 h4 hi e] at h; cases h
  refine ⟨by omega, by omega, by omega, by omega, by omega, fun i hi => ?_, fun i hi => ?_⟩
  · have := h4 i hi; omega
  · have := h5 i hi; omega
/-- the item of a pair -/
def tlV (be : List (BitVec 64)) (al : List Int) (c : Nat) (u : BitVec 64) : Int := if u.toNat < (be.getD c 0).toNat then (c : Int) else al.getD c 0
/-- what is wrong with a pair -/
def pE (T : BitVec 64) (be : List (BitVec 64)) (al : List Int) (c : Nat) (u : BitVec 64) : Int := if tE T be al ≠ 0 then tE T be al else if be.length ≤ c ∨ T.toNat ≤ u.toNat then 2 else 0
theorem pe_bad {T : BitVec 64} {be : List (BitVec 64)} {al : List Int} {c : Nat} {u : BitVec 64} (h : tE T be al ≠ 0) : pE T be al c u = tE T be al := by unfold pE; rw [if_pos h]
theorem pe_out {T : BitVec 64} {be : List (BitVec 64)} {al : List Int} {c : Nat} {u : BitVec 64} (h : tE T be al = 0) (h2 : be.length ≤ c ∨ T.toNat ≤ u.toNat) : pE T be al c u = 2 := by unfold pE; rw [if_neg (by omega), if_pos h2]
theorem pe_ok {T : BitVec 64} {be : List (BitVec 64)} {al : List Int} {c : Nat} {u : BitVec 64} (h : tE T be al = 0) (h2 : ¬ (be.length ≤ c ∨ T.toNat ≤ u.toNat)) : pE T be al c u = 0 := by unfold pE; rw [if_neg (by omega), if_neg h2]
/-- the item told of a pair, 0 where something is wrong -/
def tV (T : BitVec 64) (be : List (BitVec 64)) (al : List Int) (c : Nat) (u : BitVec 64) : Int := if pE T be al c u = 0 then tlV be al c u else 0
theorem tv_no {T : BitVec 64} {be : List (BitVec 64)} {al : List Int} {c : Nat} {u : BitVec 64} (h : pE T be al c u ≠ 0) : tV T be al c u = 0 := by unfold tV; rw [if_neg h]
theorem tv_lo {T : BitVec 64} {be : List (BitVec 64)} {al : List Int} {c : Nat} {u : BitVec 64} (h : pE T be al c u = 0) (h2 : u.toNat < (be.getD c 0).toNat) : tV T be al c u = (c : Int) := by unfold tV tlV; rw [if_pos h, if_pos h2]
theorem tv_hi {T : BitVec 64} {be : List (BitVec 64)} {al : List Int} {c : Nat} {u : BitVec 64} (h : pE T be al c u = 0) (h2 : ¬ u.toNat < (be.getD c 0).toNat) : tV T be al c u = al.getD c 0 := by unfold tV tlV; rw [if_pos h, if_neg h2]
/-- what is wrong with an item -/
def jE (T : BitVec 64) (be : List (BitVec 64)) (al : List Int) (j : Int) : Int := if tE T be al ≠ 0 then tE T be al else if j < 0 ∨ (be.length : Int) ≤ j then 2 else 0
theorem je_bad {T : BitVec 64} {be : List (BitVec 64)} {al : List Int} {j : Int} (h : tE T be al ≠ 0) : jE T be al j = tE T be al := by unfold jE; rw [if_pos h]
theorem je_out {T : BitVec 64} {be : List (BitVec 64)} {al : List Int} {j : Int} (h : tE T be al = 0) (h2 : j < 0 ∨ (be.length : Int) ≤ j) : jE T be al j = 2 := by unfold jE; rw [if_neg (by omega), if_pos h2]
theorem je_ok {T : BitVec 64} {be : List (BitVec 64)} {al : List Int} {j : Int} (h : tE T be al = 0) (h2 : ¬ (j < 0 ∨ (be.length : Int) ≤ j)) : jE T be al j = 0 := by unfold jE; rw [if_neg (by omega), if_neg h2]
end Go.Ali
namespace Go.Proofs.Ytbjclkjikclljaa
open Go Go.RowKit Go.Bv Go.Ali
set_option linter.unusedVariables false
set_option maxRecDepth 100000
theorem w_of {n : Nat} (h : n ≤ 256) : W64 (BitVec.ofNat 64 n) = (n : Int) := by
  unfold W64
  rw [BitVec.toNat_ofNat, Nat.mod_eq_of_lt (by omega)]
set_option maxHeartbeats 8000000 in
theorem tell_43 (T : BitVec 64) (ab : Option Addr) (nb cb : Nat) (aa : Option Addr) (na ca : Nat) (be : List (BitVec 64)) (al : List Int) (c u : BitVec 64) (w : World) (h : TL w ab nb cb aa na ca be al) :
    Calls Try.prog 18 #[tv T ab nb cb aa na ca, .int .u64 (W64 c), .int .u64 (W64 u)] w fun e w' => e = .returned (.tuple #[.int .i64 (tV T be al c.toNat u), .int .i64 (pE T be al c.toNat u)]) ∧ New w w' := by
  have hbx := heap_alloc_new w (TB (.int .u64 (W64 T)) (.slice ab nb cb) (.slice aa na ca))
  have hn0 := (New.refl w).alloc (TB (.int .u64 (W64 T)) (.slice ab nb cb) (.slice aa na ca))
  have k0 := cell_of_row _ _ 0 _ _ _ hbx
  have k1 := cell_of_row _ _ 1 _ _ _ hbx
  have k2 := cell_of_row _ _ 2 _ _ _ hbx
  have HBX := Lib.hid hbx
  have HCH := Lib.hid (check_43 T ab nb cb aa na ca be al _ (h.stay hn0))
  have HN0 := Lib.hid hn0
  clear hbx hn0
  by_cases hE : tE T be al = 0
  · have HE := Lib.hid hE
    rw [hE] at HCH
    obtain ⟨hn1, hn2, hna, hT0, hT1, hbb, hab⟩ := te_good hE
    have hlb := h.b.len_eq
    have hla := h.a.len_eq
    obtain rfl : na = nb := by omega
    obtain ⟨p1, o1, e1, _⟩ := h.b.addr (by omega)
    subst e1
    obtain ⟨p2, o2, e2, _⟩ := h.a.addr (by omega)
    subst e2
    have hW := w_of (n := na) (by omega)
    have HTL := Lib.hid h
    have HLB := Lib.hid hlb
    have HM : Hid (na ≤ 256) := Lib.hid (by omega)
    by_cases hc : na ≤ c.toNat
    · have HP : Hid (pE T be al c.toNat u = 2) := Lib.hid (pe_out HE.out (Or.inl (by rw [HLB.out]; exact hc)))
      have HV : Hid (tV T be al c.toNat u = 0) := Lib.hid (tv_no (by rw [HP.out]; decide))
      have hd : decide ((na : Int) ≤ W64 c) = true := decide_eq_true (by unfold W64; omega)
      rw [HP.out, HV.out]
      clear hE hn1 hn2 hna hT0 hT1 hbb hab hlb hla h hc
      go_enter Try.func18, Try.ntmps18
      go_wp2_with fail
      refine HCH.out.mono ?_
      rintro e w1 ⟨rfl, n1⟩
      have k0 := cell_of_row _ _ 0 _ _ _ (blk_stay HBX.out n1)
      have k1 := cell_of_row _ _ 1 _ _ _ (blk_stay HBX.out n1)
      have HN1 := Lib.hid (HN0.out.trans n1)
      clear n1 HCH
      go_wp2
      refine bodyPost_ret (by simp [results, Try.results18, go_sem]; try rfl) rfl ?_
      exact ⟨rfl, HN1.out⟩
    · have hd : decide ((na : Int) ≤ W64 c) = false := decide_eq_false (by unfold W64; omega)
      by_cases ht : T.toNat ≤ u.toNat
      · have HP : Hid (pE T be al c.toNat u = 2) := Lib.hid (pe_out HE.out (Or.inr ht))
        have HV : Hid (tV T be al c.toNat u = 0) := Lib.hid (tv_no (by rw [HP.out]; decide))
        have hd2 : decide (W64 T ≤ W64 u) = true := decide_eq_true (by unfold W64; omega)
        rw [HP.out, HV.out]
        clear hE hn1 hn2 hna hT0 hT1 hbb hab hlb hla h hc ht
        go_enter Try.func18, Try.ntmps18
        go_wp2_with fail
        refine HCH.out.mono ?_
        rintro e w1 ⟨rfl, n1⟩
        have k0 := cell_of_row _ _ 0 _ _ _ (blk_stay HBX.out n1)
        have k1 := cell_of_row _ _ 1 _ _ _ (blk_stay HBX.out n1)
        have HN1 := Lib.hid (HN0.out.trans n1)
        clear n1 HCH
        go_wp2
        refine bodyPost_ret (by simp [results, Try.results18, go_sem]; try rfl) rfl ?_
        exact ⟨rfl, HN1.out⟩
      · have HP : Hid (pE T be al c.toNat u = 0) := Lib.hid (pe_ok HE.out (by rw [HLB.out]; omega))
        have hd2 : decide (W64 T ≤ W64 u) = false := decide_eq_false (by unfold W64; omega)
        rw [HP.out]
        obtain ⟨i, hi⟩ : ∃ i, c.toNat = i := ⟨_, rfl⟩
        have hci : W64 c = (i : Int) := by unfold W64; rw [hi]
        have hin : i < na := by omega
        have hi0 : (0 : Int) ≤ (i : Int) := by omega
        have hi1 : (i : Int) < (na : Int) := by omega
        have HWR : Hid (wrap64 (i : Int) = (i : Int)) := Lib.hid (by unfold wrap64; omega)
        rw [hi] at HP ⊢
        rw [hci] at hd ⊢
        have HL := Lib.hid (tv_lo (T := T) (be := be) (al := al) HP.out)
        have HH := Lib.hid (tv_hi (T := T) (be := be) (al := al) HP.out)
        obtain ⟨x, hx⟩ : ∃ x, be.getD i 0 = x := ⟨_, rfl⟩
        obtain ⟨y, hy⟩ : ∃ y, al.getD i 0 = y := ⟨_, rfl⟩
        have hdd := dlt u x
        have HX := Lib.hid hx
        have HY := Lib.hid hy
        rcases hb : decide (u.toNat < x.toNat) with _ | _
        all_goals (
          rw [hb] at hdd
          first
            | (have HV : Hid (tV T be al i u = (i : Int)) := Lib.hid (HL.out (by rw [HX.out]; exact of_decide_eq_true hb)))
            | (have HV : Hid (tV T be al i u = y) := Lib.hid ((HH.out (by rw [HX.out]; exact of_decide_eq_false hb)).trans HY.out))
          rw [HV.out]
          clear hE hn1 hn2 hna hT0 hT1 hbb hab hlb hla h hc ht hb hx hy hi hci
          go_enter Try.func18, Try.ntmps18
          go_wp2_with fail
          refine HCH.out.mono ?_
          rintro e w1 ⟨rfl, n1⟩
          have k0 := cell_of_row _ _ 0 _ _ _ (blk_stay HBX.out n1)
          have k1 := cell_of_row _ _ 1 _ _ _ (blk_stay HBX.out n1)
          have k2 := cell_of_row _ _ 2 _ _ _ (blk_stay HBX.out n1)
          have HN1 := Lib.hid (HN0.out.trans n1)
          have d1 := (HTL.out.b.stay HN1.out).cell p1 o1 rfl i hin
          have d2 := (HTL.out.a.stay HN1.out).cell p2 o2 rfl i hin
          rw [HX.out] at d1
          rw [HY.out] at d2
          clear n1 HCH
          go_wp2
          refine bodyPost_ret (by simp [results, Try.results18, go_sem]; try rfl) rfl ?_
          exact ⟨by first | rfl | rw [HWR.out], HN1.out⟩)
  · have HP := Lib.hid (pe_bad (c := c.toNat) (u := u) hE)
    have HV : Hid (tV T be al c.toNat u = 0) := Lib.hid (tv_no (by rw [HP.out]; exact hE))
    rw [HP.out, HV.out]
    obtain ⟨z, hz⟩ : ∃ z, tE T be al = z := ⟨_, rfl⟩
    rw [hz] at HCH hE ⊢
    have hb : (z != 0) = true := by rw [bne_iff_ne]; exact hE
    clear hE hz h k0 k1 k2
    have k0 := cell_of_row _ _ 0 _ _ _ HBX.out
    have k1 := cell_of_row _ _ 1 _ _ _ HBX.out
    have k2 := cell_of_row _ _ 2 _ _ _ HBX.out
    go_enter Try.func18, Try.ntmps18
    go_wp2_with fail
    refine HCH.out.mono ?_
    rintro e w1 ⟨rfl, n1⟩
    have HN1 := Lib.hid (HN0.out.trans n1)
    clear n1 HCH k0 k1 k2
    go_wp2
    refine bodyPost_ret (by simp [results, Try.results18, go_sem]; try rfl) rfl ?_
    exact ⟨rfl, HN1.out⟩
end Go.Proofs.Ytbjclkjikclljaa
