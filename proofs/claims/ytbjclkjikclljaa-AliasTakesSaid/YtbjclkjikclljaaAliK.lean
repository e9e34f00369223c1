/- Layer 43: the document's Tell and Weight. -/
import Derived.Test.YtbjclkjikclljaaAliJ
namespace Go.Ali
/-- the pairs of the first k columns that tell an item -/
def rwK (T : BitVec 64) (be : List (BitVec 64)) (al : List Int) (j : Int) : Nat → BitVec 64
  | 0 => 0#64
  | k + 1 => rwK T be al j k + (if (k : Int) = j then be.getD k 0 else 0#64) + (if al.getD k 0 = j then T - be.getD k 0 else 0#64)
theorem sz_top {x T : BitVec 64} (h : x.toNat ≤ T.toNat) : szV 0#64 x T = x := by
  unfold szV
  by_cases h0 : T.toNat ≤ (0#64).toNat
  · rw [if_pos h0]
    have : (0#64).toNat = 0 := rfl
    exact BitVec.eq_of_toNat_eq (by omega)
  · rw [if_neg h0, BitVec.sub_zero]
    by_cases h1 : T.toNat ≤ x.toNat
    · rw [if_pos h1]; exact BitVec.eq_of_toNat_eq (by omega)
    · rw [if_neg h1]
theorem sz_rest {x T : BitVec 64} (h : x.toNat ≤ T.toNat) : szV x T T = T - x := by
  unfold szV
  by_cases h1 : T.toNat ≤ x.toNat
  · rw [if_pos h1, show x = T from BitVec.eq_of_toNat_eq (by omega), BitVec.sub_self]
  · rw [if_neg h1, if_pos (Nat.le_refl _)]
theorem sz_none (u : BitVec 64) : szV 0#64 0#64 u = 0#64 := by
  unfold szV
  have h0 : (0#64).toNat = 0 := rfl
  by_cases h1 : u.toNat ≤ (0#64).toNat
  · rw [if_pos h1]
  · rw [if_neg h1, if_neg h1, BitVec.sub_zero]
theorem bf_weight {T : BitVec 64} {be : List (BitVec 64)} {al : List Int} {j c : Int} {u : BitVec 64} : ∀ {k : Nat}, (k : Int) ≤ c → (∀ i, i < k → (be.getD i 0).toNat ≤ T.toNat) → bfK T be al j c u k = rwK T be al j k
  | 0, _, _ => rfl
  | k + 1, hk, h => by
    have hx := h k (by omega)
    rw [bf_next, bf_weight (k := k) (by omega) (fun i hi => h i (by omega)), cf_lt _ _ (by omega), cf_lt _ _ (by omega)]
    show rwK T be al j k + _ + _ = rwK T be al j k + _ + _
    unfold sp0 sp1 sp2
    congr 1
    · congr 1
      by_cases e : (k : Int) = j
      · rw [if_pos e, sz_top hx]
      · rw [if_neg e, sz_none]
    · by_cases e : al.getD k 0 = j
      · rw [if_pos e, if_pos e, if_pos e, sz_rest hx]
      · rw [if_neg e, if_neg e, if_neg e, sz_none]
end Go.Ali
namespace Go.Proofs.Ytbjclkjikclljaa
open Go Go.RowKit Go.Bv Go.Ali
set_option linter.unusedVariables false
set_option maxRecDepth 100000
set_option maxHeartbeats 8000000 in
theorem tellr_43 (T : BitVec 64) (ab : Option Addr) (n cb : Nat) (aa : Option Addr) (ca : Nat) (be : List (BitVec 64)) (al : List Int) (c u : BitVec 64) (hc : c.toNat < n) (w : World) (h : TL w ab n cb aa n ca be al) :
    Calls Try.prog 20 #[tv T ab n cb aa n ca, .int .u64 (W64 c), .int .u64 (W64 u)] w fun e w' => e = .returned (.int .i64 (tlV be al c.toNat u)) ∧ New w w' := by
  have hm := h.b.most
  have hbx := heap_alloc_new w (TB (.int .u64 (W64 T)) (.slice ab n cb) (.slice aa n ca))
  have hn0 := (New.refl w).alloc (TB (.int .u64 (W64 T)) (.slice ab n cb) (.slice aa n ca))
  have k1 := cell_of_row _ _ 1 _ _ _ hbx
  have k2 := cell_of_row _ _ 2 _ _ _ hbx
  have HN0 := Lib.hid hn0
  obtain ⟨p1, o1, e1, _⟩ := h.b.addr (by omega)
  subst e1
  obtain ⟨p2, o2, e2, _⟩ := h.a.addr (by omega)
  subst e2
  obtain ⟨i, hi⟩ : ∃ i, c.toNat = i := ⟨_, rfl⟩
  have hci : W64 c = (i : Int) := by unfold W64; rw [hi]
  have hin : i < n := by omega
  have hi0 : (0 : Int) ≤ (i : Int) := by omega
  have hi1 : (i : Int) < (n : Int) := by omega
  have HWR : Hid (wrap64 (i : Int) = (i : Int)) := Lib.hid (by unfold wrap64; omega)
  rw [hi, hci]
  have d1 := (h.b.stay hn0).cell p1 o1 rfl i hin
  have d2 := (h.a.stay hn0).cell p2 o2 rfl i hin
  have HT : Hid (tlV be al i u = if u.toNat < (be.getD i 0).toNat then (i : Int) else al.getD i 0) := Lib.hid rfl
  obtain ⟨x, hx⟩ : ∃ x, be.getD i 0 = x := ⟨_, rfl⟩
  obtain ⟨y, hy⟩ : ∃ y, al.getD i 0 = y := ⟨_, rfl⟩
  rw [hx] at d1 HT
  rw [hy] at d2 HT
  have hdd := dlt u x
  rcases hb : decide (u.toNat < x.toNat) with _ | _
  all_goals (
    rw [hb] at hdd
    first
      | (have HV : Hid (tlV be al i u = (i : Int)) := Lib.hid (HT.out.trans (if_pos (of_decide_eq_true hb))))
      | (have HV : Hid (tlV be al i u = y) := Lib.hid (HT.out.trans (if_neg (of_decide_eq_false hb))))
    rw [HV.out]
    clear h hc hb hx hy hi hci hbx hn0 hm
    go_enter Try.func20, Try.ntmps20
    go_wp2
    go_ret
    exact ⟨by first | rfl | (rw [HWR.out]; rfl), HN0.out⟩)
set_option maxHeartbeats 8000000 in
theorem weightr_43 (T : BitVec 64) (ab : Option Addr) (n cb : Nat) (aa : Option Addr) (ca : Nat) (be : List (BitVec 64)) (al : List Int) (j : Int) (hn : 0 < n) (w : World) (h : TL w ab n cb aa n ca be al) :
    Calls Try.prog 16 #[tv T ab n cb aa n ca, .int .i64 j] w fun e w' => e = .returned (.int .u64 (W64 (rwK T be al j n))) ∧ New w w' := by
  have hm := h.b.most
  have hbx := heap_alloc_new w (TB (.int .u64 (W64 T)) (.slice ab n cb) (.slice aa n ca))
  have hn0 := (New.refl w).alloc (TB (.int .u64 (W64 T)) (.slice ab n cb) (.slice aa n ca))
  have k1 := cell_of_row _ _ 1 _ _ _ hbx
  have hz : W64 0#64 = 0 := W64_lit 0 (by omega)
  have HT0 : Hid (Value.int .u64 0 = .int .u64 (W64 (rwK T be al j 0))) := Lib.hid (by rw [show rwK T be al j 0 = 0#64 from rfl, hz])
  obtain ⟨p1, o1, e1, _⟩ := h.b.addr (by omega)
  subst e1
  obtain ⟨p2, o2, e2, _⟩ := h.a.addr (by omega)
  subst e2
  have HTL := Lib.hid h
  have HBX := Lib.hid hbx
  have HN0 := Lib.hid hn0
  clear hbx hn0 h hz hn
  go_enter Try.func16, Try.ntmps16
  go_wp2
  go_loopw [5, 10] (fun sv iv wr => ∃ k : Nat, k ≤ n ∧ iv = .int .i64 (k : Int) ∧ sv = .int .u64 (W64 (rwK T be al j k)) ∧ Hid (New (w.alloc (TB (.int .u64 (W64 T)) (.slice (some ⟨p1, o1, none⟩) n cb) (.slice (some ⟨p2, o2, none⟩) n ca))) wr)) (fun _ iv _ => n - (intOf iv).toNat)
  case atStart => exact ⟨0, Nat.zero_le _, rfl, HT0.out, Lib.hid (New.refl _)⟩
  case round =>
    clear k1 HT0
    obtain ⟨k, hk, rfl, rfl, HN⟩ := hrel
    by_cases hlt : (k : Int) < (n : Int)
    · have hk0 : (0 : Int) ≤ (k : Int) := by omega
      have hkn : k < n := by omega
      have k0 := cell_of_row _ _ 0 _ _ _ (blk_stay HBX.out HN.out)
      have k1 := cell_of_row _ _ 1 _ _ _ (blk_stay HBX.out HN.out)
      have k2 := cell_of_row _ _ 2 _ _ _ (blk_stay HBX.out HN.out)
      have d1 := (HTL.out.b.stay (HN0.out.trans HN.out)).cell p1 o1 rfl k hkn
      have d2 := (HTL.out.a.stay (HN0.out.trans HN.out)).cell p2 o2 rfl k hkn
      have HS : Hid (rwK T be al j (k + 1) = rwK T be al j k + (if (k : Int) = j then be.getD k 0 else 0#64) + (if al.getD k 0 = j then T - be.getD k 0 else 0#64)) := Lib.hid rfl
      obtain ⟨s, hs⟩ : ∃ s, rwK T be al j k = s := ⟨_, rfl⟩
      obtain ⟨x, hx⟩ : ∃ x, be.getD k 0 = x := ⟨_, rfl⟩
      obtain ⟨y, hy⟩ : ∃ y, al.getD k 0 = y := ⟨_, rfl⟩
      rw [hx] at d1
      rw [hy] at d2
      rw [hs, hx, hy] at HS
      rw [hs]
      have HD := Lib.hid HN.out.drew
      clear hs hx hy
      by_cases h1 : (k : Int) = j <;> by_cases h2 : y = j
      · rw [if_pos h1, if_pos h2] at HS
        have hb1 : ((k : Int) == j) = true := by rw [beq_iff_eq]; exact h1
        have hb2 : (y == j) = true := by rw [beq_iff_eq]; exact h2
        clear h1 h2
        go_wp2
        go_region
        go_wp2
        exact ⟨⟨k + 1, by omega, by go_num, by rw [HS.out], by first | exact HN | exact HD⟩, by simp [intOf]; omega⟩
      · rw [if_pos h1, if_neg h2, BitVec.add_zero] at HS
        have hb1 : ((k : Int) == j) = true := by rw [beq_iff_eq]; exact h1
        have hb2 : (y == j) = false := by rw [beq_eq_false_iff_ne]; exact h2
        clear h1 h2
        go_wp2
        exact ⟨⟨k + 1, by omega, by go_num, by rw [HS.out], HN⟩, by simp [intOf]; omega⟩
      · rw [if_neg h1, if_pos h2, BitVec.add_zero] at HS
        have hb1 : ((k : Int) == j) = false := by rw [beq_eq_false_iff_ne]; exact h1
        have hb2 : (y == j) = true := by rw [beq_iff_eq]; exact h2
        clear h1 h2
        go_wp2
        go_region
        go_wp2
        exact ⟨⟨k + 1, by omega, by go_num, by rw [HS.out], by first | exact HN | exact HD⟩, by simp [intOf]; omega⟩
      · rw [if_neg h1, if_neg h2, BitVec.add_zero, BitVec.add_zero] at HS
        have hb1 : ((k : Int) == j) = false := by rw [beq_eq_false_iff_ne]; exact h1
        have hb2 : (y == j) = false := by rw [beq_eq_false_iff_ne]; exact h2
        clear h1 h2
        go_wp2
        exact ⟨⟨k + 1, by omega, by go_num, by rw [HS.out], HN⟩, by simp [intOf]; omega⟩
    · obtain rfl : k = n := by omega
      go_wp2
      go_ret
      exact ⟨rfl, HN0.out.trans HN.out⟩
end Go.Proofs.Ytbjclkjikclljaa
