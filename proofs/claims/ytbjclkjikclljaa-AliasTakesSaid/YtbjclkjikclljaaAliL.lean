/- Layer 43: the document's Ahead. -/
import Derived.Test.YtbjclkjikclljaaAliK
namespace Go.Ali
def mn (a b : BitVec 64) : BitVec 64 := if a.toNat ≤ b.toNat then a else b
/-- the pairs ahead of a pair in the first k columns that tell an item: the document's -/
def ahK (T : BitVec 64) (be : List (BitVec 64)) (al : List Int) (c : Nat) (u : BitVec 64) (j : Int) : Nat → BitVec 64
  | 0 => 0#64
  | k + 1 => if c < k then ahK T be al c u j k else ahK T be al c u j k + (if (k : Int) = j then mn (if k = c then u else T) (be.getD k 0) else 0#64) + (if al.getD k 0 = j then (if k = c then u else T) - mn (if k = c then u else T) (be.getD k 0) else 0#64)
theorem sz_low {x u : BitVec 64} : szV 0#64 x u = mn u x := by
  unfold szV mn
  have h0 : (0#64).toNat = 0 := rfl
  by_cases h1 : u.toNat ≤ (0#64).toNat
  · rw [if_pos h1, if_pos (by omega)]; exact BitVec.eq_of_toNat_eq (by omega)
  · rw [if_neg h1, BitVec.sub_zero]
theorem sz_high {x T u : BitVec 64} (h : u.toNat ≤ T.toNat) : szV x T u = u - mn u x := by
  unfold szV mn
  by_cases h1 : u.toNat ≤ x.toNat
  · rw [if_pos h1, if_pos h1, BitVec.sub_self]
  · rw [if_neg h1, if_neg h1, if_pos h]
theorem bf_ahead {T : BitVec 64} {be : List (BitVec 64)} {al : List Int} {j : Int} {c : Nat} {u : BitVec 64} (hu : u.toNat ≤ T.toNat) : ∀ {k : Nat}, bfK T be al j (c : Int) u k = ahK T be al c u j k
  | 0 => rfl
  | k + 1 => by
    rw [bf_next, bf_ahead hu (k := k)]
    show _ = if c < k then ahK T be al c u j k else _
    by_cases h1 : c < k
    · rw [if_pos h1, cf_gt _ _ (by omega) (by omega), cf_gt _ _ (by omega) (by omega), BitVec.add_zero, BitVec.add_zero]
    · rw [if_neg h1]
      by_cases h2 : k = c
      · rw [if_pos h2, cf_eq _ _ (by omega), cf_eq _ _ (by omega)]
        unfold sp0 sp1 sp2
        congr 1
        · congr 1
          by_cases e : (k : Int) = j
          · rw [if_pos e, if_pos e, sz_low]
          · rw [if_neg e, if_neg e, sz_none]
        · by_cases e : al.getD k 0 = j
          · rw [if_pos e, if_pos e, if_pos e, sz_high hu]
          · rw [if_neg e, if_neg e, if_neg e, sz_none]
      · rw [if_neg h2, cf_lt _ _ (by omega), cf_lt _ _ (by omega)]
        unfold sp0 sp1 sp2
        congr 1
        · congr 1
          by_cases e : (k : Int) = j
          · rw [if_pos e, if_pos e, sz_low]
          · rw [if_neg e, if_neg e, sz_none]
        · by_cases e : al.getD k 0 = j
          · rw [if_pos e, if_pos e, if_pos e, sz_high (Nat.le_refl _)]
          · rw [if_neg e, if_neg e, if_neg e, sz_none]
end Go.Ali
namespace Go.Proofs.Ytbjclkjikclljaa
open Go Go.RowKit Go.Bv Go.Ali
set_option linter.unusedVariables false
set_option maxRecDepth 100000
theorem mn_of (u x : BitVec 64) : BitVec.ofInt 64 (if W64 x < W64 u then W64 x else W64 u) = mn u x := by
  unfold mn W64
  by_cases h : u.toNat ≤ x.toNat
  · rw [if_pos h, if_neg (by omega), BitVec.ofInt_natCast, BitVec.ofNat_toNat, BitVec.setWidth_eq]
  · rw [if_neg h, if_pos (by omega), BitVec.ofInt_natCast, BitVec.ofNat_toNat, BitVec.setWidth_eq]
set_option maxHeartbeats 8000000 in
theorem aheadr_43 (T : BitVec 64) (ab : Option Addr) (n cb : Nat) (aa : Option Addr) (ca : Nat) (be : List (BitVec 64)) (al : List Int) (c u : BitVec 64) (j : Int) (hn : 0 < n) (hn2 : n ≤ 256) (w : World) (h : TL w ab n cb aa n ca be al) :
    Calls Try.prog 21 #[tv T ab n cb aa n ca, .int .u64 (W64 c), .int .u64 (W64 u), .int .i64 j] w fun e w' => e = .returned (.int .u64 (W64 (ahK T be al c.toNat u j n))) ∧ New w w' := by
  have hm := h.b.most
  have hbx := heap_alloc_new w (TB (.int .u64 (W64 T)) (.slice ab n cb) (.slice aa n ca))
  have hn0 := (New.refl w).alloc (TB (.int .u64 (W64 T)) (.slice ab n cb) (.slice aa n ca))
  have k1 := cell_of_row _ _ 1 _ _ _ hbx
  have hz : W64 0#64 = 0 := W64_lit 0 (by omega)
  have HT0 : Hid (Value.int .u64 0 = .int .u64 (W64 (ahK T be al c.toNat u j 0))) := Lib.hid (by rw [show ahK T be al c.toNat u j 0 = 0#64 from rfl, hz])
  obtain ⟨p1, o1, e1, _⟩ := h.b.addr (by omega)
  subst e1
  obtain ⟨p2, o2, e2, _⟩ := h.a.addr (by omega)
  subst e2
  have HTL := Lib.hid h
  have HBX := Lib.hid hbx
  have HN0 := Lib.hid hn0
  have HN256 := Lib.hid hn2
  clear hbx hn0 h hz hn hn2
  go_enter Try.func21, Try.ntmps21
  go_wp2
  go_loopw [9, 15] (fun sv iv wr => ∃ k : Nat, k ≤ n ∧ iv = .int .i64 (k : Int) ∧ sv = .int .u64 (W64 (ahK T be al c.toNat u j k)) ∧ Hid (New (w.alloc (TB (.int .u64 (W64 T)) (.slice (some ⟨p1, o1, none⟩) n cb) (.slice (some ⟨p2, o2, none⟩) n ca))) wr)) (fun _ iv _ => n - (intOf iv).toNat)
  case atStart => exact ⟨0, Nat.zero_le _, rfl, HT0.out, Lib.hid (New.refl _)⟩
  case round =>
    clear k1 HT0
    obtain ⟨k, hk, rfl, rfl, HN⟩ := hrel
    by_cases hlt : (k : Int) < (n : Int)
    · have hk0 : (0 : Int) ≤ (k : Int) := by omega
      have hkn : k < n := by omega
      have k0 := cell_of_row _ _ 0 _ _ _ (blk_stay HBX.out HN.out)
      have k1 := cell_of_row _ _ 1 _ _ _ (blk_stay HBX.out HN.out)
      have k2 := cell_of_row _ _ 2 _ _ _ (blk_stay HBX.out HN.out)
      have d1 := (HTL.out.b.stay (HN0.out.trans HN.out)).cell p1 o1 rfl k hkn
      have d2 := (HTL.out.a.stay (HN0.out.trans HN.out)).cell p2 o2 rfl k hkn
      have hW := w_of (n := k) (by have := HN256.out; omega)
      have HS : Hid (ahK T be al c.toNat u j (k + 1) = if c.toNat < k then ahK T be al c.toNat u j k else ahK T be al c.toNat u j k + (if (k : Int) = j then mn (if k = c.toNat then u else T) (be.getD k 0) else 0#64) + (if al.getD k 0 = j then (if k = c.toNat then u else T) - mn (if k = c.toNat then u else T) (be.getD k 0) else 0#64)) := Lib.hid rfl
      obtain ⟨s, hs⟩ : ∃ s, ahK T be al c.toNat u j k = s := ⟨_, rfl⟩
      obtain ⟨x, hx⟩ : ∃ x, be.getD k 0 = x := ⟨_, rfl⟩
      obtain ⟨y, hy⟩ : ∃ y, al.getD k 0 = y := ⟨_, rfl⟩
      rw [hx] at d1
      rw [hy] at d2
      rw [hs, hx, hy] at HS
      rw [hs]
      have HD := Lib.hid HN.out.drew
      clear hs hx hy
      by_cases h1 : c.toNat < k
      · rw [if_pos h1] at HS
        have hg : decide (W64 c < (k : Int)) = true := decide_eq_true (by unfold W64; omega)
        clear h1
        go_wp2
        exact ⟨⟨k + 1, by omega, by go_num, by rw [HS.out], HN⟩, by simp [intOf]; omega⟩
      · rw [if_neg h1] at HS
        have hg : decide (W64 c < (k : Int)) = false := decide_eq_false (by unfold W64; omega)
        have hq : ((k : Int) == W64 c) = decide (k = c.toNat) := by
          rw [Bool.eq_iff_iff, beq_iff_eq, decide_eq_true_eq]; unfold W64; omega
        have hqs : (W64 c == (k : Int)) = decide (k = c.toNat) := by
          rw [Bool.eq_iff_iff, beq_iff_eq, decide_eq_true_eq]; unfold W64; omega
        obtain ⟨b1, hb1⟩ : ∃ b, ((k : Int) == j) = b := ⟨_, rfl⟩
        obtain ⟨b2, hb2⟩ : ∃ b, (y == j) = b := ⟨_, rfl⟩
        have HS1 : Hid (b1 = true ↔ (k : Int) = j) := Lib.hid (by rw [← hb1, beq_iff_eq])
        have HS2 : Hid (b2 = true ↔ y = j) := Lib.hid (by rw [← hb2, beq_iff_eq])
        clear h1
        obtain ⟨m, hmo⟩ : ∃ m, (if k = c.toNat then u else T) = m := ⟨_, rfl⟩
        rw [hmo] at HS
        obtain ⟨e1, he1⟩ : ∃ e, (if (k : Int) = j then mn m x else 0#64) = e := ⟨_, rfl⟩
        obtain ⟨e2, he2⟩ : ∃ e, (if y = j then m - mn m x else 0#64) = e := ⟨_, rfl⟩
        rw [he1, he2] at HS
        have HF1 : Hid ((b1 = true → e1 = mn m x) ∧ (b1 = false → e1 = 0#64)) := Lib.hid ⟨fun e => by rw [← he1, if_pos (HS1.out.1 e)], fun e => by rw [← he1, if_neg (fun q => by rw [HS1.out.2 q] at e; cases e)]⟩
        have HF2 : Hid ((b2 = true → e2 = m - mn m x) ∧ (b2 = false → e2 = 0#64)) := Lib.hid ⟨fun e => by rw [← he2, if_pos (HS2.out.1 e)], fun e => by rw [← he2, if_neg (fun q => by rw [HS2.out.2 q] at e; cases e)]⟩
        have HMN := Lib.hid (mn_of m x)
        by_cases h2 : k = c.toNat
        · rw [if_pos h2] at hmo
          rw [decide_eq_true h2] at hq hqs
          clear h2 he1 he2
          subst hmo
          rcases b1 with _ | _ <;> rcases b2 with _ | _
          all_goals (
            go_wp2
            refine ⟨⟨k + 1, by omega, by go_num, ?_, HN⟩, by simp [intOf]; omega⟩
            rw [HS.out]
            first | rw [HF1.out.1 rfl] | rw [HF1.out.2 rfl, BitVec.add_zero]
            first | rw [HF2.out.1 rfl] | rw [HF2.out.2 rfl, BitVec.add_zero]
            try rw [HMN.out])
        · rw [if_neg h2] at hmo
          rw [decide_eq_false h2] at hq hqs
          clear h2 he1 he2
          subst hmo
          rcases b1 with _ | _ <;> rcases b2 with _ | _
          all_goals (
            go_wp2
            refine ⟨⟨k + 1, by omega, by go_num, ?_, HN⟩, by simp [intOf]; omega⟩
            rw [HS.out]
            first | rw [HF1.out.1 rfl] | rw [HF1.out.2 rfl, BitVec.add_zero]
            first | rw [HF2.out.1 rfl] | rw [HF2.out.2 rfl, BitVec.add_zero]
            try rw [HMN.out])
    · obtain rfl : k = n := by omega
      go_wp2
      go_ret
      exact ⟨rfl, HN0.out.trans HN.out⟩
end Go.Proofs.Ytbjclkjikclljaa
