/- gf2: used, Trim, Deg, Coef, Add. -/
import Derived.Test.YtppmpledcaonkaaGf2M
import Derived.Test.YtppmpledcaonkaaCloQ
import Derived.Test.YtppmpledcaonkaaShfM
import Derived.Test.YtppmpledcaonkaaShelf
import Derived.BigRegion
import Derived.WalkMore
import Derived.ScopeJumps
import Derived.Lib.ItoaNum
namespace Go.Bv
open Go Go.RowKit
set_option linter.unusedVariables false
/-- a row of words of one's own at an index -/
theorem ow_w64 {w : World} {base g n cap : Nat} {e : TypeId} {l : List (BitVec 64)} (h : w.ownsRow base e 1 (.slice (some ⟨g, 0, none⟩) n cap) n (l.map fun x => .int .u64 (W64 x))) {k : Nat} (hk : k < n) : w.cell? ⟨g, k, none⟩ = some (.int .u64 (W64 (l.getD k 0))) ∧ w.frozen? ⟨g, k, none⟩ = false := by
  have hl : l.length = n := by have := h.1; simpa using this
  refine ow_cell h ?_
  rw [List.getElem?_map, List.getD_eq_getElem?_getD, List.getElem?_eq_getElem (by omega)]; rfl
theorem QRow.sliced {w : World} {x : Addr} {len cap : Nat} {l : List (BitVec 64)} (h : QRow w (some x) len cap l) (n : Nat) (hn : n ≤ len) : QRow w (some x) n cap (l.take n) where
  len_eq := by have := h.len_eq; rw [List.length_take]; omega
  le := Nat.le_trans hn h.le
  most := by have := h.most; omega
  room := h.room
  none := (fun e => by cases e)
  cell := fun b2 o2 e i hi => by
    rw [h.cell b2 o2 e i (by omega), List.getD_eq_getElem?_getD, List.getD_eq_getElem?_getD, List.getElem?_take, if_pos hi]
  spot := fun x e h0 => h.spot x e (by omega)
  old := fun x e h0 => h.old x e (by omega)
end Go.Bv
namespace Go.Proofs.Ytppmpledcaonkaa
open Go Go.RowKit Go.Bv Go.G2
set_option linter.unusedVariables false
/-- how many words are used -/
def usN (l : List (BitVec 64)) : Nat := (bl (vW l) + 63) / 64
theorem us_le (l : List (BitVec 64)) : usN l ≤ l.length := by have := bl_vW l; unfold usN; omega
theorem us_take (l : List (BitVec 64)) : l.take (usN l) = tW (vW l) := by
  unfold tW
  show _ = wL (usN l) _
  have h := us_le l
  apply G2.words_eq (n := usN l) (by rw [List.length_take]; omega) (wL_len _ _)
  intro i hi
  rw [wL_get hi, vW_div, List.getD_eq_getElem?_getD, List.getElem?_take, if_pos hi, ← List.getD_eq_getElem?_getD]
theorem us_tW (n : Nat) : usN (tW n) = (tW n).length := by unfold usN; rw [vW_tW, tW_len]
theorem us_is {l : List (BitVec 64)} {u : Nat} (hu : u ≤ l.length) (h0 : ∀ i, u ≤ i → i < l.length → l.getD i 0 = 0#64) (h1 : u = 0 ∨ l.getD (u - 1) 0 ≠ 0#64) : u = usN l := (take_tW hu h0 h1).2
set_option maxRecDepth 100000 in
set_option maxHeartbeats 1000000 in
theorem used_q (a : Option Addr) (n c : Nat) (l : List (BitVec 64)) (w : World) (h : QRow w a n c l) :
    Calls Try.prog 55 #[.slice a n c] w fun e w' => e = .returned (.int .i64 (usN l : Int)) ∧ w' = w := by
  have hm := h.most
  have HH := Lib.hid h
  have HU : Hid (∀ u, u ≤ n → (∀ i, u ≤ i → i < n → l.getD i 0 = 0#64) → u = 0 ∨ l.getD (u - 1) 0 ≠ 0#64 → u = usN l) := Lib.hid (fun u hu h0 h1 => us_is (by rw [h.len_eq]; exact hu) (by rw [h.len_eq]; exact h0) h1)
  obtain ⟨U, hU⟩ : ∃ U, usN l = U := ⟨_, rfl⟩
  rw [hU] at HU ⊢
  clear h hU
  go_enter Try.func55, Try.ntmps55
  go_wp2_with fail
  go_step3
  go_wp2_with fail
  go_step3
  go_wp2_with fail
  go_loop [3] (fun iv => ∃ u : Nat, u ≤ n ∧ iv = .int .i64 (u : Int) ∧ Hid (∀ i, u ≤ i → i < n → l.getD i 0 = 0#64)) (fun iv => (intOf iv).toNat)
  case atStart => exact ⟨n, Nat.le_refl _, rfl, Lib.hid (fun i h1 h2 => by omega)⟩
  case round =>
    obtain ⟨u, hu, rfl, HZ⟩ := hrel
    by_cases h0 : 0 < (u : Int)
    · obtain ⟨t, rfl⟩ : ∃ t, u = t + 1 := ⟨u - 1, by omega⟩
      have hw1 : wrap64 (((t + 1 : Nat) : Int) - 1) = (t : Int) := by unfold wrap64; omega
      have ht0 : (0 : Int) ≤ (t : Int) := by omega
      have htn : (t : Int) < (n : Int) := by omega
      obtain ⟨b, off, rfl, hc⟩ := HH.out.addr (by omega)
      have c1 := hc t (by omega)
      clear hc
      obtain ⟨x, hx⟩ : ∃ x, l.getD t 0 = x := ⟨_, rfl⟩
      rw [hx] at c1
      have HX := Lib.hid hx
      clear hx
      rcases he : (x != 0#64) with _ | _
      · have HZ2 : Hid (∀ i, t ≤ i → i < n → l.getD i 0 = 0#64) := Lib.hid (fun i h1 h2 => by
          by_cases e : i = t
          · subst e; rw [HX.out]; exact of_nbne he
          · exact HZ.out i (by omega) h2)
        go_wp2
        exact ⟨⟨t, by omega, by go_num, HZ2⟩, by simp [intOf] <;> omega⟩
      · have HF := Lib.hid (HU.out (t + 1) hu HZ.out (.inr (by rw [Nat.add_sub_cancel, HX.out]; exact of_bne he)))
        go_wp2_with fail
        go_ret
        rw [← HF.out]; exact ⟨rfl, rfl⟩
    · obtain rfl : u = 0 := by omega
      have HF := Lib.hid (HU.out 0 hu HZ.out (.inl rfl))
      go_wp2
      go_ret
      rw [← HF.out]; exact ⟨rfl, rfl⟩
theorem QRow.clone_ok {w w1 : World} {base : Nat} {v : Value} {n : Nat} {l : List (BitVec 64)} (h : w1.ownsRow base 34 1 v n (l.map fun x => .int .u64 (W64 x))) (hn : n ≤ 17592186044416) : ∃ a c, v = .slice a n c ∧ QRow w1 a n c l := QRow.of_owns h hn
set_option maxRecDepth 100000 in
set_option maxHeartbeats 1000000 in
theorem trim_q (a : Option Addr) (n c : Nat) (l : List (BitVec 64)) (w : World) (h : QRow w a n c l) :
    Calls Try.prog 21 #[.slice a n c] w fun e w' => ∃ a' c', e = .returned (.slice a' (tW (vW l)).length c') ∧ QRow w' a' (tW (vW l)).length c' (tW (vW l)) ∧ New w w' := by
  have HUS := Lib.hid (used_q a n c l w h)
  have hus := us_le l
  rw [h.len_eq] at hus
  have htk := us_take l
  have hm := h.most
  have hr := h.room
  have hle := h.le
  have hlen : (tW (vW l)).length = usN l := tW_len _
  rw [hlen]
  obtain ⟨U, hU⟩ : ∃ U, usN l = U := ⟨_, rfl⟩
  rw [hU] at HUS hus htk ⊢
  clear hU hlen
  cases a with
  | none =>
    obtain ⟨rfl, rfl⟩ := h.none rfl
    obtain rfl : U = 0 := by omega
    have hq : QRow w none 0 0 (tW (vW l)) := ⟨by rw [← htk]; rfl, Nat.le_refl _, by omega, by omega, fun _ => ⟨rfl, rfl⟩, (fun _ _ e => by cases e), (fun _ e => by cases e), (fun _ e => by cases e)⟩
    have HC := Lib.hid (clone_q none 0 0 _ w hq)
    clear h htk hq
    go_enter Try.func21, Try.ntmps21
    go_wp2_with fail
    refine HUS.out.mono ?_
    rintro e w' ⟨rfl, hw⟩
    replace hw := hw.symm
    subst hw
    go_wp2_with fail
    refine HC.out.mono ?_
    rintro e w1 ⟨v, rfl, how, hn1⟩
    obtain ⟨a', c', rfl, hq⟩ := QRow.of_owns how (by omega)
    have HQ := Lib.hid hq
    have HN := Lib.hid hn1
    clear how hq hn1
    go_wp2
    go_ret
    exact ⟨_, _, rfl, HQ.out, HN.out⟩
  | some x =>
    have hq := h.sliced U hus
    rw [htk] at hq
    have HC := Lib.hid (clone_q (some x) U c _ w hq)
    have h0 : (0 : Int) ≤ (U : Int) := by omega
    have h1 : (U : Int) ≤ (c : Int) := by omega
    clear h htk hq
    go_enter Try.func21, Try.ntmps21
    go_wp2_with fail
    refine HUS.out.mono ?_
    rintro e w' ⟨rfl, hw⟩
    replace hw := hw.symm
    subst hw
    go_wp2_with fail
    refine HC.out.mono ?_
    rintro e w1 ⟨v, rfl, how, hn1⟩
    obtain ⟨a', c', rfl, hq⟩ := QRow.of_owns how (by omega)
    have HQ := Lib.hid hq
    have HN := Lib.hid hn1
    clear how hq hn1
    go_wp2
    go_ret
    exact ⟨_, _, rfl, HQ.out, HN.out⟩
theorem bl_word {l : List (BitVec 64)} {t : Nat} (h : usN l = t + 1) : l.getD t 0 ≠ 0#64 ∧ bl (vW l) = 64 * t + bl (l.getD t 0).toNat := by
  have hb : 64 * t < bl (vW l) ∧ bl (vW l) ≤ 64 * (t + 1) := by unfold usN at h; omega
  have hv : vW l ≠ 0 := by intro e; rw [e, bl_zero] at hb; omega
  obtain ⟨k, e1, e2, e3⟩ := bl_pos hv
  have hw := vW_div l t
  have hd : vW l / 2 ^ (64 * t) < 2 ^ 64 := by
    apply Nat.div_lt_of_lt_mul
    rw [← Nat.pow_add]
    exact Nat.lt_of_lt_of_le e3 (Nat.pow_le_pow_right (by decide) (by omega))
  have hn : (l.getD t 0).toNat = vW l / 2 ^ (64 * t) := by
    rw [← hw, BitVec.toNat_ofNat, Nat.mod_eq_of_lt hd]
  have hbit : (vW l / 2 ^ (64 * t)).testBit (k - 64 * t) = true := by
    rw [Nat.testBit_div_two_pow, show k - 64 * t + 64 * t = k by omega]; exact e2
  have hlt : vW l / 2 ^ (64 * t) < 2 ^ (k - 64 * t + 1) := by
    apply Nat.div_lt_of_lt_mul
    rw [← Nat.pow_add]
    exact Nat.lt_of_lt_of_le e3 (Nat.pow_le_pow_right (by decide) (by omega))
  have hbl := bl_eq hbit hlt
  refine ⟨fun e => ?_, by rw [hn, hbl]; omega⟩
  rw [e] at hn
  rw [← hn] at hbit
  simp at hbit
theorem bitLen_bl (x : BitVec 64) : Lib.bitLen x.toNat = bl x.toNat := by
  by_cases h : x.toNat = 0
  · rw [h]; rfl
  · obtain ⟨h1, h2, h3⟩ := Lib.bitLenAux_bounds 64 x.toNat x.isLt h
    obtain ⟨k, hk⟩ : ∃ k, Lib.bitLenAux 64 x.toNat = k + 1 := ⟨Lib.bitLenAux 64 x.toNat - 1, by omega⟩
    show Lib.bitLenAux 64 x.toNat = _
    rw [hk] at h2 h3 ⊢
    rw [Nat.add_sub_cancel] at h2
    have h4 : x.toNat < 2 ^ (k + 1) := h3
    have h5 : ¬ bl x.toNat ≤ k := fun h => by have := bl_le.1 h; omega
    have h6 := bl_le.2 h4
    omega
set_option maxRecDepth 100000 in
set_option maxHeartbeats 1000000 in
theorem deg_q (a : Option Addr) (n c : Nat) (l : List (BitVec 64)) (w : World) (h : QRow w a n c l) (hn : n ≤ 100000) :
    Calls Try.prog 17 #[.slice a n c] w fun e w' => e = .returned (.int .i64 ((bl (vW l) : Int) - 1)) ∧ w' = w := by
  have HUS := Lib.hid (used_q a n c l w h)
  have hus := us_le l
  rw [h.len_eq] at hus
  have HH := Lib.hid h
  rcases hU : usN l with _ | t
  · have hz : bl (vW l) = 0 := by unfold usN at hU; omega
    rw [hU] at HUS
    rw [hz]
    clear h hz hU
    go_enter Try.func17, Try.ntmps17
    go_wp2_with fail
    refine HUS.out.mono ?_
    rintro e w' ⟨rfl, hw⟩
    replace hw := hw.symm
    subst hw
    go_wp2
    go_ret
    exact ⟨rfl, rfl⟩
  · obtain ⟨hx0, hb⟩ := bl_word hU
    rw [hU] at HUS hus
    have htn : t < n := by omega
    have e0 : ((t + 1 : Nat) : Int) ≠ 0 := by omega
    have e1 : (((t + 1 : Nat) : Int) == 0) = false := by rw [beq_eq_false_iff_ne]; exact e0
    have hw1 : wrap64 (((t + 1 : Nat) : Int) - 1) = (t : Int) := by unfold wrap64; omega
    obtain ⟨b, off, rfl, hc⟩ := h.addr (by omega)
    have c1 := hc t htn
    have ht0 : (0 : Int) ≤ (t : Int) := by omega
    have htn2 : (t : Int) < (n : Int) := by omega
    obtain ⟨x, hx⟩ : ∃ x, l.getD t 0 = x := ⟨_, rfl⟩
    rw [hx] at c1 hb
    have HB := Lib.hid (fun w => Try.bits_Len64 (W64 x) w (by unfold W64; omega) (by have := x.isLt; unfold W64; omega))
    rw [show (W64 x).toNat = x.toNat from toNat_W64 _, bitLen_bl] at HB
    have hbx : bl x.toNat ≤ 64 := bl_le.2 x.isLt
    obtain ⟨B, hB⟩ : ∃ B, bl x.toNat = B := ⟨_, rfl⟩
    rw [hB] at HB hb hbx
    have hw2 : wrap64 (64 * (t : Int)) = 64 * (t : Int) := by unfold wrap64; omega
    have hw3 : wrap64 (64 * (t : Int) + (B : Int)) = 64 * (t : Int) + (B : Int) := by unfold wrap64; omega
    have hw4 : wrap64 (64 * (t : Int) + (B : Int) - 1) = 64 * (t : Int) + (B : Int) - 1 := by unfold wrap64; omega
    have HR : Hid ((bl (vW l) : Int) - 1 = 64 * (t : Int) + (B : Int) - 1) := Lib.hid (by rw [hb]; omega)
    clear h hc hx hx0 hb hU hB e0
    go_enter Try.func17, Try.ntmps17
    go_wp2_with fail
    refine HUS.out.mono ?_
    rintro e w' ⟨rfl, hw⟩
    replace hw := hw.symm
    subst hw
    clear HUS
    go_wp2_with fail
    refine (HB.out _).mono ?_
    rintro e w' ⟨rfl, hw⟩
    replace hw := hw.symm
    subst hw
    clear HB
    go_wp2
    go_ret
    rw [HR.out]; exact ⟨rfl, rfl⟩
end Go.Proofs.Ytppmpledcaonkaa
