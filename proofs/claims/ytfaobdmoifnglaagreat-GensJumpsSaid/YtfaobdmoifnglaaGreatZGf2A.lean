import Derived.Test.YtfaobdmoifnglaaGreatZGf2M
import Derived.Test.YtfaobdmoifnglaaGreatZBut
import Derived.Test.YtfaobdmoifnglaaGreatShelf
import Derived.BigRegion
import Derived.WalkMore
import Derived.ScopeJumps
import Derived.Lib.ItoaNum
import Derived.Test.YtfaobdmoifnglaaGreatZDivM
import Derived.Handy
import Derived.Deep.QuietTactic
import Derived.BigQuiet
import Derived.Deep.RegionWith
section
/- gf2: used, Trim, Deg, Coef, Add. -/
namespace Go.Bv
open Go Go.RowKit
set_option linter.unusedVariables false
/-- a row of words of one's own at an index -/
theorem ow_w64 {w : World} {base g n cap : Nat} {e : TypeId} {l : List (BitVec 64)} (h : w.ownsRow base e 1 (.slice (some ⟨g, 0, none⟩) n cap) n (l.map fun x => .int .u64 (W64 x))) {k : Nat} (hk : k < n) : w.cell? ⟨g, k, none⟩ = some (.int .u64 (W64 (l.getD k 0))) ∧ w.frozen? ⟨g, k, none⟩ = false := by
  have hl : l.length = n := by have := h.1; simpa using this
  refine ow_cell h ?_
  rw [List.getElem?_map, List.getD_eq_getElem?_getD, List.getElem?_eq_getElem (by omega)]; rfl
theorem QRow.sliced {w : World} {x : Addr} {len cap : Nat} {l : List (BitVec 64)} (h : QRow w (some x) len cap l) (n : Nat) (hn : n ≤ len) : QRow w (some x) n cap (l.take n) where
  len_eq := by have := h.len_eq; rw [List.length_take]; omega
  le := Nat.le_trans hn h.le
  most := by have := h.most; omega
  room := h.room
  none := (fun e => by cases e)
  cell := fun b2 o2 e i hi => by
    rw [h.cell b2 o2 e i (by omega), List.getD_eq_getElem?_getD, List.getD_eq_getElem?_getD, List.getElem?_take, if_pos hi]
  spot := fun x e h0 => h.spot x e (by omega)
  old := fun x e h0 => h.old x e (by omega)
end Go.Bv
namespace Go.Proofs.YtfaobdmoifnglaaGreat
open Go Go.RowKit Go.Bv Go.G2
set_option linter.unusedVariables false
/-- how many words are used -/
def usN (l : List (BitVec 64)) : Nat := (bl (vW l) + 63) / 64
theorem us_le (l : List (BitVec 64)) : usN l ≤ l.length := by have := bl_vW l; unfold usN; omega
theorem us_take (l : List (BitVec 64)) : l.take (usN l) = tW (vW l) := by
  unfold tW
  show _ = wL (usN l) _
  have h := us_le l
  apply G2.words_eq (n := usN l) (by rw [List.length_take]; omega) (wL_len _ _)
  intro i hi
  rw [wL_get hi, vW_div, List.getD_eq_getElem?_getD, List.getElem?_take, if_pos hi, ← List.getD_eq_getElem?_getD]
theorem us_tW (n : Nat) : usN (tW n) = (tW n).length := by unfold usN; rw [vW_tW, tW_len]
theorem us_is {l : List (BitVec 64)} {u : Nat} (hu : u ≤ l.length) (h0 : ∀ i, u ≤ i → i < l.length → l.getD i 0 = 0#64) (h1 : u = 0 ∨ l.getD (u - 1) 0 ≠ 0#64) : u = usN l := (take_tW hu h0 h1).2
set_option maxRecDepth 100000 in
set_option maxHeartbeats 1000000 in
theorem used_q (a : Option Addr) (n c : Nat) (l : List (BitVec 64)) (w : World) (h : QRow w a n c l) :
    Calls Tryz.prog 172 #[.slice a n c] w fun e w' => e = .returned (.int .i64 (usN l : Int)) ∧ w' = w := by
  have hm := h.most
  have HH := Lib.hid h
  have HU : Hid (∀ u, u ≤ n → (∀ i, u ≤ i → i < n → l.getD i 0 = 0#64) → u = 0 ∨ l.getD (u - 1) 0 ≠ 0#64 → u = usN l) := Lib.hid (fun u hu h0 h1 => us_is (by rw [h.len_eq]; exact hu) (by rw [h.len_eq]; exact h0) h1)
  obtain ⟨U, hU⟩ : ∃ U, usN l = U := ⟨_, rfl⟩
  rw [hU] at HU ⊢
  clear h hU
  go_enter Tryz.func172, Tryz.ntmps172
  go_wp2_with fail
  go_step3
  go_wp2_with fail
  go_step3
  go_wp2_with fail
  go_loop [3] (fun iv => ∃ u : Nat, u ≤ n ∧ iv = .int .i64 (u : Int) ∧ Hid (∀ i, u ≤ i → i < n → l.getD i 0 = 0#64)) (fun iv => (intOf iv).toNat)
  case atStart => exact ⟨n, Nat.le_refl _, rfl, Lib.hid (fun i h1 h2 => by omega)⟩
  case round =>
    obtain ⟨u, hu, rfl, HZ⟩ := hrel
    by_cases h0 : 0 < (u : Int)
    · obtain ⟨t, rfl⟩ : ∃ t, u = t + 1 := ⟨u - 1, by omega⟩
      have hw1 : wrap64 (((t + 1 : Nat) : Int) - 1) = (t : Int) := by unfold wrap64; omega
      have ht0 : (0 : Int) ≤ (t : Int) := by omega
      have htn : (t : Int) < (n : Int) := by omega
      obtain ⟨b, off, rfl, hc⟩ := HH.out.addr (by omega)
      have c1 := hc t (by omega)
      clear hc
      obtain ⟨x, hx⟩ : ∃ x, l.getD t 0 = x := ⟨_, rfl⟩
      rw [hx] at c1
      have HX := Lib.hid hx
      clear hx
      rcases he : (x != 0#64) with _ | _
      · have HZ2 : Hid (∀ i, t ≤ i → i < n → l.getD i 0 = 0#64) := Lib.hid (fun i h1 h2 => by
          by_cases e : i = t
          · subst e; rw [HX.out]; exact of_nbne he
          · exact HZ.out i (by omega) h2)
        go_wp2
        exact ⟨⟨t, by omega, by go_num, HZ2⟩, by simp [intOf] <;> omega⟩
      · have HF := Lib.hid (HU.out (t + 1) hu HZ.out (.inr (by rw [Nat.add_sub_cancel, HX.out]; exact of_bne he)))
        go_wp2_with fail
        go_ret
        rw [← HF.out]; exact ⟨rfl, rfl⟩
    · obtain rfl : u = 0 := by omega
      have HF := Lib.hid (HU.out 0 hu HZ.out (.inl rfl))
      go_wp2
      go_ret
      rw [← HF.out]; exact ⟨rfl, rfl⟩
theorem QRow.clone_ok {w w1 : World} {base : Nat} {v : Value} {n : Nat} {l : List (BitVec 64)} (h : w1.ownsRow base 22 1 v n (l.map fun x => .int .u64 (W64 x))) (hn : n ≤ 17592186044416) : ∃ a c, v = .slice a n c ∧ QRow w1 a n c l := QRow.of_owns h hn
set_option maxRecDepth 100000 in
set_option maxHeartbeats 1000000 in
theorem trim_q (a : Option Addr) (n c : Nat) (l : List (BitVec 64)) (w : World) (h : QRow w a n c l) :
    Calls Tryz.prog 175 #[.slice a n c] w fun e w' => ∃ a' c', e = .returned (.slice a' (tW (vW l)).length c') ∧ QRow w' a' (tW (vW l)).length c' (tW (vW l)) ∧ New w w' := by
  have HUS := Lib.hid (used_q a n c l w h)
  have hus := us_le l
  rw [h.len_eq] at hus
  have htk := us_take l
  have hm := h.most
  have hr := h.room
  have hle := h.le
  have hlen : (tW (vW l)).length = usN l := tW_len _
  rw [hlen]
  obtain ⟨U, hU⟩ : ∃ U, usN l = U := ⟨_, rfl⟩
  rw [hU] at HUS hus htk ⊢
  clear hU hlen
  cases a with
  | none =>
    obtain ⟨rfl, rfl⟩ := h.none rfl
    obtain rfl : U = 0 := by omega
    have hq : QRow w none 0 0 (tW (vW l)) := ⟨by rw [← htk]; rfl, Nat.le_refl _, by omega, by omega, fun _ => ⟨rfl, rfl⟩, (fun _ _ e => by cases e), (fun _ e => by cases e), (fun _ e => by cases e)⟩
    have HC := Lib.hid (clone_q none 0 0 _ w hq)
    clear h htk hq
    go_enter Tryz.func175, Tryz.ntmps175
    go_wp2_with fail
    refine HUS.out.mono ?_
    rintro e w' ⟨rfl, hw⟩
    replace hw := hw.symm
    subst hw
    go_wp2_with fail
    refine HC.out.mono ?_
    rintro e w1 ⟨v, rfl, how, hn1⟩
    obtain ⟨a', c', rfl, hq⟩ := QRow.of_owns how (by omega)
    have HQ := Lib.hid hq
    have HN := Lib.hid hn1
    clear how hq hn1
    go_wp2
    go_ret
    exact ⟨_, _, rfl, HQ.out, HN.out⟩
  | some x =>
    have hq := h.sliced U hus
    rw [htk] at hq
    have HC := Lib.hid (clone_q (some x) U c _ w hq)
    have h0 : (0 : Int) ≤ (U : Int) := by omega
    have h1 : (U : Int) ≤ (c : Int) := by omega
    clear h htk hq
    go_enter Tryz.func175, Tryz.ntmps175
    go_wp2_with fail
    refine HUS.out.mono ?_
    rintro e w' ⟨rfl, hw⟩
    replace hw := hw.symm
    subst hw
    go_wp2_with fail
    refine HC.out.mono ?_
    rintro e w1 ⟨v, rfl, how, hn1⟩
    obtain ⟨a', c', rfl, hq⟩ := QRow.of_owns how (by omega)
    have HQ := Lib.hid hq
    have HN := Lib.hid hn1
    clear how hq hn1
    go_wp2
    go_ret
    exact ⟨_, _, rfl, HQ.out, HN.out⟩
theorem bl_word {l : List (BitVec 64)} {t : Nat} (h : usN l = t + 1) : l.getD t 0 ≠ 0#64 ∧ bl (vW l) = 64 * t + bl (l.getD t 0).toNat := by
  have hb : 64 * t < bl (vW l) ∧ bl (vW l) ≤ 64 * (t + 1) := by unfold usN at h; omega
  have hv : vW l ≠ 0 := by intro e; rw [e, bl_zero] at hb; omega
  obtain ⟨k, e1, e2, e3⟩ := bl_pos hv
  have hw := vW_div l t
  have hd : vW l / 2 ^ (64 * t) < 2 ^ 64 := by
    apply Nat.div_lt_of_lt_mul
    rw [← Nat.pow_add]
    exact Nat.lt_of_lt_of_le e3 (Nat.pow_le_pow_right (by decide) (by omega))
  have hn : (l.getD t 0).toNat = vW l / 2 ^ (64 * t) := by
    rw [← hw, BitVec.toNat_ofNat, Nat.mod_eq_of_lt hd]
  have hbit : (vW l / 2 ^ (64 * t)).testBit (k - 64 * t) = true := by
    rw [Nat.testBit_div_two_pow, show k - 64 * t + 64 * t = k by omega]; exact e2
  have hlt : vW l / 2 ^ (64 * t) < 2 ^ (k - 64 * t + 1) := by
    apply Nat.div_lt_of_lt_mul
    rw [← Nat.pow_add]
    exact Nat.lt_of_lt_of_le e3 (Nat.pow_le_pow_right (by decide) (by omega))
  have hbl := bl_eq hbit hlt
  refine ⟨fun e => ?_, by rw [hn, hbl]; omega⟩
  rw [e] at hn
  rw [← hn] at hbit
  simp at hbit
theorem bitLen_bl (x : BitVec 64) : Lib.bitLen x.toNat = bl x.toNat := by
  by_cases h : x.toNat = 0
  · rw [h]; rfl
  · obtain ⟨h1, h2, h3⟩ := Lib.bitLenAux_bounds 64 x.toNat x.isLt h
    obtain ⟨k, hk⟩ : ∃ k, Lib.bitLenAux 64 x.toNat = k + 1 := ⟨Lib.bitLenAux 64 x.toNat - 1, by omega⟩
    show Lib.bitLenAux 64 x.toNat = _
    rw [hk] at h2 h3 ⊢
    rw [Nat.add_sub_cancel] at h2
    have h4 : x.toNat < 2 ^ (k + 1) := h3
    have h5 : ¬ bl x.toNat ≤ k := fun h => by have := bl_le.1 h; omega
    have h6 := bl_le.2 h4
    omega
set_option maxRecDepth 100000 in
set_option maxHeartbeats 1000000 in
theorem deg_q (a : Option Addr) (n c : Nat) (l : List (BitVec 64)) (w : World) (h : QRow w a n c l) (hn : n ≤ 100000) :
    Calls Tryz.prog 163 #[.slice a n c] w fun e w' => e = .returned (.int .i64 ((bl (vW l) : Int) - 1)) ∧ w' = w := by
  have HUS := Lib.hid (used_q a n c l w h)
  have hus := us_le l
  rw [h.len_eq] at hus
  have HH := Lib.hid h
  rcases hU : usN l with _ | t
  · have hz : bl (vW l) = 0 := by unfold usN at hU; omega
    rw [hU] at HUS
    rw [hz]
    clear h hz hU
    go_enter Tryz.func163, Tryz.ntmps163
    go_wp2_with fail
    refine HUS.out.mono ?_
    rintro e w' ⟨rfl, hw⟩
    replace hw := hw.symm
    subst hw
    go_wp2
    go_ret
    exact ⟨rfl, rfl⟩
  · obtain ⟨hx0, hb⟩ := bl_word hU
    rw [hU] at HUS hus
    have htn : t < n := by omega
    have e0 : ((t + 1 : Nat) : Int) ≠ 0 := by omega
    have e1 : (((t + 1 : Nat) : Int) == 0) = false := by rw [beq_eq_false_iff_ne]; exact e0
    have hw1 : wrap64 (((t + 1 : Nat) : Int) - 1) = (t : Int) := by unfold wrap64; omega
    obtain ⟨b, off, rfl, hc⟩ := h.addr (by omega)
    have c1 := hc t htn
    have ht0 : (0 : Int) ≤ (t : Int) := by omega
    have htn2 : (t : Int) < (n : Int) := by omega
    obtain ⟨x, hx⟩ : ∃ x, l.getD t 0 = x := ⟨_, rfl⟩
    rw [hx] at c1 hb
    have HB := Lib.hid (fun w => Tryz.bits_Len64 (W64 x) w (by unfold W64; omega) (by have := x.isLt; unfold W64; omega))
    rw [show (W64 x).toNat = x.toNat from toNat_W64 _, bitLen_bl] at HB
    have hbx : bl x.toNat ≤ 64 := bl_le.2 x.isLt
    obtain ⟨B, hB⟩ : ∃ B, bl x.toNat = B := ⟨_, rfl⟩
    rw [hB] at HB hb hbx
    have hw2 : wrap64 (64 * (t : Int)) = 64 * (t : Int) := by unfold wrap64; omega
    have hw3 : wrap64 (64 * (t : Int) + (B : Int)) = 64 * (t : Int) + (B : Int) := by unfold wrap64; omega
    have hw4 : wrap64 (64 * (t : Int) + (B : Int) - 1) = 64 * (t : Int) + (B : Int) - 1 := by unfold wrap64; omega
    have HR : Hid ((bl (vW l) : Int) - 1 = 64 * (t : Int) + (B : Int) - 1) := Lib.hid (by rw [hb]; omega)
    clear h hc hx hx0 hb hU hB e0
    go_enter Tryz.func163, Tryz.ntmps163
    go_wp2_with fail
    refine HUS.out.mono ?_
    rintro e w' ⟨rfl, hw⟩
    replace hw := hw.symm
    subst hw
    clear HUS
    go_wp2_with fail
    refine (HB.out _).mono ?_
    rintro e w' ⟨rfl, hw⟩
    replace hw := hw.symm
    subst hw
    clear HB
    go_wp2
    go_ret
    rw [HR.out]; exact ⟨rfl, rfl⟩
end Go.Proofs.YtfaobdmoifnglaaGreat
end
section
/- gf2: Coef, Add, Clmul. -/
namespace Go.G2
set_option linter.unusedVariables false
theorem mod_step (n k : Nat) : n % 2 ^ (64 * (k + 1)) = (n % 2 ^ (64 * k)) ^^^ 2 ^ (64 * k) * (BitVec.ofNat 64 (n / 2 ^ (64 * k))).toNat := by
  rw [← bits_split _ _ _ (Nat.mod_lt _ (Nat.two_pow_pos _)), BitVec.toNat_ofNat, Nat.mul_add, Nat.mul_one, Nat.pow_add, Nat.mod_mul]
theorem ofNat_xor (a b : Nat) : BitVec.ofNat 64 (a ^^^ b) = BitVec.ofNat 64 a ^^^ BitVec.ofNat 64 b := by
  apply BitVec.eq_of_getLsbD_eq
  intro i hi
  rw [BitVec.getLsbD_xor, BitVec.getLsbD_ofNat, BitVec.getLsbD_ofNat, BitVec.getLsbD_ofNat, Nat.testBit_xor]
  simp [hi]
theorem ofNat_low (n : Nat) : BitVec.ofNat 64 (n % 2 ^ 64) = BitVec.ofNat 64 n := by
  apply BitVec.eq_of_toNat_eq
  rw [BitVec.toNat_ofNat, BitVec.toNat_ofNat, Nat.mod_mod]
theorem xor_div (a b k : Nat) : (a ^^^ b) / 2 ^ k = a / 2 ^ k ^^^ b / 2 ^ k := by
  apply Nat.eq_of_testBit_eq
  intro i
  rw [Nat.testBit_xor, Nat.testBit_div_two_pow, Nat.testBit_div_two_pow, Nat.testBit_div_two_pow, Nat.testBit_xor]
theorem and_one (x : BitVec 64) (k : Nat) : (x >>> k &&& 1#64 == 1#64) = x.getLsbD k := by
  have e : x >>> k &&& 1#64 = if x.getLsbD k then 1#64 else 0#64 := by
    apply BitVec.eq_of_getLsbD_eq
    intro i hi
    rw [BitVec.getLsbD_and, BitVec.getLsbD_ushiftRight, BitVec.getLsbD_one]
    cases i with
    | zero => cases x.getLsbD k <;> simp
    | succ i => cases x.getLsbD k <;> simp
  rw [e]
  cases x.getLsbD k <;> rfl
theorem bit_step (n i : Nat) (x : Nat) : mulG (n % 2 ^ (i + 1)) x = mulG (n % 2 ^ i) x ^^^ (if n.testBit i then 2 ^ i * x else 0) := by
  have e : n % 2 ^ (i + 1) = n % 2 ^ i ^^^ (if n.testBit i then 2 ^ i else 0) := by
    apply Nat.eq_of_testBit_eq
    intro j
    rw [Nat.testBit_xor, Nat.testBit_mod_two_pow, Nat.testBit_mod_two_pow]
    by_cases h : j = i
    · subst h
      cases n.testBit j
      · simp
      · simp [Nat.testBit_two_pow_self]
    · have h2 : (if n.testBit i = true then 2 ^ i else 0).testBit j = false := by
        split
        · rw [Nat.testBit_two_pow]; simp; omega
        · simp
      rw [h2]
      by_cases h3 : j < i
      · simp [h3, show j < i + 1 by omega]
      · simp [h3, show ¬ j < i + 1 by omega]
  rw [e, xor_mulG]
  congr 1
  split
  · exact mulG_pow _ _
  · exact mulG_zero _
end Go.G2
namespace Go.Proofs.YtfaobdmoifnglaaGreat
open Go Go.RowKit Go.Bv Go.G2
set_option linter.unusedVariables false
set_option maxRecDepth 100000 in
set_option maxHeartbeats 1000000 in
theorem coef_q (a : Option Addr) (n c : Nat) (l : List (BitVec 64)) (i : Nat) (w : World) (h : QRow w a n c l) (hi : i ≤ 1000000000000) :
    Calls Tryz.prog 169 #[.slice a n c, .int .i64 (i : Int)] w fun e w' => e = .returned (.bool ((vW l).testBit i)) ∧ w' = w := by
  rw [bit_word]
  have hl := h.len_eq
  obtain ⟨j, hj⟩ : ∃ j, i / 64 = j := ⟨_, rfl⟩
  obtain ⟨r, hr⟩ : ∃ r, i % 64 = r := ⟨_, rfl⟩
  rw [hj, hr]
  have hji : (i : Int) / 64 = (j : Int) := by omega
  have hri : (i : Int) % 64 = (r : Int) := by omega
  have hjt : (i : Int).tdiv 64 = (j : Int) := by rw [Int.tdiv_eq_ediv_of_nonneg (by omega)]; exact hji
  have hrt : (i : Int).tmod 64 = (r : Int) := by rw [Int.tmod_eq_emod_of_nonneg (by omega)]; exact hri
  have hi0 : (0 : Int) ≤ (i : Int) := by omega
  have hj0 : (0 : Int) ≤ (j : Int) := by omega
  have hr0 : (0 : Int) ≤ (r : Int) := by omega
  by_cases hlt : (j : Int) < (n : Int)
  · obtain ⟨b, off, rfl, hc⟩ := h.addr (by omega)
    have c1 := hc j (by omega)
    obtain ⟨x, hx⟩ : ∃ x, l.getD j 0 = x := ⟨_, rfl⟩
    rw [hx] at c1 ⊢
    have hn9 : ¬ (n : Int) ≤ (j : Int) := by omega
    have HB := Lib.hid (and_one x r)
    clear h hc hx hj hr hl
    go_enter Tryz.func169, Tryz.ntmps169
    go_wp2
    go_ret
    rw [← HB.out]; exact ⟨rfl, rfl⟩
  · have hz : l.getD j 0 = 0#64 := by rw [List.getD_eq_getElem?_getD, List.getElem?_eq_none (by omega)]; rfl
    have hn9 : (n : Int) ≤ (j : Int) := by omega
    rw [hz]
    have HB : Hid ((0#64).getLsbD r = false) := Lib.hid (by simp)
    rw [HB.out]
    clear h hj hr hl hz HB
    go_enter Tryz.func169, Tryz.ntmps169
    go_wp2
    go_ret
    exact ⟨rfl, rfl⟩
theorem coef_neg (a : Option Addr) (n c : Nat) (i : Int) (w : World) (hi : i < 0) :
    Calls Tryz.prog 169 #[.slice a n c, .int .i64 i] w fun e w' => e = .returned (.bool false) ∧ w' = w := by
  go_enter Tryz.func169, Tryz.ntmps169
  go_wp2
  go_ret
  exact ⟨rfl, rfl⟩
/-- the sum of two lists so far -/
def sm2 (A B : Nat) (k : Nat) : Nat := A ^^^ B % 2 ^ (64 * k)
theorem sm2_step (A : Nat) (l : List (BitVec 64)) (N k : Nat) (hk : k < N) : (wL N (sm2 A (vW l) k)).set k ((wL N (sm2 A (vW l) k)).getD k 0 ^^^ l.getD k 0) = wL N (sm2 A (vW l) (k + 1)) := by
  rw [wL_get hk, wL_xor hk]
  unfold sm2
  rw [mod_step, vW_div, Nat.xor_assoc]
set_option maxRecDepth 100000 in
set_option maxHeartbeats 2000000 in
theorem clmul_q (x y : BitVec 64) (w : World) :
    Calls Tryz.prog 176 #[.int .u64 (W64 x), .int .u64 (W64 y)] w fun e w' => e = .returned (.agg #[.int .u64 (W64 (BitVec.ofNat 64 (mulG y.toNat x.toNat / 2 ^ 64))), .int .u64 (W64 (BitVec.ofNat 64 (mulG y.toNat x.toNat)))]) ∧ New w w' := by
  have HS := Lib.hid (fun (i : Nat) (hi : i < 64) w => wshl_two 0#64 x (i : Int) i i (by omega) (by omega) (by omega) w)
  rw [show two 0#64 x = x.toNat from by unfold two; simp] at HS
  have h1 := heap_alloc_new w (.cells #[.int .u64 0, .int .u64 0] 74)
  obtain ⟨W1, hW1⟩ : ∃ z, w.alloc (.cells #[.int .u64 0, .int .u64 0] 74) = z := ⟨_, rfl⟩
  have hn1 : New w W1 := hW1 ▸ (New.refl w).alloc _
  rw [hW1] at h1
  have hs1 : W1.heap.size = w.heap.size + 1 := by rw [← hW1]; simp
  have h2 := heap_alloc_new W1 (.cells #[.int .u64 0, .int .u64 0] 74)
  obtain ⟨W2, hW2⟩ : ∃ z, W1.alloc (.cells #[.int .u64 0, .int .u64 0] 74) = z := ⟨_, rfl⟩
  have hn2 : New W1 W2 := hW2 ▸ (New.refl W1).alloc _
  rw [hW2, hs1] at h2
  have h1' := (hn2.block _ (lt_of_block h1)).trans h1
  have HN := Lib.hid (hn1.trans hn2)
  have HB1 := Lib.hid h1'
  have HB2 := Lib.hid h2
  have HW1 := Lib.hid hW1
  have HW2 := Lib.hid hW2
  clear h1 h2 hn1 hn2 hs1 h1' hW1 hW2
  have HZ : Hid (W64 (BitVec.ofNat 64 0) = 0) := Lib.hid rfl
  go_enter Tryz.func176, Tryz.ntmps176
  go_wp2_with fail
  rw [HW1.out, HW2.out]
  go_wp2_with fail
  go_loopw [8] (fun iv wr => ∃ i : Nat, i ≤ 64 ∧ iv = .int .i64 (i : Int) ∧ wr.heap[w.heap.size]? = some (.cells #[.int .u64 0, .int .u64 0] 74 (0, 0)) ∧ wr.heap[w.heap.size + 1]? = some (.cells #[.int .u64 (W64 (BitVec.ofNat 64 (mulG (y.toNat % 2 ^ i) x.toNat / 2 ^ 64))), .int .u64 (W64 (BitVec.ofNat 64 (mulG (y.toNat % 2 ^ i) x.toNat)))] 74 (0, 0)) ∧ New w wr) (fun iv _ => 64 - (intOf iv).toNat)
  case atStart =>
    refine ⟨0, by omega, rfl, HB1.out, ?_, HN.out⟩
    rw [Nat.pow_zero, Nat.mod_one, mulG_zero]
    exact HB2.out
  case round =>
    clear HB1 HB2 HN
    obtain ⟨i, hi, rfl, hb1, hb2, hnew⟩ := hrel
    obtain ⟨wq, hwq⟩ : ∃ z, z = wr := ⟨_, rfl⟩
    rw [← hwq] at hb1 hb2 hnew ⊢
    clear hwq
    have HB1 := Lib.hid hb1
    have HB2 := Lib.hid hb2
    have HN := Lib.hid hnew
    by_cases hlt : (i : Int) < 64
    · have hi0 : (0 : Int) ≤ (i : Int) := by omega
      have HST := Lib.hid (bit_step y.toNat i x.toNat)
      obtain ⟨P, hP⟩ : ∃ P, mulG (y.toNat % 2 ^ i) x.toNat = P := ⟨_, rfl⟩
      rw [hP] at HST hb2 HB2
      have HY : Hid ((y >>> i &&& 1#64 == 1#64) = y.toNat.testBit i) := Lib.hid (and_one y i)
      rcases hy : y.toNat.testBit i with _ | _
      · have hb9 : (y >>> i &&& 1#64 == 1#64) = false := by rw [HY.out, hy]
        have HE : Hid (mulG (y.toNat % 2 ^ (i + 1)) x.toNat = P) := Lib.hid (by rw [HST.out, hy]; simp)
        clear hb1 hb2 hnew hP hy
        go_wp2
        refine ⟨⟨i + 1, by omega, by go_num, HB1.out, ?_, HN.out⟩, by simp [intOf]; omega⟩
        rw [HE.out]; exact HB2.out
      · have hb9 : (y >>> i &&& 1#64 == 1#64) = true := by rw [HY.out, hy]
        have HE : Hid (mulG (y.toNat % 2 ^ (i + 1)) x.toNat = P ^^^ x.toNat * 2 ^ i) := Lib.hid (by rw [HST.out, hy, Nat.mul_comm]; simp)
        have HC := Lib.hid (HS.out i (by omega))
        obtain ⟨Q, hQ⟩ : ∃ Q, x.toNat * 2 ^ i = Q := ⟨_, rfl⟩
        rw [hQ] at HE HC
        clear hb1 hb2 hnew hP hy hQ
        go_wp2_with fail
        refine (HC.out _).mono ?_
        rintro e w3 ⟨rfl, hn3⟩
        obtain ⟨q1, hq1⟩ : ∃ q, BitVec.ofNat 64 (Q / 2 ^ 64) = q := ⟨_, rfl⟩
        obtain ⟨q0, hq0⟩ : ∃ q, BitVec.ofNat 64 Q = q := ⟨_, rfl⟩
        obtain ⟨p1, hp1⟩ : ∃ q, BitVec.ofNat 64 (P / 2 ^ 64) = q := ⟨_, rfl⟩
        obtain ⟨p0, hp0⟩ : ∃ q, BitVec.ofNat 64 P = q := ⟨_, rfl⟩
        rw [hp1, hp0] at HB2
        rw [hq1, hq0]
        have HE1 : Hid (BitVec.ofNat 64 (mulG (y.toNat % 2 ^ (i + 1)) x.toNat / 2 ^ 64) = p1 ^^^ q1) := Lib.hid (by rw [HE.out, xor_div, ofNat_xor, hp1, hq1])
        have HE0 : Hid (BitVec.ofNat 64 (mulG (y.toNat % 2 ^ (i + 1)) x.toNat) = p0 ^^^ q0) := Lib.hid (by rw [HE.out, ofNat_xor, hp0, hq0])
        clear hq1 hq0 hp1 hp0
        have hlt0 := lt_of_block HB1.out
        have hlt1 := lt_of_block HB2.out
        have hb1 := (hn3.block _ hlt0).trans HB1.out
        have hb2 := (hn3.block _ hlt1).trans HB2.out
        have hn9 := HN.out.trans hn3
        have k1 := cell_of_row _ _ 0 _ _ _ hb2
        have k2 := cell_of_row _ _ 1 _ _ _ hb2
        obtain ⟨W4, hW4⟩ : ∃ z, w3.alloc (.cells #[.int .u64 (W64 q1), .int .u64 (W64 q0)] 74) = z := ⟨_, rfl⟩
        have hn4 : New w3 W4 := hW4 ▸ (New.refl w3).alloc _
        have hb3 := heap_alloc_new w3 (.cells #[.int .u64 (W64 q1), .int .u64 (W64 q0)] 74)
        rw [hW4] at hb3
        have hb24 := (hn4.block _ (lt_of_block hb2)).trans hb2
        have hb14 := (hn4.block _ (lt_of_block hb1)).trans hb1
        have hne : w3.heap.size ≠ w.heap.size + 1 := by have := lt_of_block hb2; omega
        have hn94 := hn9.trans hn4
        have k1 : W4.cell? ⟨w.heap.size + 1, 0, none⟩ = some (.int .u64 (W64 p1)) := cell_of_row _ _ 0 _ _ _ hb24
        have kf := frozen_of_row W4 _ 0 _ _ hb24
        have k3 : W4.cell? ⟨w3.heap.size, 0, none⟩ = some (.int .u64 (W64 q1)) := cell_of_row _ _ 0 _ _ _ hb3
        have hs1 := heap_setCell_same W4 (w.heap.size + 1) 0 _ _ (.int .u64 (W64 (p1 ^^^ q1))) hb24
        have hs3 := (heap_setCell_other W4 ⟨w.heap.size + 1, 0, none⟩ w3.heap.size (.int .u64 (W64 (p1 ^^^ q1))) hne).trans hb3
        have hs0 := (heap_setCell_other W4 ⟨w.heap.size + 1, 0, none⟩ w.heap.size (.int .u64 (W64 (p1 ^^^ q1))) (by simp)).trans hb14
        have hnW5 := hn94.setCell (p := ⟨w.heap.size + 1, 0, none⟩) (Nat.le_succ _) (.int .u64 (W64 (p1 ^^^ q1)))
        obtain ⟨W5, hW5⟩ : ∃ z, W4.setCell ⟨w.heap.size + 1, 0, none⟩ (.int .u64 (W64 (p1 ^^^ q1))) = z := ⟨_, rfl⟩
        rw [hW5] at hs1 hs3 hs0 hnW5
        have k5 : W5.cell? ⟨w.heap.size + 1, 1, none⟩ = some (.int .u64 (W64 p0)) := cell_of_row _ _ 1 _ _ _ hs1
        have kf5 := frozen_of_row W5 _ 1 _ _ hs1
        have k6 : W5.cell? ⟨w3.heap.size, 1, none⟩ = some (.int .u64 (W64 q0)) := cell_of_row _ _ 1 _ _ _ hs3
        have ht1 := heap_setCell_same W5 (w.heap.size + 1) 1 _ _ (.int .u64 (W64 (p0 ^^^ q0))) hs1
        have ht0 := (heap_setCell_other W5 ⟨w.heap.size + 1, 1, none⟩ w.heap.size (.int .u64 (W64 (p0 ^^^ q0))) (by simp)).trans hs0
        have hnW6 := hnW5.setCell (p := ⟨w.heap.size + 1, 1, none⟩) (Nat.le_succ _) (.int .u64 (W64 (p0 ^^^ q0)))
        have HT1 := Lib.hid ht1
        have HT0 := Lib.hid ht0
        have HN6 := Lib.hid hnW6
        clear hb1 hb2 hb3 hb24 hb14 hn3 hn4 hn9 hn94 hlt0 hlt1 HB1 HB2 HN hs1 hs3 hs0 hnW5 ht1 ht0 hnW6 hne
        go_wp2_with fail
        refine ⟨⟨i + 1, by omega, by go_num, HT0.out, ?_, HN6.out⟩, by simp [intOf]; omega⟩
        rw [HE1.out, HE0.out]
        exact HT1.out
    · obtain rfl : i = 64 := by omega
      have hy64 : y.toNat % 2 ^ 64 = y.toNat := Nat.mod_eq_of_lt y.isLt
      rw [hy64] at hb2
      obtain ⟨p1, hp1⟩ : ∃ q, BitVec.ofNat 64 (mulG y.toNat x.toNat / 2 ^ 64) = q := ⟨_, rfl⟩
      obtain ⟨p0, hp0⟩ : ∃ q, BitVec.ofNat 64 (mulG y.toNat x.toNat) = q := ⟨_, rfl⟩
      rw [hp1, hp0] at hb2
      have HP1 := Lib.hid hp1
      have HP0 := Lib.hid hp0
      have k1 : wq.cell? ⟨w.heap.size + 1, 0, none⟩ = some (.int .u64 (W64 p1)) := cell_of_row _ _ 0 _ _ _ hb2
      have k2 : wq.cell? ⟨w.heap.size + 1, 1, none⟩ = some (.int .u64 (W64 p0)) := cell_of_row _ _ 1 _ _ _ hb2
      have k3 : wq.cell? ⟨w.heap.size, 0, none⟩ = some (.int .u64 0) := cell_of_row _ _ 0 _ _ _ hb1
      have k4 : wq.cell? ⟨w.heap.size, 1, none⟩ = some (.int .u64 0) := cell_of_row _ _ 1 _ _ _ hb1
      have kf := frozen_of_row wq w.heap.size 0 _ _ hb1
      have kf2 := frozen_of_row wq w.heap.size 1 _ _ hb1
      clear hp1 hp0 hb2 HB1 HB2 hy64
      have hs1 := heap_setCell_same wq w.heap.size 0 _ _ (.int .u64 (W64 p1)) hb1
      have hs2 := heap_setCell_same _ w.heap.size 1 _ _ (.int .u64 (W64 p0)) hs1
      have hn6 := (HN.out.setCell (p := ⟨w.heap.size, 0, none⟩) (Nat.le_refl _) (.int .u64 (W64 p1))).setCell (p := ⟨w.heap.size, 1, none⟩) (Nat.le_refl _) (.int .u64 (W64 p0))
      clear hb1
      go_wp2
      obtain ⟨V, hV⟩ : ∃ z, (wq.setCell ⟨w.heap.size, 0, none⟩ (.int .u64 (W64 p1))).setCell ⟨w.heap.size, 1, none⟩ (.int .u64 (W64 p0)) = z := ⟨_, rfl⟩
      rw [hV] at hs2 hn6 ⊢
      have d0 : V.cell? ⟨w.heap.size, 0, none⟩ = some (.int .u64 (W64 p1)) := cell_of_row _ _ 0 _ _ _ hs2
      have d1 : V.cell? ⟨w.heap.size, 1, none⟩ = some (.int .u64 (W64 p0)) := cell_of_row _ _ 1 _ _ _ hs2
      refine bodyPost_ret (by simp [results, Tryz.results176, go_sem, d0, d1]; try rfl) rfl ?_
      rw [← HP1.out, ← HP0.out]
      exact ⟨rfl, hn6⟩
end Go.Proofs.YtfaobdmoifnglaaGreat
end
section
/- gf2: Mul. -/
namespace Go.Bv
open Go Go.RowKit
set_option linter.unusedVariables false
theorem QRow.cut {w : World} {a : Option Addr} {len cap : Nat} {l : List (BitVec 64)} (h : QRow w a len cap l) (n : Nat) (hn : n ≤ len) : QRow w a n cap (l.take n) where
  len_eq := by have := h.len_eq; rw [List.length_take]; omega
  le := Nat.le_trans hn h.le
  most := by have := h.most; omega
  room := h.room
  none := (fun e => by have := h.none e; omega)
  cell := fun b2 o2 e i hi => by
    rw [h.cell b2 o2 e i (by omega), List.getD_eq_getElem?_getD, List.getD_eq_getElem?_getD, List.getElem?_take, if_pos hi]
  spot := fun x e h0 => h.spot x e (by omega)
  old := fun x e h0 => h.old x e (by omega)
end Go.Bv
namespace Go.G2
set_option linter.unusedVariables false
theorem mulG_pow2 (a b k : Nat) : mulG a (2 ^ k * b) = 2 ^ k * mulG a b := by
  rw [← mulG_pow, mulG_comm a, mulG_assoc, mulG_comm b a, mulG_pow]
theorem pow_xor (a b k : Nat) : 2 ^ k * (a ^^^ b) = 2 ^ k * a ^^^ 2 ^ k * b := by
  rw [← mulG_pow, ← mulG_pow, ← mulG_pow, mulG_xor]
theorem wL_nil (k : Nat) : wL k 0 = List.replicate k 0#64 := by
  apply words_eq (n := k) (wL_len _ _) List.length_replicate
  intro i hi
  rw [wL_get hi, Nat.zero_div, List.getD_eq_getElem?_getD, List.getElem?_replicate, if_pos hi]; rfl
/-- the rows behind one word of a product -/
theorem mul_row {A B X : Nat} {i : Nat} (hx : BitVec.ofNat 64 (A / 2 ^ (64 * i)) = BitVec.ofNat 64 X) (hX : X < 2 ^ 64) : mulG (A % 2 ^ (64 * (i + 1))) B = mulG (A % 2 ^ (64 * i)) B ^^^ 2 ^ (64 * i) * mulG X B := by
  rw [mod_step, hx, BitVec.toNat_ofNat, Nat.mod_eq_of_lt hX, xor_mulG, mulG_comm (2 ^ (64 * i) * X), mulG_pow2, mulG_comm B]
/-- two words of a product -/
theorem mul_two {V P : Nat} {k : Nat} (hP : P < 2 ^ 128) : (V ^^^ 2 ^ (64 * k) * (BitVec.ofNat 64 P).toNat) ^^^ 2 ^ (64 * (k + 1)) * (BitVec.ofNat 64 (P / 2 ^ 64)).toNat = V ^^^ 2 ^ (64 * k) * P := by
  have h1 : P / 2 ^ 64 < 2 ^ 64 := by omega
  have h2 : P = P % 2 ^ 64 ^^^ 2 ^ 64 * (P / 2 ^ 64) := by
    rw [← bits_split _ _ _ (Nat.mod_lt _ (by decide))]
    omega
  rw [BitVec.toNat_ofNat, BitVec.toNat_ofNat, Nat.mod_eq_of_lt h1, Nat.mul_add, Nat.pow_add, Nat.mul_assoc, Nat.xor_assoc, ← pow_xor, ← h2]
theorem mulG_words {x y : BitVec 64} : mulG y.toNat x.toNat < 2 ^ 128 := by
  have := mulG_lt (n := 64) (m := 64) (Nat.lt_of_lt_of_le y.isLt (by decide)) x.isLt
  exact this
end Go.G2
namespace Go.Proofs.YtfaobdmoifnglaaGreat
open Go Go.RowKit Go.Bv Go.G2
set_option linter.unusedVariables false
theorem wrap_i64 {x : Int} (h : 0 ≤ x) (h2 : x ≤ 1000000000) : IntKind.i64.wrap x = x := by
  simp [IntKind.wrap, IntKind.bits, IntKind.signed]; omega
theorem wrap_64 {x : Int} (h : 0 ≤ x) (h2 : x ≤ 1000000000) : wrap64 x = x := by unfold wrap64; omega
theorem idx_two {U T N i j k : Nat} (hN : U + T = N) (hb : N ≤ 1000000) (hi : i < U) (hj : j < T) (hk : i + j = k) : k + 1 < N ∧ (i : Int) + (j : Int) = (k : Int) ∧ wrap64 (k : Int) = (k : Int) ∧ IntKind.i64.wrap (k : Int) = (k : Int) ∧ wrap64 ((k : Int) + 1) = (k : Int) + 1 ∧ IntKind.i64.wrap ((k : Int) + 1) = (k : Int) + 1 ∧ (0 : Int) ≤ (k : Int) + 1 ∧ (k : Int) + 1 < (N : Int) ∧ (0 : Int) ≤ (k : Int) ∧ (k : Int) < (N : Int) := by
  exact ⟨by omega, by omega, wrap_64 (by omega) (by omega), wrap_i64 (by omega) (by omega), wrap_64 (by omega) (by omega), wrap_i64 (by omega) (by omega), by omega, by omega, by omega, by omega⟩
theorem ow_in2 {w : World} {base g n cap : Nat} {e : TypeId} {xs : List Value} (h : w.ownsRow base e 1 (.slice (some ⟨g, 0, none⟩) n cap) n xs) : base ≤ g ∧ g < w.heap.size := by
  obtain ⟨hl, h | ⟨g', cap', cur, hv, hb, hc, _⟩⟩ := h
  · cases h.1
  · injection hv with e1 e2 e3
    cases e1
    exact ⟨hb, lt_of_block hc⟩
theorem make_w64 (n : Nat) (hn : n ≤ 1000000) (t : Int) (w : World) (ht : t = ((n : Nat) : Int)) : (Instr.makeSlice 40 (.int .i64 t) (.int .i64 t)).run Tryz.prog w = .ok (.slice (some ⟨w.heap.size, 0, none⟩) n n) (w.alloc (.cells (madeCells #[.int .u64 0] n) 22)) := by
  obtain ⟨i0, hi, hz0, hz1, hz2⟩ := info_parts info8_cq
  subst ht
  exact run_make_row (P := Tryz.prog) 40 22 i0 (.int .u64 0) Tryz.underlying40 hi hz0 hz1 rfl .i64 .i64 n (by rw [hz2]; omega) (by omega) w
theorem ow_zeros (w : World) (n : Nat) (hn : n ≤ 1000000) : (w.alloc (.cells (madeCells #[.int .u64 0] n) 22)).ownsRow w.heap.size 22 1 (.slice (some ⟨w.heap.size, 0, none⟩) n n) n ((wL n 0).map fun x => .int .u64 (W64 x)) :=
  ow_made w _ _ _ n _ (Nat.le_refl _) (by omega) (by rw [made_toList, wL_nil, List.map_replicate]; rfl) (by rw [List.length_map, wL_len])
set_option maxRecDepth 100000 in
set_option maxHeartbeats 4000000 in
theorem mul_q (a b : Option Addr) (n c m c2 : Nat) (l l2 : List (BitVec 64)) (w : World) (h : QRow w a n c l) (h2 : QRow w b m c2 l2) (hn : n ≤ 50000) (hm : m ≤ 50000) :
    Calls Tryz.prog 164 #[.slice a n c, .slice b m c2] w fun e w' => ∃ a' c', e = .returned (.slice a' (tW (mulG (vW l) (vW l2))).length c') ∧ QRow w' a' (tW (mulG (vW l) (vW l2))).length c' (tW (mulG (vW l) (vW l2))) ∧ New w w' := by
  have hU1 := us_le l
  have hU2 := us_le l2
  rw [h.len_eq] at hU1
  rw [h2.len_eq] at hU2
  have HU1 := Lib.hid (fun w' (hn' : New w w') => used_q a n c l w' (h.stay hn'))
  have HU2 := Lib.hid (fun w' (hn' : New w w') => used_q b m c2 l2 w' (h2.stay hn'))
  have hr1 := h.cut _ hU1
  have hr2 := h2.cut _ hU2
  rw [us_take] at hr1 hr2
  have hA : vW l < 2 ^ (64 * usN l) := bl_le.1 (by unfold usN; omega)
  have hB : vW l2 < 2 ^ (64 * usN l2) := bl_le.1 (by unfold usN; omega)
  have hc1 := Nat.le_trans hU1 h.le
  have hc2 := Nat.le_trans hU2 h2.le
  obtain ⟨U, hU⟩ : ∃ U, usN l = U := ⟨_, rfl⟩
  obtain ⟨T, hT⟩ : ∃ T, usN l2 = T := ⟨_, rfl⟩
  obtain ⟨A, hAe⟩ : ∃ A, vW l = A := ⟨_, rfl⟩
  obtain ⟨B, hBe⟩ : ∃ B, vW l2 = B := ⟨_, rfl⟩
  rw [hU] at HU1 hr1 hA hU1 hc1
  rw [hT] at HU2 hr2 hB hU2 hc2
  rw [hAe] at hr1 hA ⊢
  rw [hBe] at hr2 hB ⊢
  have hTA : ∀ i, i < U → (tW A).getD i 0 = BitVec.ofNat 64 (A / 2 ^ (64 * i)) := fun i hi => wL_get (by have := hr1.len_eq; rw [tW_len] at this; omega)
  have hTB : ∀ i, i < T → (tW B).getD i 0 = BitVec.ofNat 64 (B / 2 ^ (64 * i)) := fun i hi => wL_get (by have := hr2.len_eq; rw [tW_len] at this; omega)
  have hML : mulG A B < 2 ^ (64 * (U + T)) := by
    have := mulG_lt (n := 64 * U) (m := 64 * T) (Nat.lt_of_lt_of_le hA (Nat.pow_le_pow_right (by decide) (by omega))) hB
    rwa [← Nat.mul_add] at this
  have HR1 := Lib.hid hr1
  have HR2 := Lib.hid hr2
  have HTA := Lib.hid hTA
  have HTB := Lib.hid hTB
  have HA := Lib.hid hA
  have HBL := Lib.hid hB
  have HML := Lib.hid hML
  obtain ⟨N, hN⟩ : ∃ N, U + T = N := ⟨_, rfl⟩
  have hNi : (U : Int) + (T : Int) = (N : Int) := by omega
  have HMK := Lib.hid (make_w64 N (by omega))
  have s1 : (0 : Int) ≤ (U : Int) := by omega
  have s2 : (U : Int) ≤ (c : Int) := by omega
  have s3 : (0 : Int) ≤ (T : Int) := by omega
  have s4 : (T : Int) ≤ (c2 : Int) := by omega
  have HNN := Lib.hid hN
  clear h h2 hr1 hr2 hTA hTB hA hB hML hU hT hAe hBe hN
  go_enter Tryz.func164, Tryz.ntmps164
  go_wp2_with fail
  go_step3
  go_wp2_with fail
  go_quiet (first
    | (go_at_call_of 172 (Value.slice a n c); refine Calls.quiet_of_same (HU1.out _ (by first | exact New.refl _ | exact (New.refl _).drew | exact (New.refl _).drewN _)))
    | (go_at_call_of 172 (Value.slice b m c2); refine Calls.quiet_of_same (HU2.out _ (by first | exact New.refl _ | exact (New.refl _).drew | exact (New.refl _).drewN _))))
  have hn1 : New w (w.drewN nq) := (New.refl w).drewN nq
  obtain ⟨w1, hw1⟩ : ∃ z, w.drewN nq = z := ⟨_, rfl⟩
  rw [hw1] at hn1 ⊢
  have hnz : New w (w1.alloc (.cells (madeCells #[.int .u64 0] N) 22)) := hn1.alloc _
  have hoz := ow_zeros w1 N (by omega)
  have hle1 : w.heap.size ≤ w1.heap.size := hn1.le
  have HLE := Lib.hid hle1
  obtain ⟨W2, hW2⟩ : ∃ z, w1.alloc (.cells (madeCells #[.int .u64 0] N) 22) = z := ⟨_, rfl⟩
  rw [hW2] at hnz hoz
  have HN := Lib.hid hnz
  have HO := Lib.hid (ow_base hoz hle1)
  have HW2 := Lib.hid hW2
  clear HU1 HU2 hw1 hn1 hnz hoz hle1 hW2
  obtain ⟨g, hg⟩ : ∃ g, w1.heap.size = g := ⟨_, rfl⟩
  rw [hg] at HO HLE
  go_wp2_with fail
  rw [HMK.out _ _ (by omega)]
  rw [HW2.out, hg]
  clear HW2 hg HMK
  go_wp2_with fail
  go_step3
  go_wp2_with fail
  go_loopw [27] (fun iv wr => ∃ i : Nat, i ≤ U ∧ iv = .int .i64 (i : Int) ∧ wr.ownsRow w.heap.size 22 1 (.slice (some ⟨g, 0, none⟩) N N) N ((wL N (mulG (A % 2 ^ (64 * i)) B)).map fun x => .int .u64 (W64 x)) ∧ New w wr) (fun iv _ => U - (intOf iv).toNat)
  case atStart =>
    refine ⟨0, Nat.zero_le _, rfl, ?_, HN.out⟩
    rw [Nat.mul_zero, Nat.pow_zero, Nat.mod_one, mulG_zero]
    exact HO.out
  case round =>
    clear HN HO
    obtain ⟨i, hi, rfl, hown, hnew⟩ := hrel
    obtain ⟨wq, hwq⟩ : ∃ z, z = wr := ⟨_, rfl⟩
    rw [← hwq] at hown hnew ⊢
    clear hwq
    by_cases hlt : (i : Int) < (U : Int)
    · have hi0 : (0 : Int) ≤ (i : Int) := by omega
      obtain ⟨b1, off, rfl, hc⟩ := (HR1.out.stay hnew).addr (by have := HR1.out.len_eq; omega)
      have c1 := hc i (by omega)
      rw [HTA.out i (by omega)] at c1
      clear hc
      obtain ⟨x, hx⟩ : ∃ x, BitVec.ofNat 64 (A / 2 ^ (64 * i)) = x := ⟨_, rfl⟩
      rw [hx] at c1
      have HST : Hid (mulG (A % 2 ^ (64 * (i + 1))) B = mulG (A % 2 ^ (64 * i)) B ^^^ 2 ^ (64 * i) * mulG x.toNat B) := Lib.hid (mul_row (by rw [hx]; simp) x.isLt)
      clear hx
      have HO := Lib.hid hown
      have HN := Lib.hid hnew
      clear hown hnew
      rcases hxe : (x == 0#64) with _ | _
      · go_wp2_with fail
        go_loopw [36] (fun jv wr => ∃ j : Nat, j ≤ T ∧ jv = .int .i64 (j : Int) ∧ wr.ownsRow w.heap.size 22 1 (.slice (some ⟨g, 0, none⟩) N N) N ((wL N (mulG (A % 2 ^ (64 * i)) B ^^^ 2 ^ (64 * i) * mulG x.toNat (B % 2 ^ (64 * j)))).map fun x => .int .u64 (W64 x)) ∧ New w wr) (fun jv _ => T - (intOf jv).toNat)
        case atStart =>
          refine ⟨0, Nat.zero_le _, rfl, ?_, HN.out⟩
          rw [Nat.mul_zero, Nat.pow_zero, Nat.mod_one, mulG_zero', Nat.mul_zero, Nat.xor_zero]
          exact HO.out
        case round =>
          clear HN HO c1
          obtain ⟨j, hj, rfl, hown, hnew⟩ := hrel
          obtain ⟨wz, hwz⟩ : ∃ z, z = wr := ⟨_, rfl⟩
          rw [← hwz] at hown hnew ⊢
          clear hwz
          by_cases hlt2 : (j : Int) < (T : Int)
          · have hj0 : (0 : Int) ≤ (j : Int) := by omega
            obtain ⟨b2, off2, rfl, hc⟩ := (HR2.out.stay hnew).addr (by have := HR2.out.len_eq; omega)
            have c2 := hc j (by omega)
            rw [HTB.out j (by omega)] at c2
            clear hc
            obtain ⟨y, hy⟩ : ∃ y, BitVec.ofNat 64 (B / 2 ^ (64 * j)) = y := ⟨_, rfl⟩
            rw [hy] at c2
            obtain ⟨V, hV⟩ : ∃ V, mulG (A % 2 ^ (64 * i)) B ^^^ 2 ^ (64 * i) * mulG x.toNat (B % 2 ^ (64 * j)) = V := ⟨_, rfl⟩
            obtain ⟨P, hP⟩ : ∃ P, mulG y.toNat x.toNat = P := ⟨_, rfl⟩
            have hPL : P < 2 ^ 128 := hP ▸ mulG_words
            obtain ⟨k, hk⟩ : ∃ k, i + j = k := ⟨_, rfl⟩
            have HV2 : Hid (mulG (A % 2 ^ (64 * i)) B ^^^ 2 ^ (64 * i) * mulG x.toNat (B % 2 ^ (64 * (j + 1))) = V ^^^ 2 ^ (64 * k) * P) := Lib.hid (by
              rw [mod_step, hy, mulG_xor, mulG_pow2, pow_xor, ← Nat.xor_assoc, hV, ← Nat.mul_assoc, ← Nat.pow_add, ← Nat.mul_add, hk, mulG_comm, hP])
            rw [hV] at hown
            have HC := Lib.hid (clmul_q x y wz)
            rw [hP] at HC
            obtain ⟨hkN, hki, hwa, hwb, hwc, hwd, hk10, hk1N, hk0, hkN0⟩ := idx_two HNN.out (by omega) (show i < U by omega) (show j < T by omega) hk
            have HWC := Lib.hid (And.intro hwc hwd)
            clear hwc hwd
            have HO := Lib.hid hown
            have HN := Lib.hid hnew
            clear hown hnew hy hV hP hk
            go_wp2_with fail
            refine HC.out.mono ?_
            rintro e w3 ⟨rfl, hn3⟩
            have HM2 := Lib.hid (mul_two (V := V) (k := k) hPL)
            obtain ⟨p1, hp1⟩ : ∃ q, BitVec.ofNat 64 (P / 2 ^ 64) = q := ⟨_, rfl⟩
            obtain ⟨p0, hp0⟩ : ∃ q, BitVec.ofNat 64 P = q := ⟨_, rfl⟩
            rw [hp1, hp0] at HM2 ⊢
            obtain ⟨W4, hW4⟩ : ∃ z, w3.alloc (.cells #[.int .u64 (W64 p1), .int .u64 (W64 p0)] 74) = z := ⟨_, rfl⟩
            have hn4 : New w3 W4 := hW4 ▸ (New.refl w3).alloc _
            have hb3 := heap_alloc_new w3 (.cells #[.int .u64 (W64 p1), .int .u64 (W64 p0)] 74)
            rw [hW4] at hb3
            have ho4 := ow_new (ow_new HO.out hn3) hn4
            have hg := ow_in2 (ow_new HO.out hn3)
            have hne : w3.heap.size ≠ g := (Nat.ne_of_lt hg.2).symm
            have hn94 := (HN.out.trans hn3).trans hn4
            have k0 : W4.cell? ⟨w3.heap.size, 0, none⟩ = some (.int .u64 (W64 p1)) := cell_of_row _ _ 0 _ _ _ hb3
            have k1 : W4.cell? ⟨w3.heap.size, 1, none⟩ = some (.int .u64 (W64 p0)) := cell_of_row _ _ 1 _ _ _ hb3
            obtain ⟨d1, f1⟩ := ow_w64 ho4 (k := k) (Nat.lt_of_succ_lt hkN)
            obtain ⟨u, hu⟩ : ∃ u, (wL N V).getD k 0 = u := ⟨_, rfl⟩
            rw [hu] at d1
            have hset1 : (wL N V).set k (u ^^^ p0) = wL N (V ^^^ 2 ^ (64 * k) * p0.toNat) := by
              rw [← hu, wL_get (Nat.lt_of_succ_lt hkN)]; exact wL_xor (Nat.lt_of_succ_lt hkN) p0
            have ho5 : ((W4.setCell ⟨g, k, none⟩ (.int .u64 (W64 (u ^^^ p0)))).drew).ownsRow w.heap.size 22 1 (.slice (some ⟨g, 0, none⟩) N N) N ((wL N (V ^^^ 2 ^ (64 * k) * p0.toNat)).map fun x => .int .u64 (W64 x)) := by
              rw [← hset1, List.map_set]; exact ow_new (ow_set ho4 k _) (New.refl _).drew
            have hn95 : New w ((W4.setCell ⟨g, k, none⟩ (.int .u64 (W64 (u ^^^ p0)))).drew) := New.drew (hn94.setCell (p := ⟨g, k, none⟩) hg.1 _)
            have hb5 := (((New.refl _).drew).block _ (by rw [show (W4.setCell ⟨g, k, none⟩ (.int .u64 (W64 (u ^^^ p0)))).heap.size = W4.heap.size by simp [World.setCell]]; exact lt_of_block hb3)).trans ((heap_setCell_other W4 ⟨g, k, none⟩ w3.heap.size (.int .u64 (W64 (u ^^^ p0))) hne).trans hb3)
            have HO5 := Lib.hid ho5
            have HN5 := Lib.hid hn95
            have HB5 := Lib.hid hb5
            clear hp1 hp0 hn3 hn4 ho4 hn94 hb3 ho5 hn95 hb5 hu hset1 HO HN HC
            go_wp2_with fail
            go_region
            clear k0 k1 d1 f1 hW4
            obtain ⟨W5, hW5⟩ : ∃ z, (W4.setCell ⟨g, k, none⟩ (.int .u64 (W64 (u ^^^ p0)))).drew = z := ⟨_, rfl⟩
            rw [hW5] at HO5 HN5 HB5 ⊢
            clear hW5
            have k2 : W5.cell? ⟨w3.heap.size, 0, none⟩ = some (.int .u64 (W64 p1)) := cell_of_row _ _ 0 _ _ _ HB5.out
            obtain ⟨d2, f2⟩ := ow_w64 HO5.out (k := k + 1) hkN
            obtain ⟨v, hv⟩ : ∃ v, (wL N (V ^^^ 2 ^ (64 * k) * p0.toNat)).getD (k + 1) 0 = v := ⟨_, rfl⟩
            rw [hv] at d2
            have HO6 : Hid (((W5.setCell ⟨g, k + 1, none⟩ (.int .u64 (W64 (v ^^^ p1)))).drew).ownsRow w.heap.size 22 1 (.slice (some ⟨g, 0, none⟩) N N) N ((wL N (V ^^^ 2 ^ (64 * k) * P)).map fun x => .int .u64 (W64 x))) := Lib.hid (by
              rw [← HM2.out, ← wL_xor hkN p1, ← wL_get hkN, hv, List.map_set]; exact ow_new (ow_set HO5.out (k + 1) _) (New.refl _).drew)
            have HN6 : Hid (New w ((W5.setCell ⟨g, k + 1, none⟩ (.int .u64 (W64 (v ^^^ p1)))).drew)) := Lib.hid (New.drew (HN5.out.setCell (p := ⟨g, k + 1, none⟩) hg.1 _))
            obtain ⟨hwc, hwd⟩ := HWC.out
            clear HM2 HO5 HN5 HB5 hv
            go_wp2_with fail
            go_region
            clear k2 d2 f2
            obtain ⟨W6, hW6⟩ : ∃ z, (W5.setCell ⟨g, k + 1, none⟩ (.int .u64 (W64 (v ^^^ p1)))).drew = z := ⟨_, rfl⟩
            rw [hW6] at HO6 HN6 ⊢
            clear hW6 hwa hwb hwc hwd HWC hki
            go_wp2
            refine ⟨⟨j + 1, by omega, by go_num, ?_, HN6.out⟩, by simp [intOf]; omega⟩
            rw [HV2.out]; exact HO6.out
          · have hjT : j = T := by omega
            rw [hjT, Nat.mod_eq_of_lt HBL.out, ← HST.out] at hown
            have HO := Lib.hid hown
            have HN := Lib.hid hnew
            clear hown hnew hjT
            go_wp2
            exact ⟨⟨i + 1, by omega, by go_num, HO.out, HN.out⟩, by simp [intOf]; omega⟩
      · have hx0 := of_eq hxe
        have HE : Hid (mulG (A % 2 ^ (64 * (i + 1))) B = mulG (A % 2 ^ (64 * i)) B) := Lib.hid (by rw [HST.out, hx0]; simp [mulG_zero])
        clear hx0
        go_wp2
        refine ⟨⟨i + 1, by omega, by go_num, ?_, HN.out⟩, by simp [intOf]; omega⟩
        rw [HE.out]; exact HO.out
    · have hiU : i = U := by omega
      rw [hiU, Nat.mod_eq_of_lt HA.out] at hown
      obtain ⟨a9, c9, he, hq⟩ := QRow.of_owns hown (by omega)
      cases he
      have HT := Lib.hid (trim_q _ _ _ _ wq hq)
      rw [vW_wL, Nat.mod_eq_of_lt (by rw [← HNN.out]; exact HML.out)] at HT
      have HN := Lib.hid hnew
      clear hown hnew hq hiU
      go_wp2_with fail
      refine HT.out.mono ?_
      rintro e w2 ⟨a8, c8, rfl, hq, hn2⟩
      have HQ := Lib.hid hq
      have HN2 := Lib.hid (HN.out.trans hn2)
      clear hq hn2 HT
      go_wp2
      rw [Exit.noGoto_ret]
      go_ret
      exact ⟨_, _, rfl, HQ.out, HN2.out⟩
end Go.Proofs.YtfaobdmoifnglaaGreat
end
