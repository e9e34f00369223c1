import Derived.Test.YtfaobdmoifnglaaGreatZGf2R
import Derived.Laws.AppendOwnNone
section
/- The document's own answers of layer 6: Up, Mul, Words; the law's words. -/
namespace Go.G2
set_option linter.unusedVariables false
theorem bools_eq {l m : List Bool} {n : Nat} (hl : l.length = n) (hm : m.length = n) (h : ∀ i, i < n → l.getD i false = m.getD i false) : l = m := by
  apply List.ext_getElem?
  intro i
  by_cases hi : i < n
  · have := h i hi
    rw [List.getD_eq_getElem?_getD, List.getD_eq_getElem?_getD, List.getElem?_eq_getElem (by omega), List.getElem?_eq_getElem (by omega)] at this
    rw [List.getElem?_eq_getElem (by omega), List.getElem?_eq_getElem (by omega)]
    simpa using this
  · rw [List.getElem?_eq_none (by omega), List.getElem?_eq_none (by omega)]
theorem up_bits (n : Nat) (bs : List Bool) : List.replicate n false ++ bs = bO (2 ^ n * vB bs) (n + bs.length) := by
  apply bools_eq (n := n + bs.length) (by simp) (bO_len _ _)
  intro i hi
  rw [bO_get _ hi, Nat.testBit_two_pow_mul, bit_bool, List.getD_eq_getElem?_getD]
  by_cases h : i < n
  · rw [List.getElem?_append_left (by simpa using h), List.getElem?_replicate, if_pos h]; simp [show ¬ n ≤ i by omega]
  · rw [List.getElem?_append_right (by simp; omega), List.length_replicate]; simp [show n ≤ i by omega]
theorem wL_snoc (k n : Nat) : wL (k + 1) n = wL k n ++ [BitVec.ofNat 64 (n / 2 ^ (64 * k))] := by unfold wL; rw [List.range_succ, List.map_append]; rfl
theorem wL_zero_at (V j : Nat) : wL (j + 1) (V % 2 ^ (64 * j)) = wL j (V % 2 ^ (64 * j)) ++ [0#64] := by
  rw [wL_snoc, Nat.div_eq_of_lt (Nat.mod_lt _ (Nat.two_pow_pos _))]
theorem word_bit {V i j s k : Nat} (hj : i / 64 = j) (hs : i % 64 = s) (hk : j < k) : (wL k (V % 2 ^ i)).set j ((wL k (V % 2 ^ i)).getD j 0 + 1#64 <<< s) = wL k (V % 2 ^ i ^^^ 2 ^ i) := by
  have hs64 : s < 64 := by omega
  have hi : i = 64 * j + s := by omega
  have hbit : (BitVec.ofNat 64 (V % 2 ^ i / 2 ^ (64 * j))).getLsbD s = false := by
    rw [BitVec.getLsbD_ofNat, Nat.testBit_div_two_pow, Nat.testBit_mod_two_pow]
    simp [show ¬ s + 64 * j < i by omega]
  have hx : (wL k (V % 2 ^ i)).getD j 0 + 1#64 <<< s = BitVec.ofNat 64 (V % 2 ^ i / 2 ^ (64 * j)) ^^^ 1#64 <<< s := by
    rw [wL_get hk]
    have h0 : BitVec.ofNat 64 (V % 2 ^ i / 2 ^ (64 * j)) &&& 1#64 <<< s = 0#64 := by
      apply BitVec.eq_of_getLsbD_eq
      intro t ht
      rw [BitVec.getLsbD_and, BitVec.getLsbD_shiftLeft, BitVec.getLsbD_one]
      by_cases e : t = s
      · subst e; rw [hbit]; simp
      · by_cases h2 : t < s
        · simp [h2]
        · simp [show ¬ t - s = 0 by omega]
    rw [BitVec.add_eq_or_of_and_eq_zero _ _ h0]
    apply BitVec.eq_of_getLsbD_eq
    intro t ht
    have h1 := congrArg (fun y => y.getLsbD t) h0
    simp only [BitVec.getLsbD_and, BitVec.getLsbD_zero] at h1
    rw [BitVec.getLsbD_or, BitVec.getLsbD_xor]
    generalize (BitVec.ofNat 64 (V % 2 ^ i / 2 ^ (64 * j))).getLsbD t = p at h1 ⊢
    generalize (1#64 <<< s).getLsbD t = q at h1 ⊢
    cases p <;> cases q <;> simp at h1 ⊢
  rw [hx, wL_xor hk, shl_one s hs64, ← Nat.pow_add, ← hi]
theorem mod_bit (V i : Nat) : V % 2 ^ (i + 1) = V % 2 ^ i ^^^ (if V.testBit i then 2 ^ i else 0) := by
  have := bit_step V i 1
  rw [mulG_comm, one_mulG, mulG_comm, one_mulG, Nat.mul_one] at this
  exact this
theorem tW_end (V : Nat) : wL ((bl V + 63) / 64) (V % 2 ^ bl V) = tW V := by rw [Nat.mod_eq_of_lt (lt_bl V)]; rfl
end Go.G2
namespace Go.Proofs.YtfaobdmoifnglaaGreat
open Go Go.RowKit Go.Bv Go.G2
set_option linter.unusedVariables false
theorem nil_lrow (w : World) : LRow w none 0 0 [] := ⟨rfl, Nat.le_refl _, by omega, by omega, (fun _ => ⟨rfl, rfl⟩), (fun b off e => by cases e), (fun x e => by cases e), (fun x e => by cases e)⟩
theorem info_u64w : (Tryz.prog.info? 22).map (fun i => (i.zero, i.size, i.bytes)) = some (some (.int .u64 0), 1, 8) := by kernel_rfl
end Go.Proofs.YtfaobdmoifnglaaGreat
end
section
/- gf2: Div, Mod, MulMod; the law's own words; the chapter's example; the law Gf2Tells. -/
namespace Go.G2
set_option linter.unusedVariables false
theorem mulG_33 : mulG 3 3 = 5 := by
  rw [mulG_step, mulG_step (3 / 2), show 3 / 2 / 2 = 0 from rfl, mulG_zero]; rfl
theorem rm_43 : rmG 4 3 = 1 := by
  unfold rmG
  rw [dv_is (q := 3) (r := 1) (by decide) (by rw [mulG_33]; rfl) (by decide)]
theorem tW_one : tW 1 = [1#64] := by rfl
theorem vW_lit (x : BitVec 64) : vW [x] = x.toNat := by simp [vW]
end Go.G2
namespace Go.Proofs.YtfaobdmoifnglaaGreat
open Go Go.RowKit Go.Bv Go.G2
set_option linter.unusedVariables false
set_option maxHeartbeats 1000000 in
theorem mod_q (a b : Option Addr) (n c m c2 : Nat) (l l2 : List (BitVec 64)) (w : World) (h : QRow w a n c l) (h2 : QRow w b m c2 l2) (hn : n ≤ 50000) (hm : m ≤ 50000) (hz : vW l2 ≠ 0) :
    Calls Tryz.prog 139 #[.slice a n c, .slice b m c2] w fun e w' => ∃ a3 c3, e = .returned (.tuple #[.slice a3 (tW (rmG (vW l) (vW l2))).length c3, .bool true]) ∧ QRow w' a3 (tW (rmG (vW l) (vW l2))).length c3 (tW (rmG (vW l) (vW l2))) ∧ New w w' := by
  have HD := Lib.hid (divide_q a b n c m c2 l l2 w h h2 hn hm hz)
  obtain ⟨R, hR⟩ : ∃ R, tW (rmG (vW l) (vW l2)) = R := ⟨_, rfl⟩
  obtain ⟨Q, hQ⟩ : ∃ Q, tW (dvG (vW l) (vW l2)).1 = Q := ⟨_, rfl⟩
  rw [hR, hQ] at HD
  rw [hR]
  clear h h2 hz hR hQ
  go_enter Tryz.func139, Tryz.ntmps139
  go_wp2_with fail
  refine HD.out.mono ?_
  rintro e w1 ⟨a1, c1, a3, c3, rfl, _, hq, hn1⟩
  have HQ := Lib.hid hq
  have HN := Lib.hid hn1
  clear hq hn1 HD
  go_wp2
  go_ret2
  exact ⟨_, _, rfl, HQ.out, HN.out⟩
theorem mod_z (a b : Option Addr) (n c m c2 : Nat) (l2 : List (BitVec 64)) (w : World) (h2 : QRow w b m c2 l2) (hm : m ≤ 50000) (hz : vW l2 = 0) :
    Calls Tryz.prog 139 #[.slice a n c, .slice b m c2] w fun e w' => e = .returned (.tuple #[.slice none 0 0, .bool false]) ∧ w' = w := by
  have HD := Lib.hid (divide_z a b n c m c2 l2 w h2 hm hz)
  clear h2 hz
  go_enter Tryz.func139, Tryz.ntmps139
  go_wp2_with fail
  refine HD.out.mono ?_
  rintro e w' ⟨rfl, hw⟩
  replace hw := hw.symm
  subst hw
  go_wp2
  go_ret2
  exact ⟨rfl, rfl⟩
set_option maxHeartbeats 1000000 in
theorem mulmod_q (a b d : Option Addr) (n c m c2 k c3 : Nat) (l l2 l3 : List (BitVec 64)) (w : World) (h : QRow w a n c l) (h2 : QRow w b m c2 l2) (h3 : QRow w d k c3 l3) (hn : n ≤ 20000) (hm : m ≤ 20000) (hk : k ≤ 50000) (hz : vW l3 ≠ 0) :
    Calls Tryz.prog 141 #[.slice a n c, .slice b m c2, .slice d k c3] w fun e w' => ∃ a3 c9, e = .returned (.tuple #[.slice a3 (tW (rmG (mulG (vW l) (vW l2)) (vW l3))).length c9, .bool true]) ∧ QRow w' a3 (tW (rmG (mulG (vW l) (vW l2)) (vW l3))).length c9 (tW (rmG (mulG (vW l) (vW l2)) (vW l3))) ∧ New w w' := by
  have HD := Lib.hid (deg_q d k c3 l3 w h3 (by omega))
  obtain ⟨lo, hlo, _, _⟩ := bl_pos hz
  rw [hlo, show ((lo + 1 : Nat) : Int) - 1 = (lo : Int) by omega] at HD
  have HM := Lib.hid (mul_q a b n c m c2 l l2 w h h2 (by omega) (by omega))
  have hbl : (tW (mulG (vW l) (vW l2))).length ≤ 50000 := by
    rw [tW_len]
    have h1 := vW_lt l
    have h4 := vW_lt l2
    rw [h.len_eq] at h1
    rw [h2.len_eq] at h4
    have := bl_le.2 (mulG_lt (n := 64 * n) (m := 64 * m) (Nat.lt_of_lt_of_le h1 (Nat.pow_le_pow_right (by decide) (by omega))) h4)
    omega
  have HR := Lib.hid (fun a1 c1 w' (hq : QRow w' a1 (tW (mulG (vW l) (vW l2))).length c1 (tW (mulG (vW l) (vW l2)))) (hn' : New w w') => mod_q a1 d _ c1 k c3 _ l3 w' hq (h3.stay hn') hbl hk hz)
  rw [vW_tW] at HR
  obtain ⟨R, hR⟩ : ∃ R, tW (rmG (mulG (vW l) (vW l2)) (vW l3)) = R := ⟨_, rfl⟩
  obtain ⟨P, hP⟩ : ∃ P, tW (mulG (vW l) (vW l2)) = P := ⟨_, rfl⟩
  rw [hR, hP] at HR
  rw [hP] at HM
  rw [hR]
  have hl0 : ¬ (lo : Int) < 0 := by omega
  clear h h2 h3 hz hR hP hlo hbl
  go_enter Tryz.func141, Tryz.ntmps141
  go_wp2_with fail
  refine HD.out.mono ?_
  rintro e w' ⟨rfl, hw⟩
  replace hw := hw.symm
  subst hw
  clear HD
  go_wp2_with fail
  refine HM.out.mono ?_
  rintro e w1 ⟨a1, c1, rfl, hq, hn1⟩
  have HRR := Lib.hid (HR.out _ _ _ hq hn1)
  have HN := Lib.hid hn1
  clear hq hn1 HM HR
  go_wp2_with fail
  refine HRR.out.mono ?_
  rintro e w2 ⟨a3, c9, rfl, hq, hn2⟩
  have HQ := Lib.hid hq
  replace HN := Lib.hid (HN.out.trans hn2)
  clear hq hn2 HRR
  go_wp2
  go_ret2
  exact ⟨_, _, rfl, HQ.out, HN.out⟩
theorem lit_row (w : World) (x : BitVec 64) : QRow (w.alloc (.cells #[.int .u64 (W64 x)] 22)) (some ⟨w.heap.size, 0, none⟩) 1 1 [x] where
  len_eq := rfl
  le := Nat.le_refl _
  most := by omega
  room := by omega
  none := (fun e => by cases e)
  cell := fun b off e i hi => by
    cases e
    obtain rfl : i = 0 := by omega
    exact cell_of_row _ _ 0 _ _ _ (heap_alloc_new _ _)
  spot := fun x e h0 => by cases e; rfl
  old := fun x e h0 => by cases e; simp
end Go.Proofs.YtfaobdmoifnglaaGreat
end
section
/- The document's own Divide of layer 6. -/
namespace Go.Bv
open Go Go.RowKit
set_option linter.unusedVariables false
theorem LRow.same {w : World} {a : Option Addr} {n c : Nat} {l m : List Bool} (h : LRow w a n c l) (h2 : LRow w a n c m) : l = m := by
  apply G2.bools_eq (n := n) h.len_eq h2.len_eq
  intro i hi
  obtain ⟨b, off, rfl, hc⟩ := h.addr (by omega)
  have e1 := hc i hi
  have e2 := h2.cell b off rfl i hi
  rw [e1] at e2
  simpa using e2
theorem LRow.cut {w : World} {a : Option Addr} {len cap : Nat} {l : List Bool} (h : LRow w a len cap l) (n : Nat) (hn : n ≤ len) : LRow w a n cap (l.take n) where
  len_eq := by have := h.len_eq; rw [List.length_take]; omega
  le := Nat.le_trans hn h.le
  most := by have := h.most; omega
  room := h.room
  none := (fun e => by have := h.none e; omega)
  cell := fun b2 o2 e i hi => by
    rw [h.cell b2 o2 e i (by omega), List.getD_eq_getElem?_getD, List.getD_eq_getElem?_getD, List.getElem?_take, if_pos hi]
  spot := fun x e h0 => h.spot x e (by omega)
  old := fun x e h0 => h.old x e (by omega)
open Classical in
/-- how many bits the number of a slice of bools has -/
noncomputable def msL (v : Value) (w : World) : Nat := if h : ∃ l : List Bool, ∃ a n c, v = .slice a n c ∧ LRow w a n c l then G2.bl (G2.vB (Classical.choose h)) else 0
theorem msL_is {w : World} {a : Option Addr} {n c : Nat} {l : List Bool} (h : LRow w a n c l) : msL (.slice a n c) w = G2.bl (G2.vB l) := by
  have hx : ∃ l : List Bool, ∃ a' n' c', (Value.slice a n c) = .slice a' n' c' ∧ LRow w a' n' c' l := ⟨l, a, n, c, rfl, h⟩
  unfold msL
  rw [dif_pos hx]
  obtain ⟨a', n', c', he, hr⟩ := Classical.choose_spec hx
  injection he with e1 e2 e3
  subst e1 e2 e3
  rw [hr.same h]
end Go.Bv
namespace Go.G2
set_option linter.unusedVariables false
theorem vB_take {bs : List Bool} {n : Nat} (h : vB bs < 2 ^ n) : vB (bs.take n) = vB bs := by
  apply Nat.eq_of_testBit_eq
  intro i
  rw [bit_bool, bit_bool, List.getD_eq_getElem?_getD, List.getElem?_take]
  by_cases hi : i < n
  · rw [if_pos hi, List.getD_eq_getElem?_getD]
  · rw [if_neg hi]
    have : (vB bs).testBit i = false := Nat.testBit_lt_two_pow (Nat.lt_of_lt_of_le h (Nat.pow_le_pow_right (by decide) (by omega)))
    rw [bit_bool] at this
    rw [this]; rfl
theorem vB_true : vB [true] = 1 := rfl
end Go.G2
namespace Go.Proofs.YtfaobdmoifnglaaGreat
open Go Go.RowKit Go.Bv Go.G2
set_option linter.unusedVariables false
theorem lit_true (w : World) : LRow (w.alloc (.cells #[.bool true] 4)) (some ⟨w.heap.size, 0, none⟩) 1 1 [true] where
  len_eq := rfl
  le := Nat.le_refl _
  most := by omega
  room := by omega
  none := (fun e => by cases e)
  cell := fun b off e i hi => by
    cases e
    obtain rfl : i = 0 := by omega
    exact cell_of_row _ _ 0 _ _ _ (heap_alloc_new _ _)
  spot := fun x e h0 => by cases e; rfl
  old := fun x e h0 => by cases e; simp
end Go.Proofs.YtfaobdmoifnglaaGreat
end
