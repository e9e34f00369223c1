/- Layer 22: the mathematics of Shift: aimed there, and back. -/
import Derived.Test.YtadkbpdbbgjkgaaTabG
import Derived.Test.YtadkbpdbbgjkgaaWords
namespace Go.Bv
theorem lowN_xor (x y : BitVec 64) (b : Nat) (hb : b ≤ 64) : lowN (x ^^^ y) b = lowN x b ^^^ lowN y b := by
  apply BitVec.eq_of_toNat_eq
  rw [lowN_nat _ _ hb, BitVec.toNat_xor, BitVec.toNat_xor, lowN_nat _ _ hb, lowN_nat _ _ hb, Nat.xor_mod_two_pow]
theorem lowN_low (x : BitVec 64) (b : Nat) (hb : b ≤ 64) : lowN (lowN x b) b = lowN x b := by
  apply BitVec.eq_of_toNat_eq
  rw [lowN_nat _ _ hb, lowN_nat _ _ hb, Nat.mod_mod]
theorem lowN_fits (x : BitVec 64) (b : Nat) (hb : b ≤ 64) : lowN x b >>> b = 0#64 := by
  apply BitVec.eq_of_toNat_eq
  rw [BitVec.toNat_ushiftRight, Nat.shiftRight_eq_div_pow, lowN_nat _ _ hb, Nat.div_eq_of_lt (Nat.mod_lt _ (Nat.two_pow_pos b))]
  rfl
theorem lowN_of_fits {x : BitVec 64} {b : Nat} (hb : b ≤ 64) (h : x >>> b = 0#64) : lowN x b = x := by
  apply BitVec.eq_of_toNat_eq
  have h2 := Go.Tab.shr_nat x b
  rw [h] at h2
  rw [lowN_nat _ _ hb, Nat.mod_eq_of_lt (by simpa using h2.symm)]
/-- an aimed value -/
theorem aimed_low {s y : BitVec 64} {b : Nat} (hb : b ≤ 64) (h : y >>> b = 0#64) : lowN (s ^^^ (lowN s b ^^^ y)) b = y := by
  rw [lowN_xor _ _ _ hb, lowN_xor _ _ _ hb, lowN_low _ _ hb, lowN_of_fits hb h, ← BitVec.xor_assoc, BitVec.xor_self, BitVec.zero_xor]
end Go.Bv
namespace Go.Proofs.Ytadkbpdbbgjkgaa
open Go Go.RowKit Go.Bv Go.Tab
set_option linter.unusedVariables false
set_option maxRecDepth 100000
theorem aimL_len (l : List (BitVec 64)) (n m : Nat) (R : Nat → List Int) (bl : List (BitVec 64)) : (aimL l n m R bl).length = l.length := by simp [aimL]
theorem aimL_at (l : List (BitVec 64)) (n m : Nat) (R : Nat → List Int) (bl : List (BitVec 64)) (j : Nat) (hj : j < l.length) : (aimL l n m R bl).getD j 0 = l.getD j 0 ^^^ chK m R (fun i => bl.getD i 0) (plF m n (rn R) n (fun j => decide (j < n))) 0 j := by
  unfold aimL
  rw [List.getD_eq_getElem?_getD, List.getElem?_map, List.getElem?_range hj]
  rfl
/-- aimed words: all rows' sums -/
theorem aimL_sum (l : List (BitVec 64)) (n m : Nat) (R : Nat → List Int) (bl : List (BitVec 64)) (hn : n ≤ 3) (hm : 0 < m) (hR : ∀ i p, i < n → p < m → 0 ≤ (R i).getD p 0 ∧ (R i).getD p 0 < 16) (hd : ∀ i j, i < n → j < n → i ≠ j → ∃ p, p < m ∧ rn R i p ≠ rn R j p) (hl : 16 * m ≤ l.length) (i : Nat) (hi : i < n) :
    xs (aimL l n m R bl) (R i) m = xs l (R i) m ^^^ bl.getD i 0 := by
  have hR2 : ∀ i p, i < n → p < m → rn R i p < 16 := fun i p h1 h2 => by have := hR i p h1 h2; unfold rn; omega
  rw [xs_sm, xs_sm]
  rw [sm_congr _ (fun j => l.getD j 0 ^^^ chK m R (fun i => bl.getD i 0) (plF m n (rn R) n (fun j => decide (j < n))) 0 j) (rn R i) m (fun p hp => by
    have := hR2 i p hi hp
    exact aimL_at l n m R bl _ (by omega))]
  rw [sm_xor]
  have h := aim_below (m := m) (n := n) (R := rn R) (fun i => bl.getD i 0) hn hm hR2 hd i hi
  unfold chK
  rw [List.drop_zero, h]
/-- aimed twice by the same changes -/
theorem aimL_twice (l : List (BitVec 64)) (n m : Nat) (R : Nat → List Int) (bl : List (BitVec 64)) : aimL (aimL l n m R bl) n m R bl = l := by
  refine List.ext_getElem (by rw [aimL_len, aimL_len]) fun j h1 h2 => ?_
  have e1 := aimL_at (aimL l n m R bl) n m R bl j (by rw [aimL_len]; exact h2)
  rw [aimL_at l n m R bl j h2, BitVec.xor_assoc, BitVec.xor_self, BitVec.xor_zero, List.getD_eq_getElem?_getD, List.getElem?_eq_getElem h1, List.getD_eq_getElem?_getD, List.getElem?_eq_getElem h2] at e1
  exact e1
theorem shL_len (l : List (BitVec 64)) (bits : Int) (xl yl : List (BitVec 64)) : (shL l bits xl yl).length = l.length := aimL_len _ _ _ _ _
/-- keys and targets that may be, of a seed that is right -/
structure Good (l : List (BitVec 64)) (bits : Int) (xl yl : List (BitVec 64)) : Prop where
  len : l.length = 128
  b1 : 1 ≤ bits
  b2 : bits ≤ 64
  tg : tgE bits.toNat xl yl = 0
theorem good_of {l : List (BitVec 64)} {bits : Int} {xl yl : List (BitVec 64)} (h : csE bits l.length 128 xl yl = 0) : Good l bits xl yl := by
  unfold csE at h
  by_cases e : chk bits l.length 128 = 0
  · rw [if_neg (by rw [e]; simp)] at h
    obtain ⟨b1, b2, b3⟩ := chk_good e
    exact ⟨by omega, b1, b2, h⟩
  · rw [if_pos e] at h; exact absurd h e
theorem cs_of {l : List (BitVec 64)} {bits : Int} {xl yl : List (BitVec 64)} (h : Good l bits xl yl) : chk bits l.length 128 = 0 ∧ csE bits l.length 128 xl yl = 0 := by
  have e : chk bits l.length 128 = 0 := by
    have h1 := h.len; have h2 := h.b1; have h3 := h.b2
    unfold chk
    rw [if_neg (by omega), if_neg (by omega)]
  refine ⟨e, ?_⟩
  unfold csE
  rw [if_neg (by rw [e]; simp), h.tg]
theorem good_ev {l : List (BitVec 64)} {bits : Int} {xl yl : List (BitVec 64)} (h : Good l bits xl yl) {i : Nat} (hi : i < xl.length) : evE bits l.length 128 (xl.getD i 0) = 0 ∧ evV l bits 128 (xl.getD i 0) = lowN (xs l (lets (xl.getD i 0) 8) 8) bits.toNat := by
  have e : evE bits l.length 128 (xl.getD i 0) = 0 := by
    have h5 := shr_nat (xl.getD i 0) 32
    rw [((tg_zero h.tg).2.2.2.1 i hi).1] at h5
    unfold evE
    rw [if_neg (by rw [(cs_of h).1]; simp), if_pos (by simpa using h5.symm)]
  exact ⟨e, by unfold evV; rw [if_pos e]⟩
theorem lets_rows (xl : List (BitVec 64)) (i p : Nat) (hp : p < 8) : 0 ≤ (lets (xl.getD i 0) 8).getD p 0 ∧ (lets (xl.getD i 0) 8).getD p 0 < 16 := by
  rw [lets_at _ _ _ hp]; exact lat_lt _ _
theorem good_rows {l : List (BitVec 64)} {bits : Int} {xl yl : List (BitVec 64)} (h : Good l bits xl yl) : ∀ i j, i < xl.length → j < xl.length → i ≠ j → ∃ p, p < 8 ∧ rn (fun i => lets (xl.getD i 0) 8) i p ≠ rn (fun i => lets (xl.getD i 0) 8) j p := by
  obtain ⟨t1, t2, t3, t4, t5⟩ := tg_zero h.tg
  intro i j hi hj hij
  exact rn_differ (n := xl.length) (fun i _ => lets_len _ _) (fun i p _ hp => (lets_rows xl i p hp).1) hi hj (fun he => t5 i j hi hj hij (lets_inj _ _ (t4 i hi).1 (t4 j hj).1 he))
theorem shL_good {l : List (BitVec 64)} {bits : Int} {xl yl zl : List (BitVec 64)} (h : Good l bits xl yl) (hz : tgE bits.toNat xl zl = 0) : Good (shL l bits xl yl) bits xl zl := ⟨by rw [shL_len]; exact h.len, h.b1, h.b2, hz⟩
theorem map_at {n : Nat} (f : Nat → BitVec 64) {i : Nat} (hi : i < n) : ((List.range n).map f).getD i 0 = f i := by
  rw [List.getD_eq_getElem?_getD, List.getElem?_map, List.getElem?_range hi]; rfl
/-- it brings them there -/
theorem shL_ev {l : List (BitVec 64)} {bits : Int} {xl yl : List (BitVec 64)} (h : Good l bits xl yl) {i : Nat} (hi : i < xl.length) : evV (shL l bits xl yl) bits 128 (xl.getD i 0) = yl.getD i 0 := by
  have hb : bits.toNat ≤ 64 := by have := h.b2; omega
  obtain ⟨t1, t2, t3, t4, t5⟩ := tg_zero h.tg
  rw [(good_ev (shL_good h h.tg) hi).2]
  have := aimL_sum l xl.length 8 (fun i => lets (xl.getD i 0) 8) ((List.range xl.length).map (byB l bits 128 xl yl)) t2 (by omega) (fun i p _ hp => lets_rows xl i p hp) (good_rows h) (by rw [h.len]; omega) i hi
  unfold shL
  rw [this, map_at _ hi]
  unfold byB
  rw [(good_ev h hi).2]
  exact aimed_low hb (t4 i hi).2
/-- what the keys were brought to -/
def wasL (l : List (BitVec 64)) (bits : Int) (xl : List (BitVec 64)) : List (BitVec 64) := (List.range xl.length).map fun i => evV l bits 128 (xl.getD i 0)
theorem was_tg {l : List (BitVec 64)} {bits : Int} {xl yl : List (BitVec 64)} (h : Good l bits xl yl) : tgE bits.toNat xl (wasL l bits xl) = 0 := by
  have hb : bits.toNat ≤ 64 := by have := h.b2; omega
  obtain ⟨t1, t2, t3, t4, t5⟩ := tg_zero h.tg
  have hwl : (wasL l bits xl).length = xl.length := by simp [wasL]
  refine tg_ok (by omega) (fun j hj => ?_) (fun j hj => same2_no fun k hk => t5 k j (by omega) hj (by omega))
  unfold bad2 wasL
  rw [map_at _ hj, (good_ev h hj).2, lowN_fits _ _ hb, (t4 j hj).1]
  rfl
/-- aimed back -/
theorem shL_back {l : List (BitVec 64)} {bits : Int} {xl yl : List (BitVec 64)} (h : Good l bits xl yl) : shL (shL l bits xl yl) bits xl (wasL l bits xl) = l := by
  have e : (List.range xl.length).map (byB (shL l bits xl yl) bits 128 xl (wasL l bits xl)) = (List.range xl.length).map (byB l bits 128 xl yl) := by
    refine List.map_congr_left fun i hi => ?_
    have hi := List.mem_range.1 hi
    unfold byB
    rw [shL_ev h hi]
    unfold wasL
    rw [map_at _ hi, BitVec.xor_comm]
  show aimL (shL l bits xl yl) xl.length 8 _ ((List.range xl.length).map (byB (shL l bits xl yl) bits 128 xl (wasL l bits xl))) = l
  rw [e]
  exact aimL_twice _ _ _ _ _
end Go.Proofs.Ytadkbpdbbgjkgaa
