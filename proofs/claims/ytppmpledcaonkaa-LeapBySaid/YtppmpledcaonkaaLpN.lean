/- Plain lemmas: the steps of the generators are linear, and their polynomials send every state to zero (by the kernel, on the states of one bit). -/
import Derived.Test.YtppmpledcaonkaaLpM
namespace Go.G2
set_option linter.unusedVariables false
theorem ofNat_xr (a b : Nat) : BitVec.ofNat 64 (a ^^^ b) = BitVec.ofNat 64 a ^^^ BitVec.ofNat 64 b := by
  apply BitVec.eq_of_getLsbD_eq
  intro i hi
  simp only [BitVec.getLsbD_xor, BitVec.getLsbD_ofNat, Nat.testBit_xor, hi, decide_true, Bool.true_and]
/-- what is zero on the words of one bit is zero on all words -/
theorem span64 {S : Type} (L : Lin S) (f : BitVec 64 → S) (hx : ∀ x y, f (x ^^^ y) = L.x (f x) (f y)) (h1 : ∀ i, i < 64 → f (BitVec.ofNat 64 (2 ^ i)) = L.z) (v : BitVec 64) : f v = L.z := by
  have h0 : f 0#64 = L.z := by
    have h := hx 0#64 0#64
    rw [L.x_self, BitVec.xor_self] at h
    exact h
  have key : ∀ k, k ≤ 64 → ∀ n, n < 2 ^ k → f (BitVec.ofNat 64 n) = L.z := by
    intro k
    induction k with
    | zero =>
      intro _ n hn
      rw [Nat.pow_zero] at hn
      rw [show n = 0 by omega]
      exact h0
    | succ k ih =>
      intro hk n hn
      by_cases hb : n.testBit k = true
      · have h2 : n ^^^ 2 ^ k < 2 ^ k := xor_top hn (by rw [Nat.pow_succ]; have := Nat.two_pow_pos k; omega) (by rw [hb, Nat.testBit_two_pow_self])
        have h3 : n = (n ^^^ 2 ^ k) ^^^ 2 ^ k := by rw [Nat.xor_assoc, Nat.xor_self, Nat.xor_zero]
        rw [h3, ofNat_xr, hx, ih (by omega) _ h2, h1 k (by omega), L.x_self]
      · exact ih (by omega) n (lt_less hn (by simpa using hb))
  have h := key 64 (by omega) v.toNat v.isLt
  rw [BitVec.ofNat_toNat, BitVec.setWidth_eq] at h
  exact h
theorem rot_xr (x y : BitVec 64) (k : Nat) (hk : k < 64) : (x ^^^ y).rotateLeft k = x.rotateLeft k ^^^ y.rotateLeft k := by
  apply BitVec.eq_of_getLsbD_eq
  intro i hi
  rw [BitVec.getLsbD_xor, BitVec.getLsbD_rotateLeft_of_le hk, BitVec.getLsbD_rotateLeft_of_le hk, BitVec.getLsbD_rotateLeft_of_le hk, BitVec.getLsbD_xor, BitVec.getLsbD_xor]
  cases decide (i < k) <;> cases decide (i < 64) <;> simp
theorem rot_nat (x : BitVec 64) (k : Nat) (hk : k < 64) : (x.rotateLeft k).toNat = (x.toNat <<< k) % 18446744073709551616 ||| x.toNat >>> (64 - k) := by
  rw [BitVec.toNat_rotateLeft, Nat.mod_eq_of_lt hk]
theorem shl_nat (x : BitVec 64) (k : Nat) : (x <<< k).toNat = (x.toNat <<< k) % 18446744073709551616 := BitVec.toNat_shiftLeft
/-- a state of four words -/
structure V4 where
  a : BitVec 64
  b : BitVec 64
  c : BitVec 64
  d : BitVec 64
/-- a state of two words -/
structure V2 where
  a : BitVec 64
  b : BitVec 64
def stV4 (q : V4) : V4 := ⟨q.a ^^^ (q.d ^^^ q.b), q.b ^^^ (q.c ^^^ q.a), (q.c ^^^ q.a) ^^^ q.b <<< 17, (q.d ^^^ q.b).rotateLeft 45⟩
def xV4 (p q : V4) : V4 := ⟨p.a ^^^ q.a, p.b ^^^ q.b, p.c ^^^ q.c, p.d ^^^ q.d⟩
def stV2 (A B C : Nat) (q : V2) : V2 := ⟨(q.a.rotateLeft A ^^^ (q.a ^^^ q.b)) ^^^ (q.a ^^^ q.b) <<< B, (q.a ^^^ q.b).rotateLeft C⟩
def xV2 (p q : V2) : V2 := ⟨p.a ^^^ q.a, p.b ^^^ q.b⟩
theorem stV4_x (p q : V4) : stV4 (xV4 p q) = xV4 (stV4 p) (stV4 q) := by
  obtain ⟨s0, s1, s2, s3⟩ := p
  obtain ⟨t0, t1, t2, t3⟩ := q
  simp only [stV4, xV4, V4.mk.injEq]
  refine ⟨by grind, by grind, ?_, ?_⟩
  · rw [BitVec.shiftLeft_xor_distrib]
    generalize s1 <<< 17 = u
    generalize t1 <<< 17 = v
    grind
  · rw [← rot_xr _ _ 45 (by omega)]
    congr 1
    grind
theorem stV2_x (A B C : Nat) (hA : A < 64) (hC : C < 64) (p q : V2) : stV2 A B C (xV2 p q) = xV2 (stV2 A B C p) (stV2 A B C q) := by
  obtain ⟨s0, s1⟩ := p
  obtain ⟨t0, t1⟩ := q
  simp only [stV2, xV2, V2.mk.injEq]
  have hr : (s0 ^^^ t0) ^^^ (s1 ^^^ t1) = (s0 ^^^ s1) ^^^ (t0 ^^^ t1) := by grind
  refine ⟨?_, ?_⟩
  · rw [hr, rot_xr _ _ A hA, BitVec.shiftLeft_xor_distrib]
    generalize (s0 ^^^ s1) <<< B = u
    generalize (t0 ^^^ t1) <<< B = v
    generalize s0.rotateLeft A = u2
    generalize t0.rotateLeft A = v2
    grind
  · rw [hr, rot_xr _ _ C hC]
def LV4 : Lin V4 where
  x := xV4
  z := ⟨0#64, 0#64, 0#64, 0#64⟩
  st := stV4
  x_comm := fun p q => by simp only [xV4, V4.mk.injEq]; exact ⟨BitVec.xor_comm _ _, BitVec.xor_comm _ _, BitVec.xor_comm _ _, BitVec.xor_comm _ _⟩
  x_assoc := fun p q r => by simp only [xV4, BitVec.xor_assoc]
  x_self := fun p => by simp only [xV4, BitVec.xor_self]
  x_z := fun p => by simp only [xV4, BitVec.xor_zero]
  st_x := stV4_x
def LV2 (A B C : Nat) (hA : A < 64) (hC : C < 64) : Lin V2 where
  x := xV2
  z := ⟨0#64, 0#64⟩
  st := stV2 A B C
  x_comm := fun p q => by simp only [xV2, V2.mk.injEq]; exact ⟨BitVec.xor_comm _ _, BitVec.xor_comm _ _⟩
  x_assoc := fun p q r => by simp only [xV2, BitVec.xor_assoc]
  x_self := fun p => by simp only [xV2, BitVec.xor_self]
  x_z := fun p => by simp only [xV2, BitVec.xor_zero]
  st_x := stV2_x A B C hA hC
/-- states as numbers, for the kernel -/
structure N4 where
  a : Nat
  b : Nat
  c : Nat
  d : Nat
deriving DecidableEq
structure N2 where
  a : Nat
  b : Nat
deriving DecidableEq
def stN4 (q : N4) : N4 := ⟨q.a ^^^ (q.d ^^^ q.b), q.b ^^^ (q.c ^^^ q.a), (q.c ^^^ q.a) ^^^ (q.b <<< 17) % 18446744073709551616, ((q.d ^^^ q.b) <<< 45) % 18446744073709551616 ||| (q.d ^^^ q.b) >>> 19⟩
def xN4 (p q : N4) : N4 := ⟨p.a ^^^ q.a, p.b ^^^ q.b, p.c ^^^ q.c, p.d ^^^ q.d⟩
def stN2 (A B C : Nat) (q : N2) : N2 := ⟨(((q.a <<< A) % 18446744073709551616 ||| q.a >>> (64 - A)) ^^^ (q.a ^^^ q.b)) ^^^ ((q.a ^^^ q.b) <<< B) % 18446744073709551616, ((q.a ^^^ q.b) <<< C) % 18446744073709551616 ||| (q.a ^^^ q.b) >>> (64 - C)⟩
def xN2 (p q : N2) : N2 := ⟨p.a ^^^ q.a, p.b ^^^ q.b⟩
def toN4 (q : V4) : N4 := ⟨q.a.toNat, q.b.toNat, q.c.toNat, q.d.toNat⟩
def toN2 (q : V2) : N2 := ⟨q.a.toNat, q.b.toNat⟩
theorem toN4_st (q : V4) : toN4 (stV4 q) = stN4 (toN4 q) := by
  simp only [toN4, stV4, stN4, BitVec.toNat_xor, shl_nat, rot_nat _ 45 (by omega)]
theorem toN2_st (A B C : Nat) (hA : A < 64) (hC : C < 64) (q : V2) : toN2 (stV2 A B C q) = stN2 A B C (toN2 q) := by
  simp only [toN2, stV2, stN2, BitVec.toNat_xor, shl_nat, rot_nat _ A hA, rot_nat _ C hC]
theorem toN4_x (p q : V4) : toN4 (xV4 p q) = xN4 (toN4 p) (toN4 q) := by
  simp only [toN4, xV4, xN4, BitVec.toNat_xor]
theorem toN2_x (p q : V2) : toN2 (xV2 p q) = xN2 (toN2 p) (toN2 q) := by
  simp only [toN2, xV2, xN2, BitVec.toNat_xor]
theorem toN4_inj {p q : V4} (h : toN4 p = toN4 q) : p = q := by
  obtain ⟨a, b, c, d⟩ := p
  obtain ⟨a', b', c', d'⟩ := q
  simp only [toN4, N4.mk.injEq, BitVec.toNat_inj] at h
  obtain ⟨rfl, rfl, rfl, rfl⟩ := h
  rfl
theorem toN2_inj {p q : V2} (h : toN2 p = toN2 q) : p = q := by
  obtain ⟨a, b⟩ := p
  obtain ⟨a', b'⟩ := q
  simp only [toN2, N2.mk.injEq, BitVec.toNat_inj] at h
  obtain ⟨rfl, rfl⟩ := h
  rfl
def byN4 : Nat → Nat → N4 → N4 → N4
  | 0, _, _, acc => acc
  | f + 1, m, s, acc => byN4 f (m / 2) (stN4 s) (if m % 2 = 1 then xN4 acc s else acc)
def byN2 (A B C : Nat) : Nat → Nat → N2 → N2 → N2
  | 0, _, _, acc => acc
  | f + 1, m, s, acc => byN2 A B C f (m / 2) (stN2 A B C s) (if m % 2 = 1 then xN2 acc s else acc)
theorem byN4_is : ∀ (f m : Nat) (s acc : V4), toN4 (LV4.byL f m s acc) = byN4 f m (toN4 s) (toN4 acc)
  | 0, m, s, acc => rfl
  | f + 1, m, s, acc => by
    show toN4 (LV4.byL f (m / 2) (stV4 s) (if m % 2 = 1 then xV4 acc s else acc)) = byN4 f (m / 2) (stN4 (toN4 s)) (if m % 2 = 1 then xN4 (toN4 acc) (toN4 s) else toN4 acc)
    rw [byN4_is f, toN4_st]
    by_cases h : m % 2 = 1
    · rw [if_pos h, if_pos h, toN4_x]
    · rw [if_neg h, if_neg h]
theorem byN2_is (A B C : Nat) (hA : A < 64) (hC : C < 64) : ∀ (f m : Nat) (s acc : V2), toN2 ((LV2 A B C hA hC).byL f m s acc) = byN2 A B C f m (toN2 s) (toN2 acc)
  | 0, m, s, acc => rfl
  | f + 1, m, s, acc => by
    show toN2 ((LV2 A B C hA hC).byL f (m / 2) (stV2 A B C s) (if m % 2 = 1 then xV2 acc s else acc)) = byN2 A B C f (m / 2) (stN2 A B C (toN2 s)) (if m % 2 = 1 then xN2 (toN2 acc) (toN2 s) else toN2 acc)
    rw [byN2_is A B C hA hC f, toN2_st A B C hA hC]
    by_cases h : m % 2 = 1
    · rw [if_pos h, if_pos h, toN2_x]
    · rw [if_neg h, if_neg h]
theorem act4_n (f m : Nat) (s : V4) (hm : m < 2 ^ f) : toN4 (LV4.act m s) = byN4 f m (toN4 s) ⟨0, 0, 0, 0⟩ := by
  have h := byN4_is f m s LV4.z
  rw [LV4.byL_act f m s _ hm, LV4.z_x] at h
  exact h
theorem act2_n (A B C : Nat) (hA : A < 64) (hC : C < 64) (f m : Nat) (s : V2) (hm : m < 2 ^ f) : toN2 ((LV2 A B C hA hC).act m s) = byN2 A B C f m (toN2 s) ⟨0, 0⟩ := by
  have h := byN2_is A B C hA hC f m s (LV2 A B C hA hC).z
  rw [(LV2 A B C hA hC).byL_act f m s _ hm, (LV2 A B C hA hC).z_x] at h
  exact h
theorem kill4_of {P f : Nat} (hP : P < 2 ^ f) (h : (List.range 64).all (fun i => (decide (byN4 f P ⟨2 ^ i, 0, 0, 0⟩ ⟨0, 0, 0, 0⟩ = ⟨0, 0, 0, 0⟩) && decide (byN4 f P ⟨0, 2 ^ i, 0, 0⟩ ⟨0, 0, 0, 0⟩ = ⟨0, 0, 0, 0⟩)) && (decide (byN4 f P ⟨0, 0, 2 ^ i, 0⟩ ⟨0, 0, 0, 0⟩ = ⟨0, 0, 0, 0⟩) && decide (byN4 f P ⟨0, 0, 0, 2 ^ i⟩ ⟨0, 0, 0, 0⟩ = ⟨0, 0, 0, 0⟩))) = true) (s : V4) : LV4.act P s = LV4.z := by
  simp only [List.all_eq_true, List.mem_range, Bool.and_eq_true, decide_eq_true_eq] at h
  have hn : ∀ i, i < 64 → (BitVec.ofNat 64 (2 ^ i)).toNat = 2 ^ i := by
    intro i hi
    rw [BitVec.toNat_ofNat]
    exact Nat.mod_eq_of_lt (Nat.pow_lt_pow_right (by decide) hi)
  have hz : ∀ i, i < 64 → LV4.act P ⟨BitVec.ofNat 64 (2 ^ i), 0#64, 0#64, 0#64⟩ = LV4.z ∧ LV4.act P ⟨0#64, BitVec.ofNat 64 (2 ^ i), 0#64, 0#64⟩ = LV4.z ∧ LV4.act P ⟨0#64, 0#64, BitVec.ofNat 64 (2 ^ i), 0#64⟩ = LV4.z ∧ LV4.act P ⟨0#64, 0#64, 0#64, BitVec.ofNat 64 (2 ^ i)⟩ = LV4.z := by
    intro i hi
    have h2 := h i hi
    have hni := hn i hi
    refine ⟨toN4_inj ?_, toN4_inj ?_, toN4_inj ?_, toN4_inj ?_⟩
    · rw [act4_n f P _ hP]; show byN4 f P ⟨(BitVec.ofNat 64 (2 ^ i)).toNat, 0, 0, 0⟩ _ = _; rw [hni, h2.1.1]; rfl
    · rw [act4_n f P _ hP]; show byN4 f P ⟨0, (BitVec.ofNat 64 (2 ^ i)).toNat, 0, 0⟩ _ = _; rw [hni, h2.1.2]; rfl
    · rw [act4_n f P _ hP]; show byN4 f P ⟨0, 0, (BitVec.ofNat 64 (2 ^ i)).toNat, 0⟩ _ = _; rw [hni, h2.2.1]; rfl
    · rw [act4_n f P _ hP]; show byN4 f P ⟨0, 0, 0, (BitVec.ofNat 64 (2 ^ i)).toNat⟩ _ = _; rw [hni, h2.2.2]; rfl
  obtain ⟨a, b, c, d⟩ := s
  have ha := span64 LV4 (fun x => LV4.act P ⟨x, 0#64, 0#64, 0#64⟩) (fun x y => by rw [← LV4.act_x]; refine congrArg _ ?_; show _ = xV4 _ _; simp [xV4]) (fun i hi => (hz i hi).1) a
  have hb := span64 LV4 (fun x => LV4.act P ⟨0#64, x, 0#64, 0#64⟩) (fun x y => by rw [← LV4.act_x]; refine congrArg _ ?_; show _ = xV4 _ _; simp [xV4]) (fun i hi => (hz i hi).2.1) b
  have hc := span64 LV4 (fun x => LV4.act P ⟨0#64, 0#64, x, 0#64⟩) (fun x y => by rw [← LV4.act_x]; refine congrArg _ ?_; show _ = xV4 _ _; simp [xV4]) (fun i hi => (hz i hi).2.2.1) c
  have hd := span64 LV4 (fun x => LV4.act P ⟨0#64, 0#64, 0#64, x⟩) (fun x y => by rw [← LV4.act_x]; refine congrArg _ ?_; show _ = xV4 _ _; simp [xV4]) (fun i hi => (hz i hi).2.2.2) d
  have hs : (⟨a, b, c, d⟩ : V4) = LV4.x (LV4.x ⟨a, 0#64, 0#64, 0#64⟩ ⟨0#64, b, 0#64, 0#64⟩) (LV4.x ⟨0#64, 0#64, c, 0#64⟩ ⟨0#64, 0#64, 0#64, d⟩) := by
    show _ = xV4 (xV4 _ _) (xV4 _ _)
    simp [xV4]
  rw [hs, LV4.act_x, LV4.act_x, LV4.act_x, ha, hb, hc, hd, LV4.x_self]
theorem kill2_of (A B C : Nat) (hA : A < 64) (hC : C < 64) {P f : Nat} (hP : P < 2 ^ f) (h : (List.range 64).all (fun i => decide (byN2 A B C f P ⟨2 ^ i, 0⟩ ⟨0, 0⟩ = ⟨0, 0⟩) && decide (byN2 A B C f P ⟨0, 2 ^ i⟩ ⟨0, 0⟩ = ⟨0, 0⟩)) = true) (s : V2) : (LV2 A B C hA hC).act P s = (LV2 A B C hA hC).z := by
  simp only [List.all_eq_true, List.mem_range, Bool.and_eq_true, decide_eq_true_eq] at h
  have hn : ∀ i, i < 64 → (BitVec.ofNat 64 (2 ^ i)).toNat = 2 ^ i := by
    intro i hi
    rw [BitVec.toNat_ofNat]
    exact Nat.mod_eq_of_lt (Nat.pow_lt_pow_right (by decide) hi)
  have hz : ∀ i, i < 64 → (LV2 A B C hA hC).act P ⟨BitVec.ofNat 64 (2 ^ i), 0#64⟩ = (LV2 A B C hA hC).z ∧ (LV2 A B C hA hC).act P ⟨0#64, BitVec.ofNat 64 (2 ^ i)⟩ = (LV2 A B C hA hC).z := by
    intro i hi
    have h2 := h i hi
    have hni := hn i hi
    refine ⟨toN2_inj ?_, toN2_inj ?_⟩
    · rw [act2_n A B C hA hC f P _ hP]; show byN2 A B C f P ⟨(BitVec.ofNat 64 (2 ^ i)).toNat, 0⟩ _ = _; rw [hni, h2.1]; rfl
    · rw [act2_n A B C hA hC f P _ hP]; show byN2 A B C f P ⟨0, (BitVec.ofNat 64 (2 ^ i)).toNat⟩ _ = _; rw [hni, h2.2]; rfl
  obtain ⟨a, b⟩ := s
  have ha := span64 (LV2 A B C hA hC) (fun x => (LV2 A B C hA hC).act P ⟨x, 0#64⟩) (fun x y => by rw [← (LV2 A B C hA hC).act_x]; refine congrArg _ ?_; show _ = xV2 _ _; simp [xV2]) (fun i hi => (hz i hi).1) a
  have hb := span64 (LV2 A B C hA hC) (fun x => (LV2 A B C hA hC).act P ⟨0#64, x⟩) (fun x y => by rw [← (LV2 A B C hA hC).act_x]; refine congrArg _ ?_; show _ = xV2 _ _; simp [xV2]) (fun i hi => (hz i hi).2) b
  have hs : (⟨a, b⟩ : V2) = (LV2 A B C hA hC).x ⟨a, 0#64⟩ ⟨0#64, b⟩ := by
    show _ = xV2 _ _
    simp [xV2]
  rw [hs, (LV2 A B C hA hC).act_x, ha, hb, (LV2 A B C hA hC).x_self]
/-- the polynomials of xoshiro256 and of both xoroshiro128 -/
def pol4 : Nat := 115798716538066420455068828734077908777090750648323562404903972173143537152001
def polS : Nat := 340326553284594226574365246790349529089
def polP : Nat := 340540621810083540934483770044175134849
set_option maxRecDepth 100000 in
theorem kill4 (s : V4) : LV4.act pol4 s = LV4.z := kill4_of (f := 257) (by decide +kernel) (by decide +kernel) s
set_option maxRecDepth 100000 in
theorem killS (s : V2) : (LV2 24 16 37 (by decide) (by decide)).act polS s = (LV2 24 16 37 (by decide) (by decide)).z := kill2_of _ _ _ _ _ (f := 129) (by decide +kernel) (by decide +kernel) s
set_option maxRecDepth 100000 in
theorem killP (s : V2) : (LV2 49 21 28 (by decide) (by decide)).act polP s = (LV2 49 21 28 (by decide) (by decide)).z := kill2_of _ _ _ _ _ (f := 129) (by decide +kernel) (by decide +kernel) s
end Go.G2
