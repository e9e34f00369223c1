import Derived.Test.YtfaobdmoifnglaaGreatZGsP
import Derived.Test.YtfaobdmoifnglaaGreatZLqE
import Derived.Test.YtfaobdmoifnglaaGreatZPcgB
/- All generators: so many steps. -/
namespace Go.Proofs.YtfaobdmoifnglaaGreat
open Go.RowKit Go.Bv Go.G2
set_option linter.unusedVariables false
set_option maxRecDepth 100000
/-- behind n steps -/
def itK (k : Int) : Nat → W4 → W4
  | 0, q => q
  | n + 1, q => itK k n (stK k q)
theorem itK_0 (k : Int) (q : W4) : itK k 0 q = q := rfl
theorem itK_s (k : Int) (n : Nat) (q : W4) : itK k (n + 1) q = itK k n (stK k q) := rfl
theorem itK_add (k : Int) : ∀ (a b : Nat) (q : W4), itK k (a + b) q = itK k b (itK k a q)
  | 0, b, q => by rw [Nat.zero_add, itK_0]
  | a + 1, b, q => by rw [show a + 1 + b = (a + b) + 1 by omega, itK_s, itK_s, itK_add k a b]
theorem itK_last (k : Int) (n : Nat) (q : W4) : itK k (n + 1) q = stK k (itK k n q) := by rw [itK_add, itK_s, itK_0]
theorem chk_it {k : Int} : ∀ (n : Nat) {q : W4}, chkK k q = 0 → chkK k (itK k n q) = 0
  | 0, q, h => h
  | n + 1, q, h => by rw [itK_s]; exact chk_it n (chk_st h)
theorem itK_nx (k : Int) (h : okK k = true) (q : W4) : nxK k q = itK k (csK k).toNat q := by
  unfold nxK
  by_cases h7 : k = 7
  · rw [if_pos h7, show csK k = 2 by unfold csK; rw [if_pos h7]]; rfl
  · have h8 : 1 ≤ k ∧ k ≤ 8 := by unfold okK at h; simpa using h
    rw [if_neg h7, show csK k = 1 by unfold csK; rw [if_neg h7, if_pos h8]]; rfl
theorem q1a (s : BitVec 64) : (q1 s).a = s := w4a _ _ _ _
theorem w10a (p : Q2) : (w10 p).a = p.a := w4a _ _ _ _
theorem w10b (p : Q2) : (w10 p).b = p.b := w4b _ _ _ _
theorem stK_1 (s : BitVec 64) : stK 1 (q1 s) = q1 (s + Gm) := by unfold stK; rw [if_pos rfl, q1a]
theorem spl_add (s g : BitVec 64) (n : Nat) : s + g + BitVec.ofNat 64 n * g = s + BitVec.ofNat 64 (n + 1) * g := by
  rw [BitVec.ofNat_add, BitVec.add_mul, BitVec.one_mul, BitVec.add_assoc, BitVec.add_comm g]
theorem it_1 : ∀ (n : Nat) (s : BitVec 64), itK 1 n (q1 s) = q1 (s + BitVec.ofNat 64 n * Gm)
  | 0, s => by
    rw [itK_0]
    have : s + BitVec.ofNat 64 0 * Gm = s := by
      obtain ⟨g, hg⟩ : ∃ g, Gm = g := ⟨_, rfl⟩
      rw [hg]; simp
    rw [this]
  | n + 1, s => by rw [itK_s, stK_1, it_1 n, spl_add]
/-- words as a state of xoshiro, and back -/
def toV (q : W4) : V4 := ⟨q.a, q.b, q.c, q.d⟩
def ofV (q : V4) : W4 := ⟨q.a, q.b, q.c, q.d⟩
theorem of_toV (q : W4) : ofV (toV q) = q := rfl
theorem to_m9 (q : W4) : toV (m9 q) = stV4 (toV q) := by
  obtain ⟨a, b, c, d⟩ := q
  simp only [toV, m9, stV4]
theorem it_V : ∀ (n : Nat) (k : Int) (hk : k = 2 ∨ k = 3 ∨ k = 4) (q : W4), itK k n q = ofV (LV4.it n (toV q))
  | 0, k, hk, q => (of_toV q).symm
  | n + 1, k, hk, q => by
    have e : stK k q = m9 q := by unfold stK; rw [if_neg (by omega), if_pos (by omega)]
    rw [itK_s, it_V n k hk, e, to_m9]
    rfl
def toV2 (p : Q2) : V2 := ⟨p.a, p.b⟩
def ofV2 (p : V2) : Q2 := ⟨p.a, p.b⟩
theorem of_toV2 (p : Q2) : ofV2 (toV2 p) = p := rfl
theorem to_stp (A B C : Nat) (p : Q2) : toV2 (stp A B C p) = stV2 A B C (toV2 p) := by
  obtain ⟨a, b⟩ := p
  simp only [toV2, stp, stV2]
theorem w10_eta (p : Q2) : (Q2.mk (w10 p).a (w10 p).b) = p := by obtain ⟨a, b⟩ := p; rfl
theorem stK_o (k : Int) (hk : k = 5 ∨ k = 6) (p : Q2) : stK k (w10 p) = w10 (mo k p) := by
  unfold stK
  rw [if_neg (by omega), if_neg (by omega), if_pos (by omega), w10_eta]
theorem it_5 : ∀ (n : Nat) (p : Q2), itK 5 n (w10 p) = w10 (ofV2 ((LV2 24 16 37 (by decide) (by decide)).it n (toV2 p)))
  | 0, p => by rw [itK_0]; rfl
  | n + 1, p => by
    have e : mo 5 p = stp 24 16 37 p := by unfold mo; rw [if_pos rfl]
    rw [itK_s, stK_o 5 (Or.inl rfl), it_5 n, e, to_stp]
    rfl
theorem it_6 : ∀ (n : Nat) (p : Q2), itK 6 n (w10 p) = w10 (ofV2 ((LV2 49 21 28 (by decide) (by decide)).it n (toV2 p)))
  | 0, p => by rw [itK_0]; rfl
  | n + 1, p => by
    have e : mo 6 p = stp 49 21 28 p := by unfold mo; rw [if_neg (by omega)]
    rw [itK_s, stK_o 6 (Or.inr rfl), it_6 n, e, to_stp]
    rfl
theorem stK_7 (p : Q2) : stK 7 (w10 p) = w10 ⟨step13 p.a p.b, p.b⟩ := by
  unfold stK
  rw [if_neg (by omega), if_neg (by omega), if_neg (by omega), if_pos rfl, w10_eta]
  rfl
theorem adv13_front (inc : BitVec 64) (n : Nat) (s : BitVec 64) : adv13 inc (n + 1) s = adv13 inc n (step13 s inc) := by
  rw [Nat.add_comm, adv13_add]; rfl
theorem it_7 : ∀ (n : Nat) (x i : BitVec 64), itK 7 n (w10 ⟨x, i⟩) = w10 ⟨adv13 i n x, i⟩
  | 0, x, i => by rw [itK_0]; rfl
  | n + 1, x, i => by
    have e : stK 7 (w10 ⟨x, i⟩) = w10 ⟨step13 x i, i⟩ := stK_7 ⟨x, i⟩
    rw [itK_s, e, it_7 n, adv13_front]
/-- a state of pcg64 -/
def mk8 (x i : BitVec 128) : W4 := ⟨lo128 x, hi128 x, lo128 i, hi128 i⟩
theorem join_self (x : BitVec 128) : join128 (hi128 x) (lo128 x) = x := ext128 (hi_join _ _) (lo_join _ _)
theorem mk8_of (q : W4) : mk8 (join128 q.b q.a) (join128 q.d q.c) = q := by
  unfold mk8
  rw [hi_join, lo_join, hi_join, lo_join]
theorem mk8_a (x i : BitVec 128) : (mk8 x i).a = lo128 x := w4a _ _ _ _
theorem mk8_b (x i : BitVec 128) : (mk8 x i).b = hi128 x := w4b _ _ _ _
theorem mk8_c (x i : BitVec 128) : (mk8 x i).c = lo128 i := w4c _ _ _ _
theorem mk8_d (x i : BitVec 128) : (mk8 x i).d = hi128 i := w4d _ _ _ _
theorem stK_8 (x i : BitVec 128) : stK 8 (mk8 x i) = mk8 (stp14 x i) i := by
  unfold stK
  rw [if_neg (by omega), if_neg (by omega), if_neg (by omega), if_neg (by omega)]
  have e : m14 (mk8 x i) = stp14 x i := by unfold m14; rw [mk8_a, mk8_b, mk8_c, mk8_d, join_self, join_self]
  unfold w14
  rw [e, mk8_c, mk8_d]
  rfl
theorem aff_0 {w : Nat} (m c s : BitVec w) : aff m c 0 s = s := rfl
theorem aff_s {w : Nat} (m c : BitVec w) (n : Nat) (s : BitVec w) : aff m c (n + 1) s = aff m c n (s * m + c) := rfl
theorem stp14_is (x i : BitVec 128) : stp14 x i = x * T14 + (i ||| 1#128) := by unfold stp14; rfl
theorem it_8 (n : Nat) (x i : BitVec 128) : itK 8 n (mk8 x i) = mk8 (aff T14 (i ||| 1#128) n x) i := by
  induction n generalizing x with
  | zero => rw [itK_0, aff_0]
  | succ n ih => rw [itK_s, stK_8, ih, aff_s, stp14_is]
theorem T14_odd : ∃ a, T14 = 1#128 + 4#128 * a := mod4_form T14 (0x2360ed051fc65da44385df649fccf645 / 4) (by decide +kernel)
theorem four_lo (a0 a1 a2 a3 : BitVec 64) : four a0 a1 a2 a3 % 2 ^ 64 = a0.toNat := by
  have := a0.isLt
  unfold four; omega
theorem four_lo2 (a0 a1 a2 a3 : BitVec 64) : four a0 a1 a2 a3 % 2 ^ 128 = (join128 a1 a0).toNat := by
  have h0 := a0.isLt
  have h1 := a1.isLt
  unfold join128 two
  rw [BitVec.toNat_ofNat]
  unfold four
  omega
/-- the number of steps, cut down to what each kind needs -/
theorem it_1c (s a0 a1 a2 a3 : BitVec 64) : itK 1 (four a0 a1 a2 a3) (q1 s) = q1 (s + a0 * Gm) := by
  rw [it_1]
  have e : BitVec.ofNat 64 (four a0 a1 a2 a3) = a0 := by
    apply BitVec.eq_of_toNat_eq; rw [BitVec.toNat_ofNat, four_lo]
  rw [e]
theorem it_7c (x i a0 a1 a2 a3 : BitVec 64) : itK 7 (four a0 a1 a2 a3) (w10 ⟨x, i⟩) = w10 ⟨adv13 i a0.toNat x, i⟩ := by
  rw [it_7, ← adv13_mod, show (18446744073709551616 : Nat) = 2 ^ 64 from rfl, four_lo]
theorem it_8c (x i : BitVec 128) (a0 a1 a2 a3 : BitVec 64) : itK 8 (four a0 a1 a2 a3) (mk8 x i) = mk8 (aff T14 (i ||| 1#128) (join128 a1 a0).toNat x) i := by
  rw [it_8, ← aff_mod _ _ T14_odd (or1_form (by omega) i), four_lo2]
end Go.Proofs.YtfaobdmoifnglaaGreat
