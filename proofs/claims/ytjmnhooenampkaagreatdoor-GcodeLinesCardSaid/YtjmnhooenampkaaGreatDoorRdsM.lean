/- Layer 17: what bytes tell: the mathematics. -/
import Derived.Test.YtjmnhooenampkaaGreatDoorGctA
import Derived.Test.YtjmnhooenampkaaGreatDoorSeaC
namespace Go.Proofs.YtjmnhooenampkaaGreatDoor
open Go.RowKit Go.Bv
set_option linter.unusedVariables false
set_option maxRecDepth 100000
/-- the kind that bytes say; their words -/
def kd17 (l : List (BitVec 8)) : Int := ((l.getD 1 0).toNat : Int)
def wd17 (l : List (BitVec 8)) (n i : Nat) : BitVec 64 := if i < n then rd l (2 + 8 * i) 8 else 0#64
def qd17 (l : List (BitVec 8)) (n : Nat) : W4 := ⟨wd17 l n 0, wd17 l n 1, wd17 l n 2, wd17 l n 3⟩
/-- what is wrong with bytes -/
def rdE17 (l : List (BitVec 8)) : Int :=
  if l.length < 2 then 3 else if ¬ l.getD 0 0 = 103#8 then 5 else if okK (kd17 l) = false then 6 else if l.length < 6 + 8 * nK (kd17 l) then 3 else if 6 + 8 * nK (kd17 l) < l.length then 4 else if ok16 l = false then 14 else chkK (kd17 l) (qd17 l (nK (kd17 l)))
theorem wAt_qd (l : List (BitVec 8)) (n i : Nat) (hi : i < n) (hn : n ≤ 4) : wAt (qd17 l n) i = rd l (2 + 8 * i) 8 := by
  rcases (show i = 0 ∨ i = 1 ∨ i = 2 ∨ i = 3 by omega) with rfl | rfl | rfl | rfl <;> (show wd17 l n _ = _; unfold wd17; rw [if_pos hi])
theorem byt_nums17 (f : Nat → BitVec 8) (n j : Nat) (h : j < n) (hn : n ≤ 8) : byt (num f n) j = f j := by
  apply BitVec.eq_of_getLsbD_eq; intro b hb
  rw [byt_bit _ _ _ hb, num_bit _ _ _ (by omega), show (8 * j + b) / 8 = j by omega, show (8 * j + b) % 8 = b by omega]
  simp; omega
theorem byt_rd17 (l : List (BitVec 8)) (k i : Nat) (h : i < 8) : byt (rd l k 8) i = l.getD (k + i) 0 := byt_nums17 _ 8 i h (by omega)
theorem bytes_rd17 (l : List (BitVec 8)) (k : Nat) (h : k + 8 ≤ l.length) : l.take k ++ bytes (rd l k 8) 8 = l.take (k + 8) := by
  apply List.ext_getElem
  · rw [List.length_append, List.length_take, List.length_take, bytes_len]; omega
  · intro i h1 h2
    rw [List.length_take] at h2
    have hg : ∀ (a : List (BitVec 8)) (j : Nat) (hj : j < a.length), a[j] = a.getD j 0 := fun a j hj => by rw [List.getD_eq_getElem?_getD, List.getElem?_eq_getElem hj]; rfl
    rw [List.getElem_take, List.getElem_append]
    by_cases hi : i < k
    · rw [dif_pos (by rw [List.length_take]; omega), List.getElem_take]
    · rw [dif_neg (by rw [List.length_take]; omega)]
      rw [hg, hg]
      rw [List.length_take, Nat.min_eq_left (by omega), bytes_at16 _ _ _ (by omega), byt_rd17 l k _ (by omega), show k + (i - k) = i by omega]
theorem bG_take (l : List (BitVec 8)) (n : Nat) (hn : n ≤ 4) (hl : 2 + 8 * n ≤ l.length) (h0 : l.getD 0 0 = 103#8) : ∀ i, i ≤ n → bG (kd17 l) (qd17 l n) i = l.take (2 + 8 * i)
  | 0, _ => by
    show [103#8, BitVec.ofInt 8 (kd17 l)] = l.take 2
    have e1 : BitVec.ofInt 8 (kd17 l) = l.getD 1 0 := by
      unfold kd17
      rw [BitVec.ofInt_natCast, BitVec.ofNat_toNat, BitVec.setWidth_eq]
    rw [e1]
    rcases l with _ | ⟨a, _ | ⟨b, t⟩⟩
    · simp at hl
    · simp at hl; omega
    · have : a = 103#8 := h0
      rw [this]; rfl
  | i + 1, h => by
    rw [bG, bG_take l n hn hl h0 i (by omega), wAt_qd l n i (by omega) hn, bytes_rd17 l _ (by omega)]
    rfl
theorem rd_back17 (l : List (BitVec 8)) (h : rdE17 l = 0) : chkK (kd17 l) (qd17 l (nK (kd17 l))) = 0 ∧ l.length = 6 + 8 * nK (kd17 l) ∧ seal16 (bG (kd17 l) (qd17 l (nK (kd17 l))) (nK (kd17 l))) = l := by
  unfold rdE17 at h
  by_cases h1 : l.length < 2
  · rw [if_pos h1] at h; exact absurd h (by decide)
  rw [if_neg h1] at h
  by_cases h2 : ¬ l.getD 0 0 = 103#8
  · rw [if_pos h2] at h; exact absurd h (by decide)
  rw [if_neg h2] at h
  by_cases h3 : okK (kd17 l) = false
  · rw [if_pos h3] at h; exact absurd h (by decide)
  rw [if_neg h3] at h
  by_cases h4 : l.length < 6 + 8 * nK (kd17 l)
  · rw [if_pos h4] at h; exact absurd h (by decide)
  rw [if_neg h4] at h
  by_cases h5 : 6 + 8 * nK (kd17 l) < l.length
  · rw [if_pos h5] at h; exact absurd h (by decide)
  rw [if_neg h5] at h
  by_cases h6 : ok16 l = false
  · rw [if_pos h6] at h; exact absurd h (by decide)
  rw [if_neg h6] at h
  have hl : l.length = 6 + 8 * nK (kd17 l) := by omega
  have hok : ok16 l = true := by simpa using h6
  obtain ⟨_, _, hn, _⟩ := szK_n (show okK (kd17 l) = true by simpa using h3)
  refine ⟨h, hl, ?_⟩
  rw [bG_take l _ hn (by omega) (Classical.not_not.1 h2) _ (Nat.le_refl _)]
  have hs := same_ok16 l (2 + 8 * nK (kd17 l)) (by omega)
  rw [hok] at hs
  exact eq_of_beq hs
end Go.Proofs.YtjmnhooenampkaaGreatDoor
