/- Plain lemmas: bytes that are passed on in blocks: the state behind all whole blocks, and what is left. -/
import Derived.Test.YtjmnhooenampkaaGreatDoorRow
namespace Go.Bv
open Go Go.RowKit
/-- the state behind k blocks of n bytes each -/
def bFold {σ : Type} (n : Nat) (f : σ → List (BitVec 8) → σ) : Nat → σ → List (BitVec 8) → σ
  | 0, s, _ => s
  | k + 1, s, l => bFold n f k (f s (l.take n)) (l.drop n)
/-- the state behind all whole blocks -/
def bState {σ : Type} (n : Nat) (f : σ → List (BitVec 8) → σ) (s : σ) (l : List (BitVec 8)) : σ := bFold n f (l.length / n) s l
/-- what is left -/
def bTail (n : Nat) (l : List (BitVec 8)) : List (BitVec 8) := l.drop (l.length / n * n)
theorem bFold_add {σ : Type} (n : Nat) (f : σ → List (BitVec 8) → σ) : ∀ (j k : Nat) (s : σ) (l : List (BitVec 8)), bFold n f (j + k) s l = bFold n f k (bFold n f j s l) (l.drop (j * n))
  | 0, k, s, l => by simp [bFold]
  | j + 1, k, s, l => by
    rw [show j + 1 + k = (j + k) + 1 by omega]
    simp only [bFold]
    rw [bFold_add n f j k, List.drop_drop, Nat.succ_mul, Nat.add_comm n]
theorem bFold_succ {σ : Type} (n : Nat) (f : σ → List (BitVec 8) → σ) (k : Nat) (s : σ) (l : List (BitVec 8)) : bFold n f (k + 1) s l = f (bFold n f k s l) ((l.drop (k * n)).take n) := by
  rw [bFold_add]; rfl
theorem bFold_app {σ : Type} (n : Nat) (f : σ → List (BitVec 8) → σ) : ∀ (k : Nat) (s : σ) (l m : List (BitVec 8)), k * n ≤ l.length → bFold n f k s (l ++ m) = bFold n f k s l
  | 0, s, l, m, _ => rfl
  | k + 1, s, l, m, h => by
    rw [Nat.succ_mul] at h
    simp only [bFold]
    rw [List.take_append_of_le_length (by omega), List.drop_append_of_le_length (by omega), bFold_app n f k _ _ _ (by rw [List.length_drop]; omega)]
theorem bTail_len (n : Nat) (l : List (BitVec 8)) : (bTail n l).length = l.length % n := by
  unfold bTail
  rw [List.length_drop]
  have := Nat.div_add_mod l.length n
  rw [Nat.mul_comm] at this
  omega
theorem bTail_nil (n : Nat) : bTail n [] = [] := by unfold bTail; simp
theorem bState_nil {σ : Type} (n : Nat) (f : σ → List (BitVec 8) → σ) (s : σ) : bState n f s [] = s := by unfold bState; simp [bFold]
theorem b_split (n : Nat) (hn : 0 < n) (a b : List (BitVec 8)) : (a ++ b).length / n = a.length / n + (bTail n a ++ b).length / n := by
  rw [List.length_append, List.length_append, bTail_len]
  have h := Nat.div_add_mod a.length n
  conv => lhs; rw [← h]
  rw [Nat.add_assoc, Nat.mul_add_div hn]
theorem b_drop (n : Nat) (a b : List (BitVec 8)) : (a ++ b).drop (a.length / n * n) = bTail n a ++ b := by
  unfold bTail
  rw [List.drop_append_of_le_length (Nat.div_mul_le_self _ _)]
theorem bState_join {σ : Type} (n : Nat) (hn : 0 < n) (f : σ → List (BitVec 8) → σ) (s : σ) (a b : List (BitVec 8)) : bState n f (bState n f s a) (bTail n a ++ b) = bState n f s (a ++ b) := by
  unfold bState
  rw [b_split n hn a b, bFold_add, b_drop, bFold_app n f _ s a b (Nat.div_mul_le_self _ _)]
theorem bTail_join (n : Nat) (hn : 0 < n) (a b : List (BitVec 8)) : bTail n (bTail n a ++ b) = bTail n (a ++ b) := by
  conv => rhs; unfold bTail
  rw [b_split n hn a b, Nat.add_mul, ← List.drop_drop, b_drop]; rfl
theorem bState_short {σ : Type} (n : Nat) (f : σ → List (BitVec 8) → σ) (s : σ) (l : List (BitVec 8)) (h : l.length < n) : bState n f s l = s := by
  unfold bState; rw [Nat.div_eq_of_lt h]; rfl
theorem bTail_short (n : Nat) (l : List (BitVec 8)) (h : l.length < n) : bTail n l = l := by
  unfold bTail; rw [Nat.div_eq_of_lt h]; simp
/-- block by block, as the document's own loops go -/
theorem bState_step {σ : Type} (n : Nat) (hn : 0 < n) (f : σ → List (BitVec 8) → σ) (s : σ) (l : List (BitVec 8)) (h : n ≤ l.length) : bState n f s l = bState n f (f s (l.take n)) (l.drop n) := by
  unfold bState
  have e : l.length / n = (l.drop n).length / n + 1 := by
    rw [List.length_drop, ← Nat.add_div_right _ hn, Nat.sub_add_cancel h]
  rw [e]; rfl
theorem bTail_step (n : Nat) (hn : 0 < n) (l : List (BitVec 8)) (h : n ≤ l.length) : bTail n l = bTail n (l.drop n) := by
  unfold bTail
  have e : l.length / n = (l.drop n).length / n + 1 := by
    rw [List.length_drop, ← Nat.add_div_right _ hn, Nat.sub_add_cancel h]
  rw [e, Nat.add_mul, Nat.one_mul, List.drop_drop, Nat.add_comm n]
end Go.Bv
namespace Go.Bv
open Go Go.RowKit
theorem wrap_in (i : Int) (h0 : -9223372036854775808 ≤ i) (h1 : i ≤ 9223372036854775807) : wrap64 i = i := by unfold wrap64; omega
theorem wrap_in' (i : Int) (h0 : -9223372036854775808 ≤ i) (h1 : i ≤ 9223372036854775807) : IntKind.i64.wrap i = i := by rw [IntKind.wrap_i64]; omega
/-- a row whose block is as it was -/
theorem BRow.but {w w' : World} {a : Option Addr} {len cap : Nat} {l : List (BitVec 8)} (h : BRow w a len cap l) (hs : w.heap.size ≤ w'.heap.size) (hk : ∀ x, a = some x → 0 < len → w'.heap[x.block]? = w.heap[x.block]?) : BRow w' a len cap l where
  len_eq := h.len_eq
  le := h.le
  most := h.most
  room := h.room
  none := h.none
  cell := fun b off e i hi => by
    have hb := hk _ e (by omega)
    have hc := h.cell b off e i hi
    unfold World.cell? at hc ⊢
    simp only at hb hc ⊢
    rw [hb]; exact hc
  spot := h.spot
  old := fun x e h0 => Nat.lt_of_lt_of_le (h.old x e h0) hs
/-- the rest of a row from a place on -/
theorem row_rest {w : World} {b off : Nat} {sp : Option Nat} {len cap m : Nat} {l : List (BitVec 8)} (h : BRow w (some ⟨b, off, sp⟩) len cap l) (hm : m ≤ len) :
    ∃ sp2, (⟨b, off, sp⟩ : Addr).add m = ⟨b, off + m, sp2⟩ ∧ BRow w (some ⟨b, off + m, sp2⟩) (len - m) (cap - m) (l.drop m) := by
  by_cases h0 : m = 0
  · subst h0
    exact ⟨sp, by simp [Addr.add], by simpa using h⟩
  · refine ⟨Option.none, by simp [Addr.add, h0], ?_, ?_, ?_, ?_, ?_, ?_, ?_, ?_⟩
    · have := h.len_eq; simp; omega
    · have := h.le; omega
    · have := h.most; omega
    · have := h.room; omega
    · intro e; cases e
    · intro b' off' e i hi
      cases e
      have hs := h.spot _ rfl (by omega)
      simp only at hs
      subst hs
      have := h.cell b off rfl (m + i) (by omega)
      rw [Nat.add_assoc, this]
      simp [List.getD_eq_getElem?_getD, List.getElem?_drop]
    · intro x e _; cases e; rfl
    · intro x e h1; cases e
      exact h.old ⟨b, off, sp⟩ rfl (by omega)
theorem row_end {w : World} {a : Option Addr} {m : Nat} {l : List (BitVec 8)} (h : BRow w a m m l) : BRow w a 0 0 (l.drop m) where
  len_eq := by have := h.len_eq; simp; omega
  le := Nat.le_refl _
  most := by omega
  room := by omega
  none := fun _ => ⟨rfl, rfl⟩
  cell := fun b off e i hi => absurd hi (by omega)
  spot := fun x e h0 => absurd h0 (by omega)
  old := fun x e h0 => absurd h0 (by omega)
theorem wrap_add (m : Nat) (n : Int) (k : Nat) (h : (m : Int) + n = (k : Int)) (hk : k ≤ 9223372036854775807) : wrap64 ((m : Int) + n) = (k : Int) ∧ IntKind.i64.wrap ((m : Int) + n) = (k : Int) := by
  rw [h]; exact ⟨wrap_in _ (by omega) (by omega), wrap_in' _ (by omega) (by omega)⟩
theorem wrap_less (a m : Nat) (ha : a ≤ 9223372036854775807) (hm : m ≤ a) : wrap64 ((a : Int) - (m : Int)) = (a : Int) - (m : Int) ∧ IntKind.i64.wrap ((a : Int) - (m : Int)) = (a : Int) - (m : Int) :=
  ⟨wrap_in _ (by omega) (by omega), wrap_in' _ (by omega) (by omega)⟩
end Go.Bv
