/- Plain lemmas: a slice of bytes that is read: its bytes as a list; the number of bytes, the lowest first. -/
import Derived.Test.YtjmnhooenampkaaGreatDoorRot
import Derived.Test.YtjmnhooenampkaaGreatDoorFrame
namespace Go.Bv
open Go Go.RowKit
/-- a slice of bytes that reads as l in the world w: its address, its length, its capacity -/
structure BRow (w : World) (a : Option Addr) (len cap : Nat) (l : List (BitVec 8)) : Prop where
  len_eq : l.length = len
  le : len ≤ cap
  most : len ≤ 140737488355328
  room : cap ≤ 9223372036854775807
  none : a = none → len = 0 ∧ cap = 0
  cell : ∀ b off, a = some ⟨b, off, Option.none⟩ → ∀ i, i < len → w.cell? ⟨b, off + i, Option.none⟩ = some (.int .u8 (W8 (l.getD i 0)))
  spot : ∀ x, a = some x → 0 < len → x.spot = Option.none
  old : ∀ x, a = some x → 0 < len → x.block < w.heap.size
theorem BRow.stay {w w' : World} {a : Option Addr} {len cap : Nat} {l : List (BitVec 8)} (h : BRow w a len cap l) (hn : New w w') : BRow w' a len cap l where
  len_eq := h.len_eq
  le := h.le
  most := h.most
  room := h.room
  none := h.none
  cell := fun b off e i hi => by
    have hb := h.old _ e (by omega)
    rw [hn.cell (a := ⟨b, off + i, Option.none⟩) hb]; exact h.cell b off e i hi
  spot := h.spot
  old := fun x e h0 => Nat.lt_of_lt_of_le (h.old x e h0) hn.le
theorem cell_block {w : World} {a : Addr} {v : Value} (h : w.cell? a = some v) : a.block < w.heap.size := by
  rcases Nat.lt_or_ge a.block w.heap.size with h2 | h2
  · exact h2
  · exfalso
    unfold World.cell? at h
    rw [Array.getElem?_eq_none h2] at h
    simp at h
theorem add_plain (b off i : Nat) : (⟨b, off, Option.none⟩ : Addr).add i = ⟨b, off + i, Option.none⟩ := by unfold Addr.add; split <;> simp_all
theorem IRow.bytes {w : World} {a : Option Addr} {len cap : Nat} {zs : List Int} (h : IRow .u8 w a len cap zs) (hr : cap * 1 ≤ 140737488351232) : ∃ l, BRow w a len cap l := by
  rcases h with ⟨rfl, rfl, rfl, rfl⟩ | ⟨x, rfl, hl, hz, hc, hw⟩
  · exact ⟨[], ⟨rfl, Nat.le_refl _, by omega, by omega, fun _ => ⟨rfl, rfl⟩, (fun _ _ e => by cases e), (fun _ e => by cases e), (fun _ e => by cases e)⟩⟩
  · refine ⟨(zs.take len).map (BitVec.ofInt 8), ⟨by simp; omega, hl, by omega, by omega, (fun e => by cases e), ?_, ?_, ?_⟩⟩
    · intro b off e i hi
      cases e
      have := hc i (by omega)
      rw [add_plain] at this
      rw [this]
      have hi2 : i < zs.length := by omega
      have e1 : zs.getD i 0 = zs[i] := by rw [List.getD_eq_getElem?_getD, List.getElem?_eq_getElem hi2]; rfl
      have e2 : ((zs.take len).map (BitVec.ofInt 8)).getD i 0 = BitVec.ofInt 8 zs[i] := by
        rw [List.getD_eq_getElem?_getD, List.getElem?_map, List.getElem?_take, if_pos hi, List.getElem?_eq_getElem hi2]; rfl
      have hwf := hw zs[i] (List.getElem_mem hi2)
      obtain ⟨X, hX⟩ := ex8 zs[i] (by simp [Lit.wf, IntKind.min, IntKind.max, IntKind.signed, IntKind.bits] at hwf; omega)
      rw [e1, e2, hX, ofInt_W8]
    · intro y e h0; cases e; exact World.cell?_spot (hc 0 (by omega))
    · intro y e h0; cases e
      have := cell_block (hc 0 (by omega))
      simpa [Addr.add] using this
/-- a slice with elements has an address -/
theorem BRow.addr {w : World} {a : Option Addr} {len cap : Nat} {l : List (BitVec 8)} (h : BRow w a len cap l) (h0 : 0 < len) :
    ∃ b off, a = some ⟨b, off, Option.none⟩ ∧ ∀ i, i < len → w.cell? ⟨b, off + i, Option.none⟩ = some (.int .u8 (W8 (l.getD i 0))) := by
  cases a with
  | none => have := (h.none rfl).1; omega
  | some x =>
    obtain ⟨b, off, sp⟩ := x
    have hs := h.spot _ rfl h0
    obtain rfl : sp = Option.none := hs
    exact ⟨b, off, rfl, h.cell b off rfl⟩
/-- what append leaves reads as a list of bytes -/
theorem BRow.of_owns {w : World} {base : Nat} {e : TypeId} {v : Value} {n : Nat} {l : List (BitVec 8)} (h : w.ownsRow base e 1 v n (l.map fun x => .int .u8 (W8 x))) (hn : n ≤ 140737488355328) :
    ∃ a cap, v = .slice a n cap ∧ BRow w a n cap l := by
  obtain ⟨hl, h⟩ := h
  rw [List.length_map, Nat.mul_one] at hl
  rcases h with ⟨rfl, rfl⟩ | ⟨g, cap, cur, rfl, _, hc, hle, hm, hs, ht⟩
  · exact ⟨Option.none, 0, rfl, ⟨hl, Nat.le_refl _, by omega, by omega, fun _ => ⟨rfl, rfl⟩, (fun _ _ e => by cases e), (fun _ e => by cases e), (fun _ e => by cases e)⟩⟩
  · have hcell : ∀ i, i < n → w.cell? ⟨g, 0 + i, Option.none⟩ = some (.int .u8 (W8 (l.getD i 0))) := by
      intro i hi
      rw [Nat.zero_add]
      have hi2 : i < l.length := by omega
      have e1 : (cur.toList.take (n * 1))[i]? = some (.int .u8 (W8 (l.getD i 0))) := by
        rw [ht, List.getElem?_map, List.getD_eq_getElem?_getD, List.getElem?_eq_getElem hi2]; rfl
      rw [List.getElem?_take, if_pos (by omega)] at e1
      unfold World.cell?
      simp only [hc]
      simpa using e1
    refine ⟨some ⟨g, 0, Option.none⟩, cap, rfl, ⟨hl, hle, hn, hm, (fun e => by cases e), ?_, ?_, ?_⟩⟩
    · intro b off e i hi; cases e; exact hcell i hi
    · intro x e _; cases e; rfl
    · intro x e h0; cases e; exact cell_block (hcell 0 h0)
/-- the cells of a slice of bytes, as append's law asks for them -/
theorem BRow.olds {w : World} {a : Option Addr} {len cap : Nat} {l : List (BitVec 8)} (h : BRow w a len cap l) :
    ∀ b, a = some b → ∀ j u, (l.map fun x => Value.int .u8 (W8 x))[j]? = some u → w.cell? (b.add j) = some u := by
  intro b e j u hj
  rw [List.getElem?_map] at hj
  have hjl : j < l.length := by
    rcases Nat.lt_or_ge j l.length with h2 | h2
    · exact h2
    · rw [List.getElem?_eq_none h2] at hj; simp at hj
  have hj2 : j < len := by rw [← h.len_eq]; exact hjl
  obtain ⟨b', off, sp⟩ := b
  obtain rfl : sp = Option.none := h.spot _ e (by omega)
  rw [add_plain, h.cell b' off e j hj2, List.getD_eq_getElem?_getD, List.getElem?_eq_getElem hjl]
  rw [List.getElem?_eq_getElem hjl] at hj
  simpa using hj
/-- the number of bytes f 0, f 1 .., the lowest first -/
def num (f : Nat → BitVec 8) : Nat → BitVec 64
  | 0 => 0#64
  | n + 1 => num (fun i => f (i + 1)) n * 256#64 + (f 0).setWidth 64
theorem num_congr {f g : Nat → BitVec 8} : ∀ n, (∀ i, i < n → f i = g i) → num f n = num g n
  | 0, _ => rfl
  | n + 1, h => by
    simp only [num]
    rw [h 0 (by omega), num_congr n (f := fun i => f (i + 1)) (g := fun i => g (i + 1)) (fun i hi => h (i + 1) (by omega))]
theorem shl8 (x : BitVec 64) : x * 256#64 = x <<< 8 := by
  apply BitVec.eq_of_toNat_eq; simp [BitVec.toNat_mul, BitVec.toNat_shiftLeft, Nat.shiftLeft_eq]
theorem add_byte (x : BitVec 64) (b : BitVec 8) : x * 256#64 + b.setWidth 64 = x <<< 8 ||| b.setWidth 64 := by
  rw [shl8]
  apply BitVec.add_eq_or_of_and_eq_zero
  apply BitVec.eq_of_getLsbD_eq
  intro i hi
  simp only [BitVec.getLsbD_and, BitVec.getLsbD_shiftLeft, BitVec.getLsbD_setWidth, hi, decide_true, Bool.true_and, BitVec.getLsbD_zero]
  by_cases h : i < 8
  · simp [h]
  · rw [BitVec.getLsbD_of_ge b i (by omega)]; simp
theorem num_or (f : Nat → BitVec 8) (n : Nat) : num f (n + 1) = num (fun i => f (i + 1)) n <<< 8 ||| (f 0).setWidth 64 := add_byte _ _
theorem num_zero (f : Nat → BitVec 8) : num f 0 = 0#64 := rfl
theorem num_zeros (f : Nat → BitVec 8) : ∀ n, (∀ i, i < n → f i = 0#8) → num f n = 0#64
  | 0, _ => rfl
  | n + 1, h => by
    simp only [num]
    rw [h 0 (by omega), num_zeros (fun i => f (i + 1)) n (fun i hi => h (i + 1) (by omega))]; rfl
theorem num_short (f : Nat → BitVec 8) : ∀ k n, k ≤ n → (∀ i, k ≤ i → i < n → f i = 0#8) → num f n = num f k
  | 0, n, _, h => num_zeros f n (fun i hi => h i (by omega) hi)
  | k + 1, 0, hk, _ => by omega
  | k + 1, n + 1, hk, h => by
    simp only [num]
    rw [num_short (fun i => f (i + 1)) k n (by omega) (fun i h1 h2 => h (i + 1) (by omega) (by omega))]
theorem num_lt (f : Nat → BitVec 8) : ∀ n, n ≤ 8 → (num f n).toNat < 256 ^ n
  | 0, _ => by simp [num]
  | n + 1, h => by
    have ih := num_lt (fun i => f (i + 1)) n (by omega)
    have hb := (f 0).isLt
    have hp : 256 ^ n * 256 ≤ 256 ^ 8 := by rw [← Nat.pow_succ]; exact Nat.pow_le_pow_right (by omega) (by omega)
    simp only [num]
    rw [BitVec.toNat_add, BitVec.toNat_mul, BitVec.toNat_setWidth, Nat.pow_succ]
    simp only [BitVec.toNat_ofNat]
    omega
end Go.Bv
