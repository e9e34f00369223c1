import Derived.Test.YtoplabhoedloeaaGreatRot
import Derived.Test.YtoplabhoedloeaaGreatFrame
import Derived.Test.YtoplabhoedloeaaGreatProg
section
/- Plain lemmas: a slice of bytes that is read: its bytes as a list; the number of bytes, the lowest first. -/
namespace Go.Bv
open Go Go.RowKit
/-- a slice of bytes that reads as l in the world w: its address, its length, its capacity -/
structure BRow (w : World) (a : Option Addr) (len cap : Nat) (l : List (BitVec 8)) : Prop where
  len_eq : l.length = len
  le : len ≤ cap
  most : len ≤ 140737488355328
  room : cap ≤ 9223372036854775807
  none : a = none → len = 0 ∧ cap = 0
  cell : ∀ b off, a = some ⟨b, off, Option.none⟩ → ∀ i, i < len → w.cell? ⟨b, off + i, Option.none⟩ = some (.int .u8 (W8 (l.getD i 0)))
  spot : ∀ x, a = some x → 0 < len → x.spot = Option.none
  old : ∀ x, a = some x → 0 < len → x.block < w.heap.size
theorem BRow.stay {w w' : World} {a : Option Addr} {len cap : Nat} {l : List (BitVec 8)} (h : BRow w a len cap l) (hn : New w w') : BRow w' a len cap l where
  len_eq := h.len_eq
  le := h.le
  most := h.most
  room := h.room
  none := h.none
  cell := fun b off e i hi => by
    have hb := h.old _ e (by omega)
    rw [hn.cell (a := ⟨b, off + i, Option.none⟩) hb]; exact h.cell b off e i hi
  spot := h.spot
  old := fun x e h0 => Nat.lt_of_lt_of_le (h.old x e h0) hn.le
theorem cell_blockD {w : World} {a : Addr} {v : Value} (h : w.cell? a = some v) : a.block < w.heap.size := by
  rcases Nat.lt_or_ge a.block w.heap.size with h2 | h2
  · exact h2
  · exfalso
    unfold World.cell? at h
    rw [Array.getElem?_eq_none h2] at h
    simp at h
theorem add_plainD (b off i : Nat) : (⟨b, off, Option.none⟩ : Addr).add i = ⟨b, off + i, Option.none⟩ := by unfold Addr.add; split <;> simp_all
theorem IRow.bytes {w : World} {a : Option Addr} {len cap : Nat} {zs : List Int} (h : IRow .u8 w a len cap zs) (hr : cap * 1 ≤ 140737488351232) : ∃ l, BRow w a len cap l := by
  rcases h with ⟨rfl, rfl, rfl, rfl⟩ | ⟨x, rfl, hl, hz, hc, hw⟩
  · exact ⟨[], ⟨rfl, Nat.le_refl _, by omega, by omega, fun _ => ⟨rfl, rfl⟩, (fun _ _ e => by cases e), (fun _ e => by cases e), (fun _ e => by cases e)⟩⟩
  · refine ⟨(zs.take len).map (BitVec.ofInt 8), ⟨by simp; omega, hl, by omega, by omega, (fun e => by cases e), ?_, ?_, ?_⟩⟩
    · intro b off e i hi
      cases e
      have := hc i (by omega)
      rw [add_plainD] at this
      rw [this]
      have hi2 : i < zs.length := by omega
      have e1 : zs.getD i 0 = zs[i] := by rw [List.getD_eq_getElem?_getD, List.getElem?_eq_getElem hi2]; rfl
      have e2 : ((zs.take len).map (BitVec.ofInt 8)).getD i 0 = BitVec.ofInt 8 zs[i] := by
        rw [List.getD_eq_getElem?_getD, List.getElem?_map, List.getElem?_take, if_pos hi, List.getElem?_eq_getElem hi2]; rfl
      have hwf := hw zs[i] (List.getElem_mem hi2)
      obtain ⟨X, hX⟩ := ex8 zs[i] (by simp [Lit.wf, IntKind.min, IntKind.max, IntKind.signed, IntKind.bits] at hwf; omega)
      rw [e1, e2, hX, ofInt_W8]
    · intro y e h0; cases e; exact World.cell?_spot (hc 0 (by omega))
    · intro y e h0; cases e
      have := cell_blockD (hc 0 (by omega))
      simpa [Addr.add] using this
/-- a slice with elements has an address -/
theorem BRow.addr {w : World} {a : Option Addr} {len cap : Nat} {l : List (BitVec 8)} (h : BRow w a len cap l) (h0 : 0 < len) :
    ∃ b off, a = some ⟨b, off, Option.none⟩ ∧ ∀ i, i < len → w.cell? ⟨b, off + i, Option.none⟩ = some (.int .u8 (W8 (l.getD i 0))) := by
  cases a with
  | none => have := (h.none rfl).1; omega
  | some x =>
    obtain ⟨b, off, sp⟩ := x
    have hs := h.spot _ rfl h0
    obtain rfl : sp = Option.none := hs
    exact ⟨b, off, rfl, h.cell b off rfl⟩
/-- what append leaves reads as a list of bytes -/
theorem BRow.of_owns {w : World} {base : Nat} {e : TypeId} {v : Value} {n : Nat} {l : List (BitVec 8)} (h : w.ownsRow base e 1 v n (l.map fun x => .int .u8 (W8 x))) (hn : n ≤ 140737488355328) :
    ∃ a cap, v = .slice a n cap ∧ BRow w a n cap l := by
  obtain ⟨hl, h⟩ := h
  rw [List.length_map, Nat.mul_one] at hl
  rcases h with ⟨rfl, rfl⟩ | ⟨g, cap, cur, rfl, _, hc, hle, hm, hs, ht⟩
  · exact ⟨Option.none, 0, rfl, ⟨hl, Nat.le_refl _, by omega, by omega, fun _ => ⟨rfl, rfl⟩, (fun _ _ e => by cases e), (fun _ e => by cases e), (fun _ e => by cases e)⟩⟩
  · have hcell : ∀ i, i < n → w.cell? ⟨g, 0 + i, Option.none⟩ = some (.int .u8 (W8 (l.getD i 0))) := by
      intro i hi
      rw [Nat.zero_add]
      have hi2 : i < l.length := by omega
      have e1 : (cur.toList.take (n * 1))[i]? = some (.int .u8 (W8 (l.getD i 0))) := by
        rw [ht, List.getElem?_map, List.getD_eq_getElem?_getD, List.getElem?_eq_getElem hi2]; rfl
      rw [List.getElem?_take, if_pos (by omega)] at e1
      unfold World.cell?
      simp only [hc]
      simpa using e1
    refine ⟨some ⟨g, 0, Option.none⟩, cap, rfl, ⟨hl, hle, hn, hm, (fun e => by cases e), ?_, ?_, ?_⟩⟩
    · intro b off e i hi; cases e; exact hcell i hi
    · intro x e _; cases e; rfl
    · intro x e h0; cases e; exact cell_blockD (hcell 0 h0)
/-- the cells of a slice of bytes, as append's law asks for them -/
theorem BRow.olds {w : World} {a : Option Addr} {len cap : Nat} {l : List (BitVec 8)} (h : BRow w a len cap l) :
    ∀ b, a = some b → ∀ j u, (l.map fun x => Value.int .u8 (W8 x))[j]? = some u → w.cell? (b.add j) = some u := by
  intro b e j u hj
  rw [List.getElem?_map] at hj
  have hjl : j < l.length := by
    rcases Nat.lt_or_ge j l.length with h2 | h2
    · exact h2
    · rw [List.getElem?_eq_none h2] at hj; simp at hj
  have hj2 : j < len := by rw [← h.len_eq]; exact hjl
  obtain ⟨b', off, sp⟩ := b
  obtain rfl : sp = Option.none := h.spot _ e (by omega)
  rw [add_plainD, h.cell b' off e j hj2, List.getD_eq_getElem?_getD, List.getElem?_eq_getElem hjl]
  rw [List.getElem?_eq_getElem hjl] at hj
  simpa using hj
/-- the number of bytes f 0, f 1 .., the lowest first -/
def num (f : Nat → BitVec 8) : Nat → BitVec 64
  | 0 => 0#64
  | n + 1 => num (fun i => f (i + 1)) n * 256#64 + (f 0).setWidth 64
theorem num_congr {f g : Nat → BitVec 8} : ∀ n, (∀ i, i < n → f i = g i) → num f n = num g n
  | 0, _ => rfl
  | n + 1, h => by
    simp only [num]
    rw [h 0 (by omega), num_congr n (f := fun i => f (i + 1)) (g := fun i => g (i + 1)) (fun i hi => h (i + 1) (by omega))]
theorem shl8 (x : BitVec 64) : x * 256#64 = x <<< 8 := by
  apply BitVec.eq_of_toNat_eq; simp [BitVec.toNat_mul, BitVec.toNat_shiftLeft, Nat.shiftLeft_eq]
theorem add_byte (x : BitVec 64) (b : BitVec 8) : x * 256#64 + b.setWidth 64 = x <<< 8 ||| b.setWidth 64 := by
  rw [shl8]
  apply BitVec.add_eq_or_of_and_eq_zero
  apply BitVec.eq_of_getLsbD_eq
  intro i hi
  simp only [BitVec.getLsbD_and, BitVec.getLsbD_shiftLeft, BitVec.getLsbD_setWidth, hi, decide_true, Bool.true_and, BitVec.getLsbD_zero]
  by_cases h : i < 8
  · simp [h]
  · rw [BitVec.getLsbD_of_ge b i (by omega)]; simp
theorem num_or (f : Nat → BitVec 8) (n : Nat) : num f (n + 1) = num (fun i => f (i + 1)) n <<< 8 ||| (f 0).setWidth 64 := add_byte _ _
theorem num_zero (f : Nat → BitVec 8) : num f 0 = 0#64 := rfl
theorem num_zeros (f : Nat → BitVec 8) : ∀ n, (∀ i, i < n → f i = 0#8) → num f n = 0#64
  | 0, _ => rfl
  | n + 1, h => by
    simp only [num]
    rw [h 0 (by omega), num_zeros (fun i => f (i + 1)) n (fun i hi => h (i + 1) (by omega))]; rfl
theorem num_short (f : Nat → BitVec 8) : ∀ k n, k ≤ n → (∀ i, k ≤ i → i < n → f i = 0#8) → num f n = num f k
  | 0, n, _, h => num_zeros f n (fun i hi => h i (by omega) hi)
  | k + 1, 0, hk, _ => by omega
  | k + 1, n + 1, hk, h => by
    simp only [num]
    rw [num_short (fun i => f (i + 1)) k n (by omega) (fun i h1 h2 => h (i + 1) (by omega) (by omega))]
theorem num_lt (f : Nat → BitVec 8) : ∀ n, n ≤ 8 → (num f n).toNat < 256 ^ n
  | 0, _ => by simp [num]
  | n + 1, h => by
    have ih := num_lt (fun i => f (i + 1)) n (by omega)
    have hb := (f 0).isLt
    have hp : 256 ^ n * 256 ≤ 256 ^ 8 := by rw [← Nat.pow_succ]; exact Nat.pow_le_pow_right (by omega) (by omega)
    simp only [num]
    rw [BitVec.toNat_add, BitVec.toNat_mul, BitVec.toNat_setWidth, Nat.pow_succ]
    simp only [BitVec.toNat_ofNat]
    omega
end Go.Bv
end
section
/- Contracts of load.Tail, load.Le32, load.Le64 and of the document's own Num and There: what each call returns, for all bytes. -/
namespace Go.Proofs.YtoplabhoedloeaaGreat
open Go.RowKit Go.Bv
set_option linter.unusedVariables false
theorem num_eq1 (f : Nat → BitVec 8) : num f 1 = ((f 0).setWidth 64) := by
  simp [num_or, num_zero]
theorem num_eq2 (f : Nat → BitVec 8) : num f 2 = (((f 1).setWidth 64 <<< 8) ||| (f 0).setWidth 64) := by
  simp only [num_or, num_zero, BitVec.shiftLeft_or_distrib, ← BitVec.shiftLeft_add]
  simp
theorem num_eq3 (f : Nat → BitVec 8) : num f 3 = ((((f 2).setWidth 64 <<< 16) ||| (f 1).setWidth 64 <<< 8) ||| (f 0).setWidth 64) := by
  simp only [num_or, num_zero, BitVec.shiftLeft_or_distrib, ← BitVec.shiftLeft_add]
  simp
theorem num_eq4 (f : Nat → BitVec 8) : num f 4 = (((((f 3).setWidth 64 <<< 24) ||| (f 2).setWidth 64 <<< 16) ||| (f 1).setWidth 64 <<< 8) ||| (f 0).setWidth 64) := by
  simp only [num_or, num_zero, BitVec.shiftLeft_or_distrib, ← BitVec.shiftLeft_add]
  simp
theorem num_eq5 (f : Nat → BitVec 8) : num f 5 = ((((((f 4).setWidth 64 <<< 32) ||| (f 3).setWidth 64 <<< 24) ||| (f 2).setWidth 64 <<< 16) ||| (f 1).setWidth 64 <<< 8) ||| (f 0).setWidth 64) := by
  simp only [num_or, num_zero, BitVec.shiftLeft_or_distrib, ← BitVec.shiftLeft_add]
  simp
theorem num_eq6 (f : Nat → BitVec 8) : num f 6 = (((((((f 5).setWidth 64 <<< 40) ||| (f 4).setWidth 64 <<< 32) ||| (f 3).setWidth 64 <<< 24) ||| (f 2).setWidth 64 <<< 16) ||| (f 1).setWidth 64 <<< 8) ||| (f 0).setWidth 64) := by
  simp only [num_or, num_zero, BitVec.shiftLeft_or_distrib, ← BitVec.shiftLeft_add]
  simp
theorem num_eq7 (f : Nat → BitVec 8) : num f 7 = ((((((((f 6).setWidth 64 <<< 48) ||| (f 5).setWidth 64 <<< 40) ||| (f 4).setWidth 64 <<< 32) ||| (f 3).setWidth 64 <<< 24) ||| (f 2).setWidth 64 <<< 16) ||| (f 1).setWidth 64 <<< 8) ||| (f 0).setWidth 64) := by
  simp only [num_or, num_zero, BitVec.shiftLeft_or_distrib, ← BitVec.shiftLeft_add]
  simp
theorem num_eq8 (f : Nat → BitVec 8) : num f 8 = (((((((((f 7).setWidth 64 <<< 56) ||| (f 6).setWidth 64 <<< 48) ||| (f 5).setWidth 64 <<< 40) ||| (f 4).setWidth 64 <<< 32) ||| (f 3).setWidth 64 <<< 24) ||| (f 2).setWidth 64 <<< 16) ||| (f 1).setWidth 64 <<< 8) ||| (f 0).setWidth 64) := by
  simp only [num_or, num_zero, BitVec.shiftLeft_or_distrib, ← BitVec.shiftLeft_add]
  simp
set_option maxHeartbeats 1000000 in
theorem tail_1 (b off cap : Nat) (x0 : BitVec 8) (w : World) (c0 : w.cell? ⟨b, off, none⟩ = some (.int .u8 (W8 x0))) :
    Calls Tryz.prog 90 #[.slice (some ⟨b, off, none⟩) 1 cap] w fun e w' => e = .returned (.int .u64 (W64 ((x0).setWidth 64))) ∧ w' = w := by
  go_enter Tryz.func90, Tryz.ntmps90
  go_wp2
  go_ret
  exact ⟨ret64 rfl, rfl⟩
set_option maxHeartbeats 1000000 in
theorem tail_2 (b off cap : Nat) (x0 x1 : BitVec 8) (w : World) (c0 : w.cell? ⟨b, off, none⟩ = some (.int .u8 (W8 x0))) (c1 : w.cell? ⟨b, off + 1, none⟩ = some (.int .u8 (W8 x1))) :
    Calls Tryz.prog 90 #[.slice (some ⟨b, off, none⟩) 2 cap] w fun e w' => e = .returned (.int .u64 (W64 (((x1).setWidth 64 <<< 8) ||| (x0).setWidth 64))) ∧ w' = w := by
  go_enter Tryz.func90, Tryz.ntmps90
  go_wp2
  go_ret
  exact ⟨ret64 rfl, rfl⟩
set_option maxHeartbeats 1000000 in
theorem tail_3 (b off cap : Nat) (x0 x1 x2 : BitVec 8) (w : World) (c0 : w.cell? ⟨b, off, none⟩ = some (.int .u8 (W8 x0))) (c1 : w.cell? ⟨b, off + 1, none⟩ = some (.int .u8 (W8 x1))) (c2 : w.cell? ⟨b, off + 2, none⟩ = some (.int .u8 (W8 x2))) :
    Calls Tryz.prog 90 #[.slice (some ⟨b, off, none⟩) 3 cap] w fun e w' => e = .returned (.int .u64 (W64 ((((x2).setWidth 64 <<< 16) ||| (x1).setWidth 64 <<< 8) ||| (x0).setWidth 64))) ∧ w' = w := by
  go_enter Tryz.func90, Tryz.ntmps90
  go_wp2
  go_ret
  exact ⟨ret64 rfl, rfl⟩
set_option maxHeartbeats 1000000 in
theorem tail_4 (b off cap : Nat) (x0 x1 x2 x3 : BitVec 8) (w : World) (c0 : w.cell? ⟨b, off, none⟩ = some (.int .u8 (W8 x0))) (c1 : w.cell? ⟨b, off + 1, none⟩ = some (.int .u8 (W8 x1))) (c2 : w.cell? ⟨b, off + 2, none⟩ = some (.int .u8 (W8 x2))) (c3 : w.cell? ⟨b, off + 3, none⟩ = some (.int .u8 (W8 x3))) :
    Calls Tryz.prog 90 #[.slice (some ⟨b, off, none⟩) 4 cap] w fun e w' => e = .returned (.int .u64 (W64 (((((x3).setWidth 64 <<< 24) ||| (x2).setWidth 64 <<< 16) ||| (x1).setWidth 64 <<< 8) ||| (x0).setWidth 64))) ∧ w' = w := by
  go_enter Tryz.func90, Tryz.ntmps90
  go_wp2
  go_ret
  exact ⟨ret64 rfl, rfl⟩
set_option maxHeartbeats 1000000 in
theorem tail_5 (b off cap : Nat) (x0 x1 x2 x3 x4 : BitVec 8) (w : World) (c0 : w.cell? ⟨b, off, none⟩ = some (.int .u8 (W8 x0))) (c1 : w.cell? ⟨b, off + 1, none⟩ = some (.int .u8 (W8 x1))) (c2 : w.cell? ⟨b, off + 2, none⟩ = some (.int .u8 (W8 x2))) (c3 : w.cell? ⟨b, off + 3, none⟩ = some (.int .u8 (W8 x3))) (c4 : w.cell? ⟨b, off + 4, none⟩ = some (.int .u8 (W8 x4))) :
    Calls Tryz.prog 90 #[.slice (some ⟨b, off, none⟩) 5 cap] w fun e w' => e = .returned (.int .u64 (W64 ((((((x4).setWidth 64 <<< 32) ||| (x3).setWidth 64 <<< 24) ||| (x2).setWidth 64 <<< 16) ||| (x1).setWidth 64 <<< 8) ||| (x0).setWidth 64))) ∧ w' = w := by
  go_enter Tryz.func90, Tryz.ntmps90
  go_wp2
  go_ret
  exact ⟨ret64 rfl, rfl⟩
set_option maxHeartbeats 1000000 in
theorem tail_6 (b off cap : Nat) (x0 x1 x2 x3 x4 x5 : BitVec 8) (w : World) (c0 : w.cell? ⟨b, off, none⟩ = some (.int .u8 (W8 x0))) (c1 : w.cell? ⟨b, off + 1, none⟩ = some (.int .u8 (W8 x1))) (c2 : w.cell? ⟨b, off + 2, none⟩ = some (.int .u8 (W8 x2))) (c3 : w.cell? ⟨b, off + 3, none⟩ = some (.int .u8 (W8 x3))) (c4 : w.cell? ⟨b, off + 4, none⟩ = some (.int .u8 (W8 x4))) (c5 : w.cell? ⟨b, off + 5, none⟩ = some (.int .u8 (W8 x5))) :
    Calls Tryz.prog 90 #[.slice (some ⟨b, off, none⟩) 6 cap] w fun e w' => e = .returned (.int .u64 (W64 (((((((x5).setWidth 64 <<< 40) ||| (x4).setWidth 64 <<< 32) ||| (x3).setWidth 64 <<< 24) ||| (x2).setWidth 64 <<< 16) ||| (x1).setWidth 64 <<< 8) ||| (x0).setWidth 64))) ∧ w' = w := by
  go_enter Tryz.func90, Tryz.ntmps90
  go_wp2
  go_ret
  exact ⟨ret64 rfl, rfl⟩
set_option maxHeartbeats 1000000 in
theorem tail_7 (b off cap : Nat) (x0 x1 x2 x3 x4 x5 x6 : BitVec 8) (w : World) (c0 : w.cell? ⟨b, off, none⟩ = some (.int .u8 (W8 x0))) (c1 : w.cell? ⟨b, off + 1, none⟩ = some (.int .u8 (W8 x1))) (c2 : w.cell? ⟨b, off + 2, none⟩ = some (.int .u8 (W8 x2))) (c3 : w.cell? ⟨b, off + 3, none⟩ = some (.int .u8 (W8 x3))) (c4 : w.cell? ⟨b, off + 4, none⟩ = some (.int .u8 (W8 x4))) (c5 : w.cell? ⟨b, off + 5, none⟩ = some (.int .u8 (W8 x5))) (c6 : w.cell? ⟨b, off + 6, none⟩ = some (.int .u8 (W8 x6))) :
    Calls Tryz.prog 90 #[.slice (some ⟨b, off, none⟩) 7 cap] w fun e w' => e = .returned (.int .u64 (W64 ((((((((x6).setWidth 64 <<< 48) ||| (x5).setWidth 64 <<< 40) ||| (x4).setWidth 64 <<< 32) ||| (x3).setWidth 64 <<< 24) ||| (x2).setWidth 64 <<< 16) ||| (x1).setWidth 64 <<< 8) ||| (x0).setWidth 64))) ∧ w' = w := by
  go_enter Tryz.func90, Tryz.ntmps90
  go_wp2
  go_ret
  exact ⟨ret64 rfl, rfl⟩
set_option maxHeartbeats 1000000 in
theorem tail_8 (b off cap : Nat) (x0 x1 x2 x3 x4 x5 x6 x7 : BitVec 8) (w : World) (c0 : w.cell? ⟨b, off, none⟩ = some (.int .u8 (W8 x0))) (c1 : w.cell? ⟨b, off + 1, none⟩ = some (.int .u8 (W8 x1))) (c2 : w.cell? ⟨b, off + 2, none⟩ = some (.int .u8 (W8 x2))) (c3 : w.cell? ⟨b, off + 3, none⟩ = some (.int .u8 (W8 x3))) (c4 : w.cell? ⟨b, off + 4, none⟩ = some (.int .u8 (W8 x4))) (c5 : w.cell? ⟨b, off + 5, none⟩ = some (.int .u8 (W8 x5))) (c6 : w.cell? ⟨b, off + 6, none⟩ = some (.int .u8 (W8 x6))) (c7 : w.cell? ⟨b, off + 7, none⟩ = some (.int .u8 (W8 x7))) :
    Calls Tryz.prog 90 #[.slice (some ⟨b, off, none⟩) 8 cap] w fun e w' => e = .returned (.int .u64 (W64 (((((((((x7).setWidth 64 <<< 56) ||| (x6).setWidth 64 <<< 48) ||| (x5).setWidth 64 <<< 40) ||| (x4).setWidth 64 <<< 32) ||| (x3).setWidth 64 <<< 24) ||| (x2).setWidth 64 <<< 16) ||| (x1).setWidth 64 <<< 8) ||| (x0).setWidth 64))) ∧ w' = w := by
  go_enter Tryz.func90, Tryz.ntmps90
  go_wp2
  go_ret
  exact ⟨ret64 rfl, rfl⟩
set_option maxHeartbeats 1000000 in
theorem tail_9 (b off len cap : Nat) (x0 x1 x2 x3 x4 x5 x6 x7 : BitVec 8) (w : World) (hl : 9 ≤ len) (hm : len ≤ 140737488355328) (c0 : w.cell? ⟨b, off, none⟩ = some (.int .u8 (W8 x0))) (c1 : w.cell? ⟨b, off + 1, none⟩ = some (.int .u8 (W8 x1))) (c2 : w.cell? ⟨b, off + 2, none⟩ = some (.int .u8 (W8 x2))) (c3 : w.cell? ⟨b, off + 3, none⟩ = some (.int .u8 (W8 x3))) (c4 : w.cell? ⟨b, off + 4, none⟩ = some (.int .u8 (W8 x4))) (c5 : w.cell? ⟨b, off + 5, none⟩ = some (.int .u8 (W8 x5))) (c6 : w.cell? ⟨b, off + 6, none⟩ = some (.int .u8 (W8 x6))) (c7 : w.cell? ⟨b, off + 7, none⟩ = some (.int .u8 (W8 x7))) :
    Calls Tryz.prog 90 #[.slice (some ⟨b, off, none⟩) len cap] w fun e w' => e = .returned (.int .u64 (W64 (((((((((x7).setWidth 64 <<< 56) ||| (x6).setWidth 64 <<< 48) ||| (x5).setWidth 64 <<< 40) ||| (x4).setWidth 64 <<< 32) ||| (x3).setWidth 64 <<< 24) ||| (x2).setWidth 64 <<< 16) ||| (x1).setWidth 64 <<< 8) ||| (x0).setWidth 64))) ∧ w' = w := by
  have hp : (8 : Int) < (len : Int) := by omega
  go_enter Tryz.func90, Tryz.ntmps90
  go_wp2
  go_ret
  exact ⟨ret64 rfl, rfl⟩
set_option maxHeartbeats 1000000 in
theorem tail_0 (a : Option Addr) (cap : Nat) (w : World) :
    Calls Tryz.prog 90 #[.slice a 0 cap] w fun e w' => e = .returned (.int .u64 (W64 0#64)) ∧ w' = w := by
  go_enter Tryz.func90, Tryz.ntmps90
  go_wp2
  go_ret
  exact ⟨rfl, rfl⟩
theorem tail_any (a : Option Addr) (len cap : Nat) (l : List (BitVec 8)) (w : World) (h : BRow w a len cap l) :
    Calls Tryz.prog 90 #[.slice a len cap] w fun e w' => e = .returned (.int .u64 (W64 (num (fun i => l.getD i 0) (min len 8)))) ∧ w' = w := by
  have hm := h.most
  have hl := h.le
  by_cases h0 : len = 0
  · subst h0; exact tail_0 a cap w
  obtain ⟨b, off, rfl, hc⟩ := h.addr (by omega)
  by_cases h1 : len = 1
  · subst h1
    rw [show min 1 8 = 1 from rfl, num_eq1]
    exact tail_1 b off cap _ w (hc 0 (by omega))
  by_cases h2 : len = 2
  · subst h2
    rw [show min 2 8 = 2 from rfl, num_eq2]
    exact tail_2 b off cap _ _ w (hc 0 (by omega)) (hc 1 (by omega))
  by_cases h3 : len = 3
  · subst h3
    rw [show min 3 8 = 3 from rfl, num_eq3]
    exact tail_3 b off cap _ _ _ w (hc 0 (by omega)) (hc 1 (by omega)) (hc 2 (by omega))
  by_cases h4 : len = 4
  · subst h4
    rw [show min 4 8 = 4 from rfl, num_eq4]
    exact tail_4 b off cap _ _ _ _ w (hc 0 (by omega)) (hc 1 (by omega)) (hc 2 (by omega)) (hc 3 (by omega))
  by_cases h5 : len = 5
  · subst h5
    rw [show min 5 8 = 5 from rfl, num_eq5]
    exact tail_5 b off cap _ _ _ _ _ w (hc 0 (by omega)) (hc 1 (by omega)) (hc 2 (by omega)) (hc 3 (by omega)) (hc 4 (by omega))
  by_cases h6 : len = 6
  · subst h6
    rw [show min 6 8 = 6 from rfl, num_eq6]
    exact tail_6 b off cap _ _ _ _ _ _ w (hc 0 (by omega)) (hc 1 (by omega)) (hc 2 (by omega)) (hc 3 (by omega)) (hc 4 (by omega)) (hc 5 (by omega))
  by_cases h7 : len = 7
  · subst h7
    rw [show min 7 8 = 7 from rfl, num_eq7]
    exact tail_7 b off cap _ _ _ _ _ _ _ w (hc 0 (by omega)) (hc 1 (by omega)) (hc 2 (by omega)) (hc 3 (by omega)) (hc 4 (by omega)) (hc 5 (by omega)) (hc 6 (by omega))
  by_cases h8 : len = 8
  · subst h8
    rw [show min 8 8 = 8 from rfl, num_eq8]
    exact tail_8 b off cap _ _ _ _ _ _ _ _ w (hc 0 (by omega)) (hc 1 (by omega)) (hc 2 (by omega)) (hc 3 (by omega)) (hc 4 (by omega)) (hc 5 (by omega)) (hc 6 (by omega)) (hc 7 (by omega))
  rw [show min len 8 = 8 by omega, num_eq8]
  exact tail_9 b off len cap _ _ _ _ _ _ _ _ w (by omega) (by omega) (hc 0 (by omega)) (hc 1 (by omega)) (hc 2 (by omega)) (hc 3 (by omega)) (hc 4 (by omega)) (hc 5 (by omega)) (hc 6 (by omega)) (hc 7 (by omega))
end Go.Proofs.YtoplabhoedloeaaGreat
end
section
/- Contracts of load.Le32, load.Le64 and of the document's own Num, There and Left, Rot32, Rot64, Swap: what each call returns. -/
namespace Go.Proofs.YtoplabhoedloeaaGreat
open Go.RowKit Go.Bv
set_option linter.unusedVariables false
theorem BRow_sub {w : World} {b off len cap k n : Nat} {l : List (BitVec 8)} (h : BRow w (some ⟨b, off, none⟩) len cap l) (hk : k + n ≤ len) :
    BRow w (some ⟨b, off + k, none⟩) n n ((l.drop k).take n) where
  len_eq := by have := h.len_eq; simp; omega
  le := Nat.le_refl _
  most := by have := h.most; omega
  room := by have := h.most; omega
  none := by intro e; cases e
  cell := by
    intro b' off' e i hi
    cases e
    have := h.cell b off rfl (k + i) (by omega)
    rw [Nat.add_assoc, this]
    have e2 : ((l.drop k).take n).getD i 0 = l.getD (k + i) 0 := by
      simp [List.getD_eq_getElem?_getD, hi, List.getElem?_drop]
    rw [e2]
  spot := by intro x e _; cases e; rfl
  old := by intro x e h0; cases e; exact h.old ⟨b, off, Option.none⟩ rfl (by omega)
theorem num_sub (l : List (BitVec 8)) (k n : Nat) : num (fun i => ((l.drop k).take n).getD i 0) n = num (fun i => l.getD (k + i) 0) n :=
  num_congr n (fun i hi => by simp [List.getD_eq_getElem?_getD, hi, List.getElem?_drop])
def rd (l : List (BitVec 8)) (k n : Nat) : BitVec 64 := num (fun i => l.getD (k + i) 0) n
end Go.Proofs.YtoplabhoedloeaaGreat
end
section
/- Contracts of load.Rot32, load.Rot64, load.Swap64 and of the document's own Left, Rot32, Rot64 and Swap: for every word and every number. -/
namespace Go.Proofs.YtoplabhoedloeaaGreat
open Go.RowKit Go.Bv
set_option linter.unusedVariables false
set_option maxHeartbeats 400000 in
theorem rot32_anyD (x : Int) (hx : 0 ≤ x ∧ x < 4294967296) (n : Int) (w : World) :
    Calls Tryz.prog 145 #[.int .u32 x, .int .i64 n] w fun e w' => e = .returned (.int .u32 (W32 ((BitVec.ofInt 32 x).rotateLeft (n % 32).toNat))) ∧ w' = w := by
  obtain ⟨x, rfl⟩ := ex32 x hx
  rw [ofInt_W32]
  go_enter Tryz.func145, Tryz.ntmps145
  go_wp2
  go_ret
  exact ⟨ret32 (rot32_prog x n), rfl⟩
set_option maxHeartbeats 400000 in
theorem rot64_anyD (x : Int) (hx : 0 ≤ x ∧ x < 18446744073709551616) (n : Int) (w : World) :
    Calls Tryz.prog 94 #[.int .u64 x, .int .i64 n] w fun e w' => e = .returned (.int .u64 (W64 ((BitVec.ofInt 64 x).rotateLeft (n % 64).toNat))) ∧ w' = w := by
  obtain ⟨x, rfl⟩ := ex64 x hx
  rw [ofInt_W64]
  go_enter Tryz.func94, Tryz.ntmps94
  go_wp2
  go_ret
  exact ⟨ret64 (rot64_prog x n), rfl⟩
end Go.Proofs.YtoplabhoedloeaaGreat
end
section
/- Contracts of load.Swap64 and of the document's own Swap: for every word. -/
namespace Go.Bv
theorem num_bit (f : Nat → BitVec 8) (n : Nat) : ∀ i, i < 64 → (num f n).getLsbD i = (decide (i < 8 * n) && (f (i / 8)).getLsbD (i % 8)) := by
  induction n generalizing f with
  | zero => intro i hi; simp [num]
  | succ n ih =>
    intro i hi
    rw [num_or]
    simp only [BitVec.getLsbD_or, BitVec.getLsbD_shiftLeft, BitVec.getLsbD_setWidth, hi, decide_true, Bool.true_and]
    by_cases h : i < 8
    · have e : i / 8 = 0 := by omega
      have e2 : i % 8 = i := by omega
      rw [e, e2]
      simp [h]; omega
    · rw [ih _ (i - 8) (by omega), BitVec.getLsbD_of_ge (f 0) i (by omega)]
      have e : (i - 8) / 8 + 1 = i / 8 := by omega
      have e2 : (i - 8) % 8 = i % 8 := by omega
      have e3 : (i - 8 < 8 * n) ↔ (i < 8 * (n + 1)) := by omega
      rw [e, e2]; simp [h, e3]
/-- a byte of a word -/
def byt (x : BitVec 64) (j : Nat) : BitVec 8 := (x >>> (8 * j)).setWidth 8
theorem byt_bit (x : BitVec 64) (j b : Nat) (h : b < 8) : (byt x j).getLsbD b = x.getLsbD (8 * j + b) := by
  unfold byt; simp [h]
theorem num_byt (x : BitVec 64) : num (byt x) 8 = x := by
  apply BitVec.eq_of_getLsbD_eq; intro i hi
  rw [num_bit _ _ i hi, byt_bit _ _ _ (by omega), show 8 * (i / 8) + i % 8 = i by omega]
  simp; omega
/-- the bytes the other way round -/
def rev8 (x : BitVec 64) : BitVec 64 := num (fun i => byt x (7 - i)) 8
theorem byt_num (f : Nat → BitVec 8) (j : Nat) (h : j < 8) : byt (num f 8) j = f j := by
  apply BitVec.eq_of_getLsbD_eq; intro b hb
  rw [byt_bit _ _ _ hb, num_bit _ _ _ (by omega), show (8 * j + b) / 8 = j by omega, show (8 * j + b) % 8 = b by omega]
  simp; omega
theorem rev8_rev8 (x : BitVec 64) : rev8 (rev8 x) = x := by
  conv => rhs; rw [← num_byt x]
  unfold rev8
  apply num_congr
  intro i hi
  rw [byt_num _ _ (by omega)]
  show byt x (7 - (7 - i)) = _
  rw [show 7 - (7 - i) = i by omega]
theorem mod256 (x : BitVec 64) (k : Nat) : x >>> (8 * k) % 256#64 = (byt x k).setWidth 64 := by
  apply BitVec.eq_of_toNat_eq
  unfold byt
  rw [BitVec.toNat_umod, BitVec.toNat_setWidth, BitVec.toNat_setWidth]
  simp only [BitVec.toNat_ofNat, Nat.reducePow, Nat.reduceMod]
  omega
theorem div256 (x : BitVec 64) (k : Nat) : x >>> (8 * k) / 256#64 = x >>> (8 * (k + 1)) := by
  rw [show 8 * (k + 1) = 8 * k + 8 by omega, BitVec.shiftRight_add]
  exact div_shr _ 8 (by omega)
theorem rev_step (x : BitVec 64) (k : Nat) : num (fun i => byt x (k - 1 - i)) k * 256#64 + x >>> (8 * k) % 256#64 = num (fun i => byt x (k - i)) (k + 1) := by
  rw [mod256]
  simp only [num]
  congr 2
  exact num_congr _ (fun i _ => by rw [show k - 1 - i = k - (i + 1) by omega])
end Go.Bv
namespace Go.Proofs.YtoplabhoedloeaaGreat
open Go.RowKit Go.Bv
set_option linter.unusedVariables false
theorem prog_rev (x : BitVec 64) (i : Nat) (hi : i < 64) :
    (((((x >>> 8 &&& 71777214294589695#64) ||| (x &&& 71777214294589695#64) <<< 8) >>> 16 &&& 281470681808895#64) ||| (((x >>> 8 &&& 71777214294589695#64) ||| (x &&& 71777214294589695#64) <<< 8) &&& 281470681808895#64) <<< 16) >>> 32 |||
     ((((x >>> 8 &&& 71777214294589695#64) ||| (x &&& 71777214294589695#64) <<< 8) >>> 16 &&& 281470681808895#64) ||| (((x >>> 8 &&& 71777214294589695#64) ||| (x &&& 71777214294589695#64) <<< 8) &&& 281470681808895#64) <<< 16) <<< 32).getLsbD i = (rev8 x).getLsbD i := by
  rw [rev8, num_bit _ _ _ hi, byt_bit _ _ _ (by omega)]
  have hc : i = 0 ∨ i = 1 ∨ i = 2 ∨ i = 3 ∨ i = 4 ∨ i = 5 ∨ i = 6 ∨ i = 7 ∨ i = 8 ∨ i = 9 ∨ i = 10 ∨ i = 11 ∨ i = 12 ∨ i = 13 ∨ i = 14 ∨ i = 15 ∨ i = 16 ∨ i = 17 ∨ i = 18 ∨ i = 19 ∨ i = 20 ∨ i = 21 ∨ i = 22 ∨ i = 23 ∨ i = 24 ∨ i = 25 ∨ i = 26 ∨ i = 27 ∨ i = 28 ∨ i = 29 ∨ i = 30 ∨ i = 31 ∨ i = 32 ∨ i = 33 ∨ i = 34 ∨ i = 35 ∨ i = 36 ∨ i = 37 ∨ i = 38 ∨ i = 39 ∨ i = 40 ∨ i = 41 ∨ i = 42 ∨ i = 43 ∨ i = 44 ∨ i = 45 ∨ i = 46 ∨ i = 47 ∨ i = 48 ∨ i = 49 ∨ i = 50 ∨ i = 51 ∨ i = 52 ∨ i = 53 ∨ i = 54 ∨ i = 55 ∨ i = 56 ∨ i = 57 ∨ i = 58 ∨ i = 59 ∨ i = 60 ∨ i = 61 ∨ i = 62 ∨ i = 63 := by omega
  rcases hc with rfl | rfl | rfl | rfl | rfl | rfl | rfl | rfl | rfl | rfl | rfl | rfl | rfl | rfl | rfl | rfl | rfl | rfl | rfl | rfl | rfl | rfl | rfl | rfl | rfl | rfl | rfl | rfl | rfl | rfl | rfl | rfl | rfl | rfl | rfl | rfl | rfl | rfl | rfl | rfl | rfl | rfl | rfl | rfl | rfl | rfl | rfl | rfl | rfl | rfl | rfl | rfl | rfl | rfl | rfl | rfl | rfl | rfl | rfl | rfl | rfl | rfl | rfl | rfl <;> simp
end Go.Proofs.YtoplabhoedloeaaGreat
end
section
/- Contracts of load.Put32, load.Put64 and of the document's own Bytes and Both: what each call returns, for all bytes. -/
namespace Go.Proofs.YtoplabhoedloeaaGreat
open Go.RowKit Go.Bv
set_option linter.unusedVariables false
/-- the first n bytes of a word, the lowest first -/
def bytes (x : BitVec 64) (n : Nat) : List (BitVec 8) := (List.range n).map (byt x)
theorem bytes_len (x : BitVec 64) (n : Nat) : (bytes x n).length = n := by simp [bytes]
theorem info_u8 : (Tryz.prog.info? 5).map (fun i => (i.zero, i.size, i.bytes)) = some (some (.int .u8 0), 1, 1) := by kernel_rfl
theorem new_cells (w : World) (cs : Array Value) (t : TypeId) : ∀ j u, cs.toList[j]? = some u → (w.alloc (.cells cs t)).cell? ((⟨w.heap.size, 0, none⟩ : Addr).add j) = some u := by
  intro j u h
  rw [add_plainD, Nat.zero_add, World.cell?_alloc_new]
  simpa using h
theorem put8D (x : BitVec 64) : [Value.int .u8 (W8 (x.setWidth 8)), .int .u8 (W8 ((x >>> 8).setWidth 8)), .int .u8 (W8 ((x >>> 16).setWidth 8)), .int .u8 (W8 ((x >>> 24).setWidth 8)), .int .u8 (W8 ((x >>> 32).setWidth 8)), .int .u8 (W8 ((x >>> 40).setWidth 8)), .int .u8 (W8 ((x >>> 48).setWidth 8)), .int .u8 (W8 ((x >>> 56).setWidth 8))] = (bytes x 8).map fun y => Value.int .u8 (W8 y) := by
  have h0 : x >>> 0 = x := by simp
  conv => lhs; rw [← h0]
  rfl
theorem byt_up (x : BitVec 32) (j : Nat) (h : j < 4) : byt (x.setWidth 64) j = (x >>> (8 * j)).setWidth 8 := by
  apply BitVec.eq_of_getLsbD_eq; intro b hb
  rw [byt_bit _ _ _ hb]
  simp [hb]; omega
theorem put4 (x : BitVec 32) : [Value.int .u8 (W8 (x.setWidth 8)), .int .u8 (W8 ((x >>> 8).setWidth 8)), .int .u8 (W8 ((x >>> 16).setWidth 8)), .int .u8 (W8 ((x >>> 24).setWidth 8))] = (bytes (x.setWidth 64) 4).map fun y => Value.int .u8 (W8 y) := by
  have h0 : x >>> 0 = x := by simp
  have e : bytes (x.setWidth 64) 4 = [x.setWidth 8, (x >>> 8).setWidth 8, (x >>> 16).setWidth 8, (x >>> 24).setWidth 8] := by
    show [byt (x.setWidth 64) 0, byt (x.setWidth 64) 1, byt (x.setWidth 64) 2, byt (x.setWidth 64) 3] = _
    rw [byt_up x 0 (by omega), byt_up x 1 (by omega), byt_up x 2 (by omega), byt_up x 3 (by omega), Nat.mul_zero, h0]
  rw [e]; rfl
theorem low_byte (x : BitVec 64) (k : Nat) : (x >>> (8 * k) % 256#64).setWidth 8 = byt x k := by
  rw [mod256]; apply BitVec.eq_of_getLsbD_eq; intro i hi; simp [hi]
theorem bytes_succ (x : BitVec 64) (k : Nat) : bytes x (k + 1) = bytes x k ++ [byt x k] := by
  unfold bytes; rw [List.range_succ, List.map_append]; rfl
end Go.Proofs.YtoplabhoedloeaaGreat
end
