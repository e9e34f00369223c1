import Derived.Test.YthkmcnlciefnfaaGreatZ4Rot
import Derived.Test.YthkmcnlciefnfaaGreatZ4Frame
import Derived.Test.YthkmcnlciefnfaaGreatProg
import Derived.Test.YthkmcnlciefnfaaGreatZ4New
section
/- Plain lemmas: a slice of bytes that is read: its bytes as a list; the number of bytes, the lowest first. -/
namespace Go.Bv
open Go Go.RowKit
/-- a slice of bytes that reads as l in the world w: its address, its length, its capacity -/
structure BRow (w : World) (a : Option Addr) (len cap : Nat) (l : List (BitVec 8)) : Prop where
  len_eq : l.length = len
  le : len ≤ cap
  most : len ≤ 140737488355328
  room : cap ≤ 9223372036854775807
  none : a = none → len = 0 ∧ cap = 0
  cell : ∀ b off, a = some ⟨b, off, Option.none⟩ → ∀ i, i < len → w.cell? ⟨b, off + i, Option.none⟩ = some (.int .u8 (W8 (l.getD i 0)))
  spot : ∀ x, a = some x → 0 < len → x.spot = Option.none
  old : ∀ x, a = some x → 0 < len → x.block < w.heap.size
theorem BRow.stay {w w' : World} {a : Option Addr} {len cap : Nat} {l : List (BitVec 8)} (h : BRow w a len cap l) (hn : New w w') : BRow w' a len cap l where
  len_eq := h.len_eq
  le := h.le
  most := h.most
  room := h.room
  none := h.none
  cell := fun b off e i hi => by
    have hb := h.old _ e (by omega)
    rw [hn.cell (a := ⟨b, off + i, Option.none⟩) hb]; exact h.cell b off e i hi
  spot := h.spot
  old := fun x e h0 => Nat.lt_of_lt_of_le (h.old x e h0) hn.le
theorem cell_block {w : World} {a : Addr} {v : Value} (h : w.cell? a = some v) : a.block < w.heap.size := by
  rcases Nat.lt_or_ge a.block w.heap.size with h2 | h2
  · exact h2
  · exfalso
    unfold World.cell? at h
    rw [Array.getElem?_eq_none h2] at h
    simp at h
theorem add_plain (b off i : Nat) : (⟨b, off, Option.none⟩ : Addr).add i = ⟨b, off + i, Option.none⟩ := by unfold Addr.add; split <;> simp_all
theorem IRow.bytes {w : World} {a : Option Addr} {len cap : Nat} {zs : List Int} (h : IRow .u8 w a len cap zs) (hr : cap * 1 ≤ 140737488351232) : ∃ l, BRow w a len cap l := by
  rcases h with ⟨rfl, rfl, rfl, rfl⟩ | ⟨x, rfl, hl, hz, hc, hw⟩
  · exact ⟨[], ⟨rfl, Nat.le_refl _, by omega, by omega, fun _ => ⟨rfl, rfl⟩, (fun _ _ e => by cases e), (fun _ e => by cases e), (fun _ e => by cases e)⟩⟩
  · refine ⟨(zs.take len).map (BitVec.ofInt 8), ⟨by simp; omega, hl, by omega, by omega, (fun e => by cases e), ?_, ?_, ?_⟩⟩
    · intro b off e i hi
      cases e
      have := hc i (by omega)
      rw [add_plain] at this
      rw [this]
      have hi2 : i < zs.length := by omega
      have e1 : zs.getD i 0 = zs[i] := by rw [List.getD_eq_getElem?_getD, List.getElem?_eq_getElem hi2]; rfl
      have e2 : ((zs.take len).map (BitVec.ofInt 8)).getD i 0 = BitVec.ofInt 8 zs[i] := by
        rw [List.getD_eq_getElem?_getD, List.getElem?_map, List.getElem?_take, if_pos hi, List.getElem?_eq_getElem hi2]; rfl
      have hwf := hw zs[i] (List.getElem_mem hi2)
      obtain ⟨X, hX⟩ := ex8 zs[i] (by simp [Lit.wf, IntKind.min, IntKind.max, IntKind.signed, IntKind.bits] at hwf; omega)
      rw [e1, e2, hX, ofInt_W8]
    · intro y e h0; cases e; exact World.cell?_spot (hc 0 (by omega))
    · intro y e h0; cases e
      have := cell_block (hc 0 (by omega))
      simpa [Addr.add] using this
/-- a slice with elements has an address -/
theorem BRow.addr {w : World} {a : Option Addr} {len cap : Nat} {l : List (BitVec 8)} (h : BRow w a len cap l) (h0 : 0 < len) :
    ∃ b off, a = some ⟨b, off, Option.none⟩ ∧ ∀ i, i < len → w.cell? ⟨b, off + i, Option.none⟩ = some (.int .u8 (W8 (l.getD i 0))) := by
  cases a with
  | none => have := (h.none rfl).1; omega
  | some x =>
    obtain ⟨b, off, sp⟩ := x
    have hs := h.spot _ rfl h0
    obtain rfl : sp = Option.none := hs
    exact ⟨b, off, rfl, h.cell b off rfl⟩
/-- what append leaves reads as a list of bytes -/
theorem BRow.of_owns {w : World} {base : Nat} {e : TypeId} {v : Value} {n : Nat} {l : List (BitVec 8)} (h : w.ownsRow base e 1 v n (l.map fun x => .int .u8 (W8 x))) (hn : n ≤ 140737488355328) :
    ∃ a cap, v = .slice a n cap ∧ BRow w a n cap l := by
  obtain ⟨hl, h⟩ := h
  rw [List.length_map, Nat.mul_one] at hl
  rcases h with ⟨rfl, rfl⟩ | ⟨g, cap, cur, rfl, _, hc, hle, hm, hs, ht⟩
  · exact ⟨Option.none, 0, rfl, ⟨hl, Nat.le_refl _, by omega, by omega, fun _ => ⟨rfl, rfl⟩, (fun _ _ e => by cases e), (fun _ e => by cases e), (fun _ e => by cases e)⟩⟩
  · have hcell : ∀ i, i < n → w.cell? ⟨g, 0 + i, Option.none⟩ = some (.int .u8 (W8 (l.getD i 0))) := by
      intro i hi
      rw [Nat.zero_add]
      have hi2 : i < l.length := by omega
      have e1 : (cur.toList.take (n * 1))[i]? = some (.int .u8 (W8 (l.getD i 0))) := by
        rw [ht, List.getElem?_map, List.getD_eq_getElem?_getD, List.getElem?_eq_getElem hi2]; rfl
      rw [List.getElem?_take, if_pos (by omega)] at e1
      unfold World.cell?
      simp only [hc]
      simpa using e1
    refine ⟨some ⟨g, 0, Option.none⟩, cap, rfl, ⟨hl, hle, hn, hm, (fun e => by cases e), ?_, ?_, ?_⟩⟩
    · intro b off e i hi; cases e; exact hcell i hi
    · intro x e _; cases e; rfl
    · intro x e h0; cases e; exact cell_block (hcell 0 h0)
/-- the cells of a slice of bytes, as append's law asks for them -/
theorem BRow.olds {w : World} {a : Option Addr} {len cap : Nat} {l : List (BitVec 8)} (h : BRow w a len cap l) :
    ∀ b, a = some b → ∀ j u, (l.map fun x => Value.int .u8 (W8 x))[j]? = some u → w.cell? (b.add j) = some u := by
  intro b e j u hj
  rw [List.getElem?_map] at hj
  have hjl : j < l.length := by
    rcases Nat.lt_or_ge j l.length with h2 | h2
    · exact h2
    · rw [List.getElem?_eq_none h2] at hj; simp at hj
  have hj2 : j < len := by rw [← h.len_eq]; exact hjl
  obtain ⟨b', off, sp⟩ := b
  obtain rfl : sp = Option.none := h.spot _ e (by omega)
  rw [add_plain, h.cell b' off e j hj2, List.getD_eq_getElem?_getD, List.getElem?_eq_getElem hjl]
  rw [List.getElem?_eq_getElem hjl] at hj
  simpa using hj
/-- the number of bytes f 0, f 1 .., the lowest first -/
def num (f : Nat → BitVec 8) : Nat → BitVec 64
  | 0 => 0#64
  | n + 1 => num (fun i => f (i + 1)) n * 256#64 + (f 0).setWidth 64
end Go.Bv
end
section
/- Contracts of load.Tail, load.Le32, load.Le64 and of the document's own Num and There: what each call returns, for all bytes. -/
namespace Go.Proofs.YthkmcnlciefnfaaGreat
open Go.RowKit Go.Bv
set_option linter.unusedVariables false
end Go.Proofs.YthkmcnlciefnfaaGreat
end
section
/- Contracts of load.Le32, load.Le64 and of the document's own Num, There and Left, Rot32, Rot64, Swap: what each call returns. -/
namespace Go.Proofs.YthkmcnlciefnfaaGreat
open Go.RowKit Go.Bv
set_option linter.unusedVariables false
def rd (l : List (BitVec 8)) (k n : Nat) : BitVec 64 := num (fun i => l.getD (k + i) 0) n
end Go.Proofs.YthkmcnlciefnfaaGreat
end
section
/- Contracts of load.Rot32, load.Rot64, load.Swap64 and of the document's own Left, Rot32, Rot64 and Swap: for every word and every number. -/
namespace Go.Proofs.YthkmcnlciefnfaaGreat
open Go.RowKit Go.Bv
set_option linter.unusedVariables false
end Go.Proofs.YthkmcnlciefnfaaGreat
end
section
/- Contracts of load.Swap64 and of the document's own Swap: for every word. -/
namespace Go.Bv
/-- a byte of a word -/
def byt (x : BitVec 64) (j : Nat) : BitVec 8 := (x >>> (8 * j)).setWidth 8
theorem byt_bit (x : BitVec 64) (j b : Nat) (h : b < 8) : (byt x j).getLsbD b = x.getLsbD (8 * j + b) := by
  unfold byt; simp [h]
/-- the bytes the other way round -/
def rev8 (x : BitVec 64) : BitVec 64 := num (fun i => byt x (7 - i)) 8
end Go.Bv
namespace Go.Proofs.YthkmcnlciefnfaaGreat
open Go.RowKit Go.Bv
set_option linter.unusedVariables false
end Go.Proofs.YthkmcnlciefnfaaGreat
end
section
/- Contracts of package mix and of modn.Odd: what each call returns, for every word; nothing that was there in memory changes. -/
namespace Go.Proofs.YthkmcnlciefnfaaGreat
open Go.RowKit Go.Bv
set_option linter.unusedVariables false
/-- the number of bits that n folds by -/
def sh (n : Int) : Nat := (min (max n 1) 63).toNat
def fold (z : BitVec 64) (n : Int) : BitVec 64 := z ^^^ z >>> sh n
set_option maxHeartbeats 400000 in
theorem shift_any (n : Int) (w : World) :
    Calls Tryz.prog 116 #[.int .i64 n] w fun e w' => e = .returned (.int .i64 (sh n)) ∧ w' = w := by
  go_enter Tryz.func116, Tryz.ntmps116
  go_wp2
  all_goals (go_ret; refine ⟨retI ?_, rfl⟩; (try split at *) <;> simp only [sh] <;> omega)
set_option maxHeartbeats 400000 in
theorem fold_anyX (z n : Int) (hz : 0 ≤ z ∧ z < 18446744073709551616) (w : World) :
    Calls Tryz.prog 62 #[.int .u64 z, .int .i64 n] w fun e w' => e = .returned (.int .u64 (W64 (fold (BitVec.ofInt 64 z) n))) ∧ w' = w := by
  obtain ⟨z, rfl⟩ := ex64 z hz
  rw [ofInt_W64]
  go_enter Tryz.func62, Tryz.ntmps62
  go_wp2_with (go_at_call 116; refine (shift_any _ _).mono ?_; rintro e w' ⟨rfl, rfl⟩)
  go_ret
  exact ⟨ret64 rfl, rfl⟩
/-- five steps, one behind the other -/
def chain (g0 g1 g2 g3 g4 : Int → BitVec 64) (z : Int) : BitVec 64 := g4 (W64 (g3 (W64 (g2 (W64 (g1 (W64 (g0 z))))))))
/-- what a step of a mixer promises -/
def Step64 (f : Nat) (g : Int → BitVec 64) : Prop := ∀ (x : Int) (w : World), 0 ≤ x ∧ x < 18446744073709551616 →
  Calls Tryz.prog f #[.int .u64 x] w fun e w' => e = .returned (.int .u64 (W64 (g x))) ∧ w' = w
set_option maxRecDepth 100000 in
set_option maxHeartbeats 400000 in
theorem run_any (f0 f1 f2 f3 f4 : Nat) (g0 g1 g2 g3 g4 : Int → BitVec 64) (h0 : Step64 f0 g0) (h1 : Step64 f1 g1) (h2 : Step64 f2 g2) (h3 : Step64 f3 g3) (h4 : Step64 f4 g4)
    (c0 : ∀ a w, (callFunc f0 a).run Tryz.prog w = .ok (.enter f0 a) w) (c1 : ∀ a w, (callFunc f1 a).run Tryz.prog w = .ok (.enter f1 a) w) (c2 : ∀ a w, (callFunc f2 a).run Tryz.prog w = .ok (.enter f2 a) w) (c3 : ∀ a w, (callFunc f3 a).run Tryz.prog w = .ok (.enter f3 a) w) (c4 : ∀ a w, (callFunc f4 a).run Tryz.prog w = .ok (.enter f4 a) w)
    (z : Int) (hz : 0 ≤ z ∧ z < 18446744073709551616) (W w : World) (hg : New W w) :
    Calls Tryz.prog 60 #[.int .u64 z, .agg #[.func (Fn.func f0) #[] #[], .func (Fn.func f1) #[] #[], .func (Fn.func f2) #[] #[], .func (Fn.func f3) #[] #[], .func (Fn.func f4) #[] #[]]] w
      fun e w' => e = .returned (.int .u64 (W64 (chain g0 g1 g2 g3 g4 z))) ∧ New W w' := by
  have i0 : ∀ w, (Instr.index 111 (.agg #[.func (Fn.func f0) #[] #[], .func (Fn.func f1) #[] #[], .func (Fn.func f2) #[] #[], .func (Fn.func f3) #[] #[], .func (Fn.func f4) #[] #[]]) (.int .i64 0)).run Tryz.prog w = .ok (.func (Fn.func f0) #[] #[]) w := fun _ => rfl
  have i1 : ∀ w, (Instr.index 111 (.agg #[.func (Fn.func f0) #[] #[], .func (Fn.func f1) #[] #[], .func (Fn.func f2) #[] #[], .func (Fn.func f3) #[] #[], .func (Fn.func f4) #[] #[]]) (.int .i64 1)).run Tryz.prog w = .ok (.func (Fn.func f1) #[] #[]) w := fun _ => rfl
  have i2 : ∀ w, (Instr.index 111 (.agg #[.func (Fn.func f0) #[] #[], .func (Fn.func f1) #[] #[], .func (Fn.func f2) #[] #[], .func (Fn.func f3) #[] #[], .func (Fn.func f4) #[] #[]]) (.int .i64 2)).run Tryz.prog w = .ok (.func (Fn.func f2) #[] #[]) w := fun _ => rfl
  have i3 : ∀ w, (Instr.index 111 (.agg #[.func (Fn.func f0) #[] #[], .func (Fn.func f1) #[] #[], .func (Fn.func f2) #[] #[], .func (Fn.func f3) #[] #[], .func (Fn.func f4) #[] #[]]) (.int .i64 3)).run Tryz.prog w = .ok (.func (Fn.func f3) #[] #[]) w := fun _ => rfl
  have i4 : ∀ w, (Instr.index 111 (.agg #[.func (Fn.func f0) #[] #[], .func (Fn.func f1) #[] #[], .func (Fn.func f2) #[] #[], .func (Fn.func f3) #[] #[], .func (Fn.func f4) #[] #[]]) (.int .i64 4)).run Tryz.prog w = .ok (.func (Fn.func f4) #[] #[]) w := fun _ => rfl
  go_enter Tryz.func60, Tryz.ntmps60
  go_wp2
  go_loop [0, 8] (fun t i => (i = .int .i64 0 ∧ t = .int .u64 z) ∨ (i = .int .i64 1 ∧ t = .int .u64 (W64 (g0 z))) ∨ (i = .int .i64 2 ∧ t = .int .u64 (W64 (g1 (W64 (g0 z))))) ∨ (i = .int .i64 3 ∧ t = .int .u64 (W64 (g2 (W64 (g1 (W64 (g0 z))))))) ∨ (i = .int .i64 4 ∧ t = .int .u64 (W64 (g3 (W64 (g2 (W64 (g1 (W64 (g0 z))))))))) ∨ (i = .int .i64 5 ∧ t = .int .u64 (W64 (g4 (W64 (g3 (W64 (g2 (W64 (g1 (W64 (g0 z)))))))))))) (fun _ i => 5 - (intOf i).toNat)
  case atStart => exact .inl ⟨rfl, rfl⟩
  case round =>
    rcases hrel with ⟨rfl, rfl⟩ | ⟨rfl, rfl⟩ | ⟨rfl, rfl⟩ | ⟨rfl, rfl⟩ | ⟨rfl, rfl⟩ | ⟨rfl, rfl⟩
    · go_wp2_with (refine (h0 _ _ hz).mono ?_; rintro e w' ⟨rfl, rfl⟩)
      exact ⟨.inr (.inl ⟨rfl, rfl⟩), by simp [intOf]⟩
    · go_wp2_with (refine (h1 _ _ (b64 _)).mono ?_; rintro e w' ⟨rfl, rfl⟩)
      exact ⟨.inr (.inr (.inl ⟨rfl, rfl⟩)), by simp [intOf]⟩
    · go_wp2_with (refine (h2 _ _ (b64 _)).mono ?_; rintro e w' ⟨rfl, rfl⟩)
      exact ⟨.inr (.inr (.inr (.inl ⟨rfl, rfl⟩))), by simp [intOf]⟩
    · go_wp2_with (refine (h3 _ _ (b64 _)).mono ?_; rintro e w' ⟨rfl, rfl⟩)
      exact ⟨.inr (.inr (.inr (.inr (.inl ⟨rfl, rfl⟩)))), by simp [intOf]⟩
    · go_wp2_with (refine (h4 _ _ (b64 _)).mono ?_; rintro e w' ⟨rfl, rfl⟩)
      exact ⟨.inr (.inr (.inr (.inr (.inr (⟨rfl, rfl⟩))))), by simp [intOf]⟩
    · go_wp2
      go_ret
      exact ⟨rfl, hg.alloc _⟩
end Go.Proofs.YthkmcnlciefnfaaGreat
end
