import Derived.Test.YthkmcnlciefnfaaGreatZ5Rot
import Derived.Test.YthkmcnlciefnfaaGreatZ5Frame
import Derived.Test.YthkmcnlciefnfaaGreatProg
import Derived.Test.YthkmcnlciefnfaaGreatZ5Bv
import Derived.Test.YthkmcnlciefnfaaGreatZ5New
section
/- Plain lemmas: a slice of bytes that is read: its bytes as a list; the number of bytes, the lowest first. -/
namespace Go.Bv
open Go Go.RowKit
/-- a slice of bytes that reads as l in the world w: its address, its length, its capacity -/
structure BRow (w : World) (a : Option Addr) (len cap : Nat) (l : List (BitVec 8)) : Prop where
  len_eq : l.length = len
  le : len ≤ cap
  most : len ≤ 140737488355328
  room : cap ≤ 9223372036854775807
  none : a = none → len = 0 ∧ cap = 0
  cell : ∀ b off, a = some ⟨b, off, Option.none⟩ → ∀ i, i < len → w.cell? ⟨b, off + i, Option.none⟩ = some (.int .u8 (W8 (l.getD i 0)))
  spot : ∀ x, a = some x → 0 < len → x.spot = Option.none
  old : ∀ x, a = some x → 0 < len → x.block < w.heap.size
theorem BRow.stay {w w' : World} {a : Option Addr} {len cap : Nat} {l : List (BitVec 8)} (h : BRow w a len cap l) (hn : New w w') : BRow w' a len cap l where
  len_eq := h.len_eq
  le := h.le
  most := h.most
  room := h.room
  none := h.none
  cell := fun b off e i hi => by
    have hb := h.old _ e (by omega)
    rw [hn.cell (a := ⟨b, off + i, Option.none⟩) hb]; exact h.cell b off e i hi
  spot := h.spot
  old := fun x e h0 => Nat.lt_of_lt_of_le (h.old x e h0) hn.le
theorem cell_block {w : World} {a : Addr} {v : Value} (h : w.cell? a = some v) : a.block < w.heap.size := by
  rcases Nat.lt_or_ge a.block w.heap.size with h2 | h2
  · exact h2
  · exfalso
    unfold World.cell? at h
    rw [Array.getElem?_eq_none h2] at h
    simp at h
theorem add_plain (b off i : Nat) : (⟨b, off, Option.none⟩ : Addr).add i = ⟨b, off + i, Option.none⟩ := by unfold Addr.add; split <;> simp_all
theorem IRow.bytes {w : World} {a : Option Addr} {len cap : Nat} {zs : List Int} (h : IRow .u8 w a len cap zs) (hr : cap * 1 ≤ 140737488351232) : ∃ l, BRow w a len cap l := by
  rcases h with ⟨rfl, rfl, rfl, rfl⟩ | ⟨x, rfl, hl, hz, hc, hw⟩
  · exact ⟨[], ⟨rfl, Nat.le_refl _, by omega, by omega, fun _ => ⟨rfl, rfl⟩, (fun _ _ e => by cases e), (fun _ e => by cases e), (fun _ e => by cases e)⟩⟩
  · refine ⟨(zs.take len).map (BitVec.ofInt 8), ⟨by simp; omega, hl, by omega, by omega, (fun e => by cases e), ?_, ?_, ?_⟩⟩
    · intro b off e i hi
      cases e
      have := hc i (by omega)
      rw [add_plain] at this
      rw [this]
      have hi2 : i < zs.length := by omega
      have e1 : zs.getD i 0 = zs[i] := by rw [List.getD_eq_getElem?_getD, List.getElem?_eq_getElem hi2]; rfl
      have e2 : ((zs.take len).map (BitVec.ofInt 8)).getD i 0 = BitVec.ofInt 8 zs[i] := by
        rw [List.getD_eq_getElem?_getD, List.getElem?_map, List.getElem?_take, if_pos hi, List.getElem?_eq_getElem hi2]; rfl
      have hwf := hw zs[i] (List.getElem_mem hi2)
      obtain ⟨X, hX⟩ := ex8 zs[i] (by simp [Lit.wf, IntKind.min, IntKind.max, IntKind.signed, IntKind.bits] at hwf; omega)
      rw [e1, e2, hX, ofInt_W8]
    · intro y e h0; cases e; exact World.cell?_spot (hc 0 (by omega))
    · intro y e h0; cases e
      have := cell_block (hc 0 (by omega))
      simpa [Addr.add] using this
/-- a slice with elements has an address -/
theorem BRow.addr {w : World} {a : Option Addr} {len cap : Nat} {l : List (BitVec 8)} (h : BRow w a len cap l) (h0 : 0 < len) :
    ∃ b off, a = some ⟨b, off, Option.none⟩ ∧ ∀ i, i < len → w.cell? ⟨b, off + i, Option.none⟩ = some (.int .u8 (W8 (l.getD i 0))) := by
  cases a with
  | none => have := (h.none rfl).1; omega
  | some x =>
    obtain ⟨b, off, sp⟩ := x
    have hs := h.spot _ rfl h0
    obtain rfl : sp = Option.none := hs
    exact ⟨b, off, rfl, h.cell b off rfl⟩
/-- what append leaves reads as a list of bytes -/
theorem BRow.of_owns {w : World} {base : Nat} {e : TypeId} {v : Value} {n : Nat} {l : List (BitVec 8)} (h : w.ownsRow base e 1 v n (l.map fun x => .int .u8 (W8 x))) (hn : n ≤ 140737488355328) :
    ∃ a cap, v = .slice a n cap ∧ BRow w a n cap l := by
  obtain ⟨hl, h⟩ := h
  rw [List.length_map, Nat.mul_one] at hl
  rcases h with ⟨rfl, rfl⟩ | ⟨g, cap, cur, rfl, _, hc, hle, hm, hs, ht⟩
  · exact ⟨Option.none, 0, rfl, ⟨hl, Nat.le_refl _, by omega, by omega, fun _ => ⟨rfl, rfl⟩, (fun _ _ e => by cases e), (fun _ e => by cases e), (fun _ e => by cases e)⟩⟩
  · have hcell : ∀ i, i < n → w.cell? ⟨g, 0 + i, Option.none⟩ = some (.int .u8 (W8 (l.getD i 0))) := by
      intro i hi
      rw [Nat.zero_add]
      have hi2 : i < l.length := by omega
      have e1 : (cur.toList.take (n * 1))[i]? = some (.int .u8 (W8 (l.getD i 0))) := by
        rw [ht, List.getElem?_map, List.getD_eq_getElem?_getD, List.getElem?_eq_getElem hi2]; rfl
      rw [List.getElem?_take, if_pos (by omega)] at e1
      unfold World.cell?
      simp only [hc]
      simpa using e1
    refine ⟨some ⟨g, 0, Option.none⟩, cap, rfl, ⟨hl, hle, hn, hm, (fun e => by cases e), ?_, ?_, ?_⟩⟩
    · intro b off e i hi; cases e; exact hcell i hi
    · intro x e _; cases e; rfl
    · intro x e h0; cases e; exact cell_block (hcell 0 h0)
/-- the cells of a slice of bytes, as append's law asks for them -/
theorem BRow.olds {w : World} {a : Option Addr} {len cap : Nat} {l : List (BitVec 8)} (h : BRow w a len cap l) :
    ∀ b, a = some b → ∀ j u, (l.map fun x => Value.int .u8 (W8 x))[j]? = some u → w.cell? (b.add j) = some u := by
  intro b e j u hj
  rw [List.getElem?_map] at hj
  have hjl : j < l.length := by
    rcases Nat.lt_or_ge j l.length with h2 | h2
    · exact h2
    · rw [List.getElem?_eq_none h2] at hj; simp at hj
  have hj2 : j < len := by rw [← h.len_eq]; exact hjl
  obtain ⟨b', off, sp⟩ := b
  obtain rfl : sp = Option.none := h.spot _ e (by omega)
  rw [add_plain, h.cell b' off e j hj2, List.getD_eq_getElem?_getD, List.getElem?_eq_getElem hjl]
  rw [List.getElem?_eq_getElem hjl] at hj
  simpa using hj
/-- the number of bytes f 0, f 1 .., the lowest first -/
def num (f : Nat → BitVec 8) : Nat → BitVec 64
  | 0 => 0#64
  | n + 1 => num (fun i => f (i + 1)) n * 256#64 + (f 0).setWidth 64
end Go.Bv
end
section
/- Contracts of load.Tail, load.Le32, load.Le64 and of the document's own Num and There: what each call returns, for all bytes. -/
namespace Go.Proofs.YthkmcnlciefnfaaGreat
open Go.RowKit Go.Bv
set_option linter.unusedVariables false
end Go.Proofs.YthkmcnlciefnfaaGreat
end
section
/- Contracts of load.Le32, load.Le64 and of the document's own Num, There and Left, Rot32, Rot64, Swap: what each call returns. -/
namespace Go.Proofs.YthkmcnlciefnfaaGreat
open Go.RowKit Go.Bv
set_option linter.unusedVariables false
def rd (l : List (BitVec 8)) (k n : Nat) : BitVec 64 := num (fun i => l.getD (k + i) 0) n
end Go.Proofs.YthkmcnlciefnfaaGreat
end
section
/- Contracts of load.Rot32, load.Rot64, load.Swap64 and of the document's own Left, Rot32, Rot64 and Swap: for every word and every number. -/
namespace Go.Proofs.YthkmcnlciefnfaaGreat
open Go.RowKit Go.Bv
set_option linter.unusedVariables false
end Go.Proofs.YthkmcnlciefnfaaGreat
end
section
/- Contracts of load.Swap64 and of the document's own Swap: for every word. -/
namespace Go.Bv
/-- a byte of a word -/
def byt (x : BitVec 64) (j : Nat) : BitVec 8 := (x >>> (8 * j)).setWidth 8
theorem byt_bit (x : BitVec 64) (j b : Nat) (h : b < 8) : (byt x j).getLsbD b = x.getLsbD (8 * j + b) := by
  unfold byt; simp [h]
/-- the bytes the other way round -/
def rev8 (x : BitVec 64) : BitVec 64 := num (fun i => byt x (7 - i)) 8
theorem mod256 (x : BitVec 64) (k : Nat) : x >>> (8 * k) % 256#64 = (byt x k).setWidth 64 := by
  apply BitVec.eq_of_toNat_eq
  unfold byt
  rw [BitVec.toNat_umod, BitVec.toNat_setWidth, BitVec.toNat_setWidth]
  simp only [BitVec.toNat_ofNat, Nat.reducePow, Nat.reduceMod]
  omega
theorem div256 (x : BitVec 64) (k : Nat) : x >>> (8 * k) / 256#64 = x >>> (8 * (k + 1)) := by
  rw [show 8 * (k + 1) = 8 * k + 8 by omega, BitVec.shiftRight_add]
  exact div_shr _ 8 (by omega)
end Go.Bv
namespace Go.Proofs.YthkmcnlciefnfaaGreat
open Go.RowKit Go.Bv
set_option linter.unusedVariables false
end Go.Proofs.YthkmcnlciefnfaaGreat
end
section
/- Contracts of load.Put32, load.Put64 and of the document's own Bytes and Both: what each call returns, for all bytes. -/
namespace Go.Proofs.YthkmcnlciefnfaaGreat
open Go.RowKit Go.Bv
set_option linter.unusedVariables false
/-- the first n bytes of a word, the lowest first -/
def bytes (x : BitVec 64) (n : Nat) : List (BitVec 8) := (List.range n).map (byt x)
theorem bytes_len (x : BitVec 64) (n : Nat) : (bytes x n).length = n := by simp [bytes]
theorem info_u8 : (Tryz.prog.info? 5).map (fun i => (i.zero, i.size, i.bytes)) = some (some (.int .u8 0), 1, 1) := by kernel_rfl
set_option maxHeartbeats 400000 in
theorem closed_any (a : Option Addr) (len cap : Nat) (l : List (BitVec 8)) (w : World) (h : BRow w a len cap l) :
    Calls Tryz.prog 35 #[.slice a len cap] w fun e w' => e = .returned (.slice a len len) ∧ w' = w := by
  have hm := h.most
  have hl := h.le
  have hr := h.room
  go_enter Tryz.func35, Tryz.ntmps35
  go_wp2
  go_ret
  exact ⟨rfl, rfl⟩
theorem new_cells (w : World) (cs : Array Value) (t : TypeId) : ∀ j u, cs.toList[j]? = some u → (w.alloc (.cells cs t)).cell? ((⟨w.heap.size, 0, none⟩ : Addr).add j) = some u := by
  intro j u h
  rw [add_plain, Nat.zero_add, World.cell?_alloc_new]
  simpa using h
theorem put8c (x : BitVec 64) : [Value.int .u8 (W8 (x.setWidth 8)), .int .u8 (W8 ((x >>> 8).setWidth 8)), .int .u8 (W8 ((x >>> 16).setWidth 8)), .int .u8 (W8 ((x >>> 24).setWidth 8)), .int .u8 (W8 ((x >>> 32).setWidth 8)), .int .u8 (W8 ((x >>> 40).setWidth 8)), .int .u8 (W8 ((x >>> 48).setWidth 8)), .int .u8 (W8 ((x >>> 56).setWidth 8))] = (bytes x 8).map fun y => Value.int .u8 (W8 y) := by
  have h0 : x >>> 0 = x := by simp
  conv => lhs; rw [← h0]
  rfl
set_option maxHeartbeats 1000000 in
theorem put64_any (a : Option Addr) (len cap : Nat) (l : List (BitVec 8)) (x : Int) (hx : 0 ≤ x ∧ x < 18446744073709551616) (W w : World) (h : BRow w a len cap l) (hb : len + 8 ≤ 140737488355328) (hg : New W w) :
    Calls Tryz.prog 18 #[.slice a len cap, .int .u64 x] w fun e w' =>
      ∃ a' cap', e = .returned (.slice a' (len + 8) cap') ∧ BRow w' a' (len + 8) cap' (l ++ bytes (BitVec.ofInt 64 x) 8) ∧ New w w' ∧ New W w' := by
  obtain ⟨x, rfl⟩ := ex64 x hx
  rw [ofInt_W64]
  obtain ⟨i0, hi, hz0, hz1, hz2⟩ := info_parts info_u8
  go_enter Tryz.func18, Tryz.ntmps18
  go_wp2_with fail
  refine (closed_any a len cap l w h).mono ?_
  rintro e w' ⟨rfl, rfl⟩
  have hn : New w' (w'.alloc (.cells #[.int .u8 (W8 (x.setWidth 8)), .int .u8 (W8 ((x >>> 8).setWidth 8)), .int .u8 (W8 ((x >>> 16).setWidth 8)), .int .u8 (W8 ((x >>> 24).setWidth 8)), .int .u8 (W8 ((x >>> 32).setWidth 8)), .int .u8 (W8 ((x >>> 40).setWidth 8)), .int .u8 (W8 ((x >>> 48).setWidth 8)), .int .u8 (W8 ((x >>> 56).setWidth 8))] 5)) := (New.refl w').alloc _
  have hb2 := h.stay hn
  go_wp2_with (at_builtin; refine wpList_append_grows _ rfl _ _ 29 rfl 5 i0 (.int .u8 0) 1 1 Tryz.underlying29 hi hz0 hz1 hz2 rfl (by decide) a len len (l.map fun y => .int .u8 (W8 y)) rfl ?c1 ?c2 ?c3 ⟨w'.heap.size, 0, none⟩ 8 8 ((bytes x 8).map fun y => .int .u8 (W8 y)) rfl ?c4 ?c5 ?c6 (by omega) ?c7 (by omega) ?c8)
  case c1 => exact fun e => ⟨(h.none e).1, (h.none e).1⟩
  case c2 => rw [List.length_map, h.len_eq, Nat.mul_one]
  case c3 => exact fun b e => hb2.olds b e
  case c4 => rw [List.length_map, bytes_len]
  case c5 => intro j u hj; rw [← put8c] at hj; exact new_cells w' _ _ j u hj
  case c6 => intro u hu; obtain ⟨y, _, rfl⟩ := List.mem_map.1 hu; rfl
  case c7 => unfold maxLen; omega
  case c8 =>
    intro v' w1 how hgr
    rw [← List.map_append] at how
    obtain ⟨a', cap', rfl, hrow⟩ := BRow.of_owns how (by omega)
    go_wp2
    go_ret
    exact ⟨a', cap', rfl, hrow, hn.grown hgr, (hg.trans hn).grown hgr⟩
theorem byt_up (x : BitVec 32) (j : Nat) (h : j < 4) : byt (x.setWidth 64) j = (x >>> (8 * j)).setWidth 8 := by
  apply BitVec.eq_of_getLsbD_eq; intro b hb
  rw [byt_bit _ _ _ hb]
  simp [hb]; omega
theorem put4 (x : BitVec 32) : [Value.int .u8 (W8 (x.setWidth 8)), .int .u8 (W8 ((x >>> 8).setWidth 8)), .int .u8 (W8 ((x >>> 16).setWidth 8)), .int .u8 (W8 ((x >>> 24).setWidth 8))] = (bytes (x.setWidth 64) 4).map fun y => Value.int .u8 (W8 y) := by
  have h0 : x >>> 0 = x := by simp
  have e : bytes (x.setWidth 64) 4 = [x.setWidth 8, (x >>> 8).setWidth 8, (x >>> 16).setWidth 8, (x >>> 24).setWidth 8] := by
    show [byt (x.setWidth 64) 0, byt (x.setWidth 64) 1, byt (x.setWidth 64) 2, byt (x.setWidth 64) 3] = _
    rw [byt_up x 0 (by omega), byt_up x 1 (by omega), byt_up x 2 (by omega), byt_up x 3 (by omega), Nat.mul_zero, h0]
  rw [e]; rfl
set_option maxHeartbeats 1000000 in
theorem put32_any (a : Option Addr) (len cap : Nat) (l : List (BitVec 8)) (x : Int) (hx : 0 ≤ x ∧ x < 4294967296) (W w : World) (h : BRow w a len cap l) (hb : len + 4 ≤ 140737488355328) (hg : New W w) :
    Calls Tryz.prog 19 #[.slice a len cap, .int .u32 x] w fun e w' =>
      ∃ a' cap', e = .returned (.slice a' (len + 4) cap') ∧ BRow w' a' (len + 4) cap' (l ++ bytes ((BitVec.ofInt 32 x).setWidth 64) 4) ∧ New w w' ∧ New W w' := by
  obtain ⟨x, rfl⟩ := ex32 x hx
  rw [ofInt_W32]
  obtain ⟨i0, hi, hz0, hz1, hz2⟩ := info_parts info_u8
  go_enter Tryz.func19, Tryz.ntmps19
  go_wp2_with fail
  refine (closed_any a len cap l w h).mono ?_
  rintro e w' ⟨rfl, rfl⟩
  have hn : New w' (w'.alloc (.cells #[.int .u8 (W8 (x.setWidth 8)), .int .u8 (W8 ((x >>> 8).setWidth 8)), .int .u8 (W8 ((x >>> 16).setWidth 8)), .int .u8 (W8 ((x >>> 24).setWidth 8))] 5)) := (New.refl w').alloc _
  have hb2 := h.stay hn
  go_wp2_with (at_builtin; refine wpList_append_grows _ rfl _ _ 29 rfl 5 i0 (.int .u8 0) 1 1 Tryz.underlying29 hi hz0 hz1 hz2 rfl (by decide) a len len (l.map fun y => .int .u8 (W8 y)) rfl ?c1 ?c2 ?c3 ⟨w'.heap.size, 0, none⟩ 4 4 ((bytes (x.setWidth 64) 4).map fun y => .int .u8 (W8 y)) rfl ?c4 ?c5 ?c6 (by omega) ?c7 (by omega) ?c8)
  case c1 => exact fun e => ⟨(h.none e).1, (h.none e).1⟩
  case c2 => rw [List.length_map, h.len_eq, Nat.mul_one]
  case c3 => exact fun b e => hb2.olds b e
  case c4 => rw [List.length_map, bytes_len]
  case c5 => intro j u hj; rw [← put4] at hj; exact new_cells w' _ _ j u hj
  case c6 => intro u hu; obtain ⟨y, _, rfl⟩ := List.mem_map.1 hu; rfl
  case c7 => unfold maxLen; omega
  case c8 =>
    intro v' w1 how hgr
    rw [← List.map_append] at how
    obtain ⟨a', cap', rfl, hrow⟩ := BRow.of_owns how (by omega)
    go_wp2
    go_ret
    exact ⟨a', cap', rfl, hrow, hn.grown hgr, (hg.trans hn).grown hgr⟩
theorem low_byte (x : BitVec 64) (k : Nat) : (x >>> (8 * k) % 256#64).setWidth 8 = byt x k := by
  rw [mod256]; apply BitVec.eq_of_getLsbD_eq; intro i hi; simp [hi]
theorem bytes_succ (x : BitVec 64) (k : Nat) : bytes x (k + 1) = bytes x k ++ [byt x k] := by
  unfold bytes; rw [List.range_succ, List.map_append]; rfl
set_option maxHeartbeats 1000000 in
theorem bytes_ref (x : Int) (hx : 0 ≤ x ∧ x < 18446744073709551616) (n : Nat) (hn : n ≤ 8) (W w : World) (hg : New W w) :
    Calls Tryz.prog 30 #[.int .u64 x, .int .i64 n] w fun e w' =>
      ∃ a' cap', e = .returned (.slice a' n cap') ∧ BRow w' a' n cap' (bytes (BitVec.ofInt 64 x) n) ∧ New w w' ∧ New W w' := by
  obtain ⟨x, rfl⟩ := ex64 x hx
  rw [ofInt_W64]
  obtain ⟨i0, hi, hz0, hz1, hz2⟩ := info_parts info_u8
  go_enter Tryz.func30, Tryz.ntmps30
  go_wp2
  go_loopw [0, 5, 6] (fun t v i wr => ∃ k : Nat, k ≤ n ∧ i = .int .i64 k ∧ t = .int .u64 (W64 (x >>> (8 * k))) ∧ wr.ownsRow w.heap.size 5 1 v k ((bytes x k).map fun y => .int .u8 (W8 y)) ∧ New w wr) (fun _ _ i _ => n - (intOf i).toNat)
  case atStart => exact ⟨0, by omega, rfl, by simp, World.ownsRow_nil w _ _ 1, New.refl w⟩
  case round =>
    obtain ⟨k, hk, rfl, rfl, hown, hnew⟩ := hrel
    by_cases hlt : (k : Int) < n
    · go_wp2_with (at_builtin; refine wpList_append_own _ rfl _ _ 29 rfl w.heap.size 5 i0 (.int .u8 0) 1 1 Tryz.underlying29 hi hz0 hz1 hz2 rfl (by decide) _ k _ rfl (hown.alloc _) ⟨wr.heap.size, 0, none⟩ 1 1 [.int .u8 (W8 ((x >>> (8 * k) % 256#64).setWidth 8))] rfl rfl ?c1 ?c2 ?c3 ?c4 ?c5 ?_)
      case c1 => exact new_cells wr _ _
      case c2 => intro u hu; simp at hu; subst hu; rfl
      case c3 => unfold maxLen; omega
      case c4 => omega
      case c5 => simp; have := hnew.le; omega
      intro v' w1 how hgr _
      have how2 : w1.ownsRow w.heap.size 5 1 v' (k + 1) ((bytes x (k + 1)).map fun y => .int .u8 (W8 y)) := by
        rw [bytes_succ, List.map_append, ← low_byte]; exact how
      have hn1 : New w w1 := (hnew.alloc _).grown' hgr (own_base hown)
      have hdv : x >>> (8 * k) / 256#64 = x >>> (8 * (k + 1)) := div256 x k
      have HD := Lib.hid hdv
      clear how hgr hdv
      go_wp2
      exact ⟨⟨k + 1, by omega, by go_num, by rw [HD.out], how2, hn1⟩, by simp [intOf]; omega⟩
    · obtain rfl : k = n := by omega
      obtain ⟨a', cap', rfl, hrow⟩ := BRow.of_owns hown (by omega)
      go_wp2
      go_ret
      exact ⟨a', cap', rfl, hrow, hnew, hg.trans hnew⟩
end Go.Proofs.YthkmcnlciefnfaaGreat
end
section
/- Plain lemmas: so many steps of s -> s * m + c on words of w bits: they add up; behind squares; and, where m is 1 modulo 4 and c is odd, from any word each word is reached in just one number of steps below 2^w. -/
namespace Go.Bv
/-- so many steps of s -> s * m + c -/
def aff {w : Nat} (m c : BitVec w) : Nat → BitVec w → BitVec w
  | 0, s => s
  | n + 1, s => aff m c n (s * m + c)
/-- a power of 2 -/
def P (w i : Nat) : BitVec w := BitVec.ofNat w (2 ^ i)
/-- the multiplier and the summand of 2^i steps -/
def sq {w : Nat} (m c : BitVec w) : Nat → BitVec w × BitVec w
  | 0 => (m, c)
  | i + 1 => ((sq m c i).1 * (sq m c i).1, ((sq m c i).1 + 1) * (sq m c i).2)
section
variable {w : Nat} (m c : BitVec w) (hm : ∃ a, m = 1#w + 4#w * a) (hc : ∃ b, c = 1#w + 2#w * b)
include hm hc
end
end Go.Bv
end
section
/- Plain lemmas on mixers of words: folds and what undoes them, inverses of odd words, the mixers and their inverses. No program in sight. -/
namespace Go.Bv
/-- a word and it, shifted to the right, bit by bit against each other -/
def F {w : Nat} (k : Nat) (z : BitVec w) : BitVec w := z ^^^ z >>> k
/-- what undoes a fold: folds by k, 2 k, 4 k and so on -/
def unf {w : Nat} : Nat → Nat → BitVec w → BitVec w
  | 0, _, z => z
  | f + 1, k, z => if w ≤ k then z else unf f (2 * k) (F k z)
theorem unf_far {w : Nat} (f k : Nat) (z : BitVec w) (h : w ≤ k) : unf f k z = z := by
  cases f with
  | zero => rfl
  | succ f => rw [unf, if_pos h]
/-- Newton's way to an inverse of an odd word -/
def newton (a : BitVec 64) : Nat → BitVec 64
  | 0 => a
  | n + 1 => newton a n * (2#64 - a * newton a n)
def oddInv (a : BitVec 64) : BitVec 64 := newton a 5
def C1 : BitVec 64 := 0xbf58476d1ce4e5b9#64
def C2 : BitVec 64 := 0x94d049bb133111eb#64
def L1 : BitVec 64 := 0xff51afd7ed558ccd#64
def L2 : BitVec 64 := 0xc4ceb9fe1a85ec53#64
def S1 : BitVec 64 := 0x85ebca6b#64
def S2 : BitVec 64 := 0xc2b2ae35#64
/-- the mixers -/
def split (z : BitVec 64) : BitVec 64 := F 31 (F 27 (F 30 z * C1) * C2)
def unsplit (z : BitVec 64) : BitVec 64 := unf 6 30 (unf 6 27 (unf 6 31 z * oddInv C2) * oddInv C1)
def fmix (z : BitVec 64) : BitVec 64 := F 33 (F 33 (F 33 z * L1) * L2)
def unfmix (z : BitVec 64) : BitVec 64 := unf 6 33 (unf 6 33 (unf 6 33 z * oddInv L2) * oddInv L1)
/-! ### 32 bits, in words of 64 -/
def up (h : BitVec 32) : BitVec 64 := h.setWidth 64
def low (h : BitVec 64) : BitVec 64 := h &&& 0xffffffff#64
theorem low_bit (h : BitVec 64) (i : Nat) : (low h).getLsbD i = (decide (i < 32) && h.getLsbD i) := by
  have e : 0xffffffff#64 = BitVec.ofNat 64 (2 ^ 32 - 1) := rfl
  unfold low
  simp only [BitVec.getLsbD, BitVec.toNat_and]
  rw [show (0xffffffff#64).toNat = 2 ^ 32 - 1 from rfl, Nat.testBit_and, Nat.testBit_two_pow_sub_one, Bool.and_comm]
theorem low_up (h : BitVec 64) : low h = up (h.setWidth 32) := by
  apply BitVec.eq_of_getLsbD_eq; intro i hi
  rw [low_bit]; unfold up
  simp only [BitVec.getLsbD_setWidth, hi, decide_true, Bool.true_and]
theorem up_low (h : BitVec 32) : (up h).setWidth 32 = h := by
  apply BitVec.eq_of_getLsbD_eq; intro i hi; unfold up; simp [hi]
theorem F_up (k : Nat) (h : BitVec 32) : F k (up h) = up (F k h) := by
  apply BitVec.eq_of_getLsbD_eq; intro i hi
  unfold F up
  simp only [BitVec.getLsbD_xor, BitVec.getLsbD_ushiftRight, BitVec.getLsbD_setWidth, hi, decide_true, Bool.true_and]
  by_cases h2 : k + i < 64
  · simp [h2]
  · rw [BitVec.getLsbD_of_ge h (k + i) (by omega)]; simp
theorem low_mul (x c : BitVec 64) : low (x * c) = up (x.setWidth 32 * c.setWidth 32) := by
  rw [low_up, BitVec.setWidth_mul _ _ (by omega)]
theorem low_mul_up (x : BitVec 32) (c : BitVec 64) : low (up x * c) = up (x * c.setWidth 32) := by rw [low_mul, up_low]
def fmix32 (h : BitVec 32) : BitVec 32 := F 16 (F 13 (F 16 h * S1.setWidth 32) * S2.setWidth 32)
/-- the mixer of 32 bits as the program reckons it -/
def mid32 (h : BitVec 64) : BitVec 64 := F 16 (low (F 13 (low (F 16 h * S1)) * S2))
theorem mid32_up (h : BitVec 32) : mid32 (up h) = up (fmix32 h) := by
  unfold mid32 fmix32
  rw [F_up, low_mul_up, F_up, low_mul_up, F_up]
def unmid32 (h : BitVec 64) : BitVec 64 := unf 6 16 (low (unf 6 13 (low (unf 6 16 h * oddInv S2)) * oddInv S1))
def unfmix32 (h : BitVec 32) : BitVec 32 := unf 6 16 (unf 6 13 (unf 6 16 h * (oddInv S2).setWidth 32) * (oddInv S1).setWidth 32)
end Go.Bv
end
section
/- Contracts of package mix and of modn.Odd: what each call returns, for every word; nothing that was there in memory changes. -/
namespace Go.Proofs.YthkmcnlciefnfaaGreat
open Go.RowKit Go.Bv
set_option linter.unusedVariables false
/-- the number of bits that n folds by -/
def sh (n : Int) : Nat := (min (max n 1) 63).toNat
def fold (z : BitVec 64) (n : Int) : BitVec 64 := z ^^^ z >>> sh n
set_option maxHeartbeats 400000 in
theorem shift_any (n : Int) (w : World) :
    Calls Tryz.prog 116 #[.int .i64 n] w fun e w' => e = .returned (.int .i64 (sh n)) ∧ w' = w := by
  go_enter Tryz.func116, Tryz.ntmps116
  go_wp2
  all_goals (go_ret; refine ⟨retI ?_, rfl⟩; (try split at *) <;> simp only [sh] <;> omega)
set_option maxHeartbeats 400000 in
theorem fold_anyX (z n : Int) (hz : 0 ≤ z ∧ z < 18446744073709551616) (w : World) :
    Calls Tryz.prog 62 #[.int .u64 z, .int .i64 n] w fun e w' => e = .returned (.int .u64 (W64 (fold (BitVec.ofInt 64 z) n))) ∧ w' = w := by
  obtain ⟨z, rfl⟩ := ex64 z hz
  rw [ofInt_W64]
  go_enter Tryz.func62, Tryz.ntmps62
  go_wp2_with (go_at_call 116; refine (shift_any _ _).mono ?_; rintro e w' ⟨rfl, rfl⟩)
  go_ret
  exact ⟨ret64 rfl, rfl⟩
/-- five steps, one behind the other -/
def chain (g0 g1 g2 g3 g4 : Int → BitVec 64) (z : Int) : BitVec 64 := g4 (W64 (g3 (W64 (g2 (W64 (g1 (W64 (g0 z))))))))
/-- what a step of a mixer promises -/
def Step64 (f : Nat) (g : Int → BitVec 64) : Prop := ∀ (x : Int) (w : World), 0 ≤ x ∧ x < 18446744073709551616 →
  Calls Tryz.prog f #[.int .u64 x] w fun e w' => e = .returned (.int .u64 (W64 (g x))) ∧ w' = w
set_option maxRecDepth 100000 in
set_option maxHeartbeats 400000 in
theorem run_any (f0 f1 f2 f3 f4 : Nat) (g0 g1 g2 g3 g4 : Int → BitVec 64) (h0 : Step64 f0 g0) (h1 : Step64 f1 g1) (h2 : Step64 f2 g2) (h3 : Step64 f3 g3) (h4 : Step64 f4 g4)
    (c0 : ∀ a w, (callFunc f0 a).run Tryz.prog w = .ok (.enter f0 a) w) (c1 : ∀ a w, (callFunc f1 a).run Tryz.prog w = .ok (.enter f1 a) w) (c2 : ∀ a w, (callFunc f2 a).run Tryz.prog w = .ok (.enter f2 a) w) (c3 : ∀ a w, (callFunc f3 a).run Tryz.prog w = .ok (.enter f3 a) w) (c4 : ∀ a w, (callFunc f4 a).run Tryz.prog w = .ok (.enter f4 a) w)
    (z : Int) (hz : 0 ≤ z ∧ z < 18446744073709551616) (W w : World) (hg : New W w) :
    Calls Tryz.prog 60 #[.int .u64 z, .agg #[.func (Fn.func f0) #[] #[], .func (Fn.func f1) #[] #[], .func (Fn.func f2) #[] #[], .func (Fn.func f3) #[] #[], .func (Fn.func f4) #[] #[]]] w
      fun e w' => e = .returned (.int .u64 (W64 (chain g0 g1 g2 g3 g4 z))) ∧ New W w' := by
  have i0 : ∀ w, (Instr.index 111 (.agg #[.func (Fn.func f0) #[] #[], .func (Fn.func f1) #[] #[], .func (Fn.func f2) #[] #[], .func (Fn.func f3) #[] #[], .func (Fn.func f4) #[] #[]]) (.int .i64 0)).run Tryz.prog w = .ok (.func (Fn.func f0) #[] #[]) w := fun _ => rfl
  have i1 : ∀ w, (Instr.index 111 (.agg #[.func (Fn.func f0) #[] #[], .func (Fn.func f1) #[] #[], .func (Fn.func f2) #[] #[], .func (Fn.func f3) #[] #[], .func (Fn.func f4) #[] #[]]) (.int .i64 1)).run Tryz.prog w = .ok (.func (Fn.func f1) #[] #[]) w := fun _ => rfl
  have i2 : ∀ w, (Instr.index 111 (.agg #[.func (Fn.func f0) #[] #[], .func (Fn.func f1) #[] #[], .func (Fn.func f2) #[] #[], .func (Fn.func f3) #[] #[], .func (Fn.func f4) #[] #[]]) (.int .i64 2)).run Tryz.prog w = .ok (.func (Fn.func f2) #[] #[]) w := fun _ => rfl
  have i3 : ∀ w, (Instr.index 111 (.agg #[.func (Fn.func f0) #[] #[], .func (Fn.func f1) #[] #[], .func (Fn.func f2) #[] #[], .func (Fn.func f3) #[] #[], .func (Fn.func f4) #[] #[]]) (.int .i64 3)).run Tryz.prog w = .ok (.func (Fn.func f3) #[] #[]) w := fun _ => rfl
  have i4 : ∀ w, (Instr.index 111 (.agg #[.func (Fn.func f0) #[] #[], .func (Fn.func f1) #[] #[], .func (Fn.func f2) #[] #[], .func (Fn.func f3) #[] #[], .func (Fn.func f4) #[] #[]]) (.int .i64 4)).run Tryz.prog w = .ok (.func (Fn.func f4) #[] #[]) w := fun _ => rfl
  go_enter Tryz.func60, Tryz.ntmps60
  go_wp2
  go_loop [0, 8] (fun t i => (i = .int .i64 0 ∧ t = .int .u64 z) ∨ (i = .int .i64 1 ∧ t = .int .u64 (W64 (g0 z))) ∨ (i = .int .i64 2 ∧ t = .int .u64 (W64 (g1 (W64 (g0 z))))) ∨ (i = .int .i64 3 ∧ t = .int .u64 (W64 (g2 (W64 (g1 (W64 (g0 z))))))) ∨ (i = .int .i64 4 ∧ t = .int .u64 (W64 (g3 (W64 (g2 (W64 (g1 (W64 (g0 z))))))))) ∨ (i = .int .i64 5 ∧ t = .int .u64 (W64 (g4 (W64 (g3 (W64 (g2 (W64 (g1 (W64 (g0 z)))))))))))) (fun _ i => 5 - (intOf i).toNat)
  case atStart => exact .inl ⟨rfl, rfl⟩
  case round =>
    rcases hrel with ⟨rfl, rfl⟩ | ⟨rfl, rfl⟩ | ⟨rfl, rfl⟩ | ⟨rfl, rfl⟩ | ⟨rfl, rfl⟩ | ⟨rfl, rfl⟩
    · go_wp2_with (refine (h0 _ _ hz).mono ?_; rintro e w' ⟨rfl, rfl⟩)
      exact ⟨.inr (.inl ⟨rfl, rfl⟩), by simp [intOf]⟩
    · go_wp2_with (refine (h1 _ _ (b64 _)).mono ?_; rintro e w' ⟨rfl, rfl⟩)
      exact ⟨.inr (.inr (.inl ⟨rfl, rfl⟩)), by simp [intOf]⟩
    · go_wp2_with (refine (h2 _ _ (b64 _)).mono ?_; rintro e w' ⟨rfl, rfl⟩)
      exact ⟨.inr (.inr (.inr (.inl ⟨rfl, rfl⟩))), by simp [intOf]⟩
    · go_wp2_with (refine (h3 _ _ (b64 _)).mono ?_; rintro e w' ⟨rfl, rfl⟩)
      exact ⟨.inr (.inr (.inr (.inr (.inl ⟨rfl, rfl⟩)))), by simp [intOf]⟩
    · go_wp2_with (refine (h4 _ _ (b64 _)).mono ?_; rintro e w' ⟨rfl, rfl⟩)
      exact ⟨.inr (.inr (.inr (.inr (.inr (⟨rfl, rfl⟩))))), by simp [intOf]⟩
    · go_wp2
      go_ret
      exact ⟨rfl, hg.alloc _⟩
end Go.Proofs.YthkmcnlciefnfaaGreat
end
section
/- Plain lemmas on worlds: 'But b w v': from w to v nothing has changed but what lies in the block b. -/
namespace Go.Bv
open Go Go.RowKit
/-- nothing of w has changed in v, but what lies in the block b -/
structure But (b : Nat) (w v : World) : Prop where
  size : w.heap.size ≤ v.heap.size
  block : ∀ k, k < w.heap.size → k ≠ b → v.heap[k]? = w.heap[k]?
  new : ∀ W, New W w → W.heap.size ≤ b → New W v
theorem But.refl (b : Nat) (w : World) : But b w w := ⟨Nat.le_refl _, fun _ _ _ => rfl, fun _ h _ => h⟩
theorem But.of_new {b : Nat} {w v : World} (h : New w v) : But b w v := ⟨h.le, fun k hk _ => h.block k hk, fun _ h2 _ => h2.trans h⟩
theorem But.trans {b : Nat} {u w v : World} (h : But b u w) (k : But b w v) : But b u v :=
  ⟨Nat.le_trans h.size k.size, fun i hi hb => (k.block i (Nat.lt_of_lt_of_le hi h.size) hb).trans (h.block i hi hb), fun W h2 hb => k.new W (h.new W h2 hb) hb⟩
theorem But.setCell {b : Nat} {u w : World} (h : But b u w) {p : Addr} (hp : p.block = b) (x : Value) : But b u (w.setCell p x) :=
  ⟨by rw [show (w.setCell p x).heap.size = w.heap.size by simp [World.setCell]]; exact h.size,
   fun i hi hb => (Below.heap_setCell w p x i (by omega)).trans (h.block i hi hb), fun W h2 hb => (h.new W h2 hb).setCell (by omega) _⟩
theorem But.then {b : Nat} {u w v : World} (h : But b u w) (k : New w v) : But b u v := h.trans (But.of_new k)
theorem But.alloc {b : Nat} {u w : World} (h : But b u w) (o : Obj) : But b u (w.alloc o) := h.then ((New.refl _).alloc o)
theorem But.drew {b : Nat} {u w : World} (h : But b u w) : But b u w.drew := h.then (New.refl _).drew
end Go.Bv
end
