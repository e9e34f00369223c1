import Derived.Test.YtebcfbcfipmahaaGreatZ3WidQ
import Derived.Test.YtebcfbcfipmahaaGreatZ3Frame
import Derived.Deep.RegionLaw
import Derived.Deep.RegionWith
import Derived.Handy
import Derived.Test.YtebcfbcfipmahaaGreatZ3ModC
section
/- Numbers of 128 bits in two words: the contracts of wide once more; odd, add and Times of pcg64. · Contracts of pcg64: oneStep, on, Step, Out, Next. · Contracts of pcg64: Out, Next; the document's own Out. -/
namespace Go.Bv
open Go Go.RowKit
def hi128 (x : BitVec 128) : BitVec 64 := x.extractLsb' 64 64
def lo128 (x : BitVec 128) : BitVec 64 := x.setWidth 64
def join128 (a b : BitVec 64) : BitVec 128 := BitVec.ofNat 128 (two a b)
theorem hi_ofNat (N : Nat) : hi128 (BitVec.ofNat 128 N) = BitVec.ofNat 64 (N / 2 ^ 64) := by
  apply BitVec.eq_of_toNat_eq
  unfold hi128
  rw [BitVec.extractLsb'_toNat, BitVec.toNat_ofNat, BitVec.toNat_ofNat, Nat.shiftRight_eq_div_pow]
  rw [show (2 : Nat) ^ 128 = 2 ^ 64 * 2 ^ 64 from by rw [← Nat.pow_add], Nat.mod_mul_right_div_self, Nat.mod_mod]
theorem lo_ofNat (N : Nat) : lo128 (BitVec.ofNat 128 N) = BitVec.ofNat 64 N := by
  apply BitVec.eq_of_toNat_eq
  unfold lo128
  rw [BitVec.toNat_setWidth, BitVec.toNat_ofNat, BitVec.toNat_ofNat]
  rw [show (2 : Nat) ^ 128 = 2 ^ 64 * 2 ^ 64 from by rw [← Nat.pow_add], Nat.mod_mul_right_mod]
theorem two_x (x : BitVec 128) : two (hi128 x) (lo128 x) = x.toNat := by
  unfold two hi128 lo128
  rw [BitVec.extractLsb'_toNat, BitVec.toNat_setWidth, Nat.shiftRight_eq_div_pow]
  have := x.isLt
  omega
theorem ext128 {x y : BitVec 128} (h1 : hi128 x = hi128 y) (h2 : lo128 x = lo128 y) : x = y := by
  apply BitVec.eq_of_toNat_eq; rw [← two_x, ← two_x, h1, h2]
theorem eq_parts (x y : BitVec 128) : (hi128 x == hi128 y && lo128 x == lo128 y) = (x == y) := by
  rw [Bool.eq_iff_iff, Bool.and_eq_true, beq_iff_eq, beq_iff_eq, beq_iff_eq]
  exact ⟨fun h => ext128 h.1 h.2, fun h => by rw [h]; exact ⟨rfl, rfl⟩⟩
/-- the two words of a number in a box -/
def B2 (w : World) (b : Nat) (t : TypeId) (x : BitVec 128) : Prop := w.heap[b]? = some (.cells #[.int .u64 (W64 (hi128 x)), .int .u64 (W64 (lo128 x))] t (0, 0))
theorem B2.stay {w w' : World} {b : Nat} {t : TypeId} {x : BitVec 128} (h : B2 w b t x) (hn : New w w') : B2 w' b t x := (hn.block _ (lt_of_block h)).trans h
theorem B2.c0 {w : World} {b : Nat} {t : TypeId} {x : BitVec 128} (h : B2 w b t x) : w.cell? ⟨b, 0, none⟩ = some (.int .u64 (W64 (hi128 x))) := by rw [cell_of_row _ _ _ _ _ _ h]; rfl
theorem B2.c1 {w : World} {b : Nat} {t : TypeId} {x : BitVec 128} (h : B2 w b t x) : w.cell? ⟨b, 1, none⟩ = some (.int .u64 (W64 (lo128 x))) := by rw [cell_of_row _ _ _ _ _ _ h]; rfl
theorem B2.free {w : World} {b : Nat} {t : TypeId} {x : BitVec 128} (h : B2 w b t x) (i : Nat) : w.frozen? ⟨b, i, none⟩ = false := frozen_of_row _ _ _ _ _ h
/-- a box of zeros -/
def Z2 (w : World) (b : Nat) (t : TypeId) : Prop := w.heap[b]? = some (.cells #[.int .u64 0, .int .u64 0] t (0, 0))
theorem Z2.stay {w w' : World} {b : Nat} {t : TypeId} (h : Z2 w b t) (hn : New w w') : Z2 w' b t := (hn.block _ (lt_of_block h)).trans h
theorem Z2.c0 {w : World} {b : Nat} {t : TypeId} (h : Z2 w b t) : w.cell? ⟨b, 0, none⟩ = some (.int .u64 0) := by rw [cell_of_row _ _ _ _ _ _ h]; rfl
theorem Z2.c1 {w : World} {b : Nat} {t : TypeId} (h : Z2 w b t) : w.cell? ⟨b, 1, none⟩ = some (.int .u64 0) := by rw [cell_of_row _ _ _ _ _ _ h]; rfl
theorem Z2.free {w : World} {b : Nat} {t : TypeId} (h : Z2 w b t) (i : Nat) : w.frozen? ⟨b, i, none⟩ = false := frozen_of_row _ _ _ _ _ h
/-- a number stored whole -/
theorem B2.put {w : World} {b : Nat} {t : TypeId} {u v : Value} (x : BitVec 128) (h : w.heap[b]? = some (.cells #[u, v] t (0, 0))) :
    B2 ((w.setCell ⟨b, 0, none⟩ (.int .u64 (W64 (hi128 x)))).setCell ⟨b, 1, none⟩ (.int .u64 (W64 (lo128 x)))) b t x := by
  have h1 := heap_setCell_same w b 0 _ t (.int .u64 (W64 (hi128 x))) h
  have h2 := heap_setCell_same _ b 1 _ t (.int .u64 (W64 (lo128 x))) h1
  exact h2
theorem put2_new {W w : World} {b : Nat} (x : BitVec 128) (hn : New W w) (hb : W.heap.size ≤ b) :
    New W ((w.setCell ⟨b, 0, none⟩ (.int .u64 (W64 (hi128 x)))).setCell ⟨b, 1, none⟩ (.int .u64 (W64 (lo128 x)))) := (hn.setCell hb _).setCell hb _
theorem two_blocks (w : World) (A B : Obj) : ((w.alloc A).alloc B).heap[w.heap.size]? = some A ∧ ((w.alloc A).alloc B).heap[w.heap.size + 1]? = some B ∧ New w ((w.alloc A).alloc B) := by
  have e1 : (w.alloc A).heap.size = w.heap.size + 1 := by simp
  refine ⟨?_, ?_, ((New.refl w).alloc _).alloc _⟩
  · rw [((New.refl (w.alloc A)).alloc B).block _ (by rw [e1]; omega)]; exact heap_alloc_new _ _
  · rw [← e1]; exact heap_alloc_new _ _
end Go.Bv
namespace Go.Proofs.YtebcfbcfipmahaaGreat
open Go.RowKit Go.Bv
set_option linter.unusedVariables false
set_option maxRecDepth 100000
theorem wshr_x (x : BitVec 128) (m : Nat) (hm : m < 128) (n : Int) (hn : n = (m : Int)) (w : World) :
    Calls Tryz.prog 128 #[.agg #[.int .u64 (W64 (hi128 x)), .int .u64 (W64 (lo128 x))], .int .i64 n] w fun e w' =>
      e = .returned (.agg #[.int .u64 (W64 (hi128 (x >>> m))), .int .u64 (W64 (lo128 (x >>> m)))]) ∧ New w w' := by
  have h := wshr_two (hi128 x) (lo128 x) n m m (by omega) (by omega) (by omega) w
  have e : BitVec.ofNat 128 (x.toNat / 2 ^ m) = x >>> m := BitVec.eq_of_toNat_eq (by
    rw [BitVec.toNat_ofNat, BitVec.toNat_ushiftRight, Nat.shiftRight_eq_div_pow]
    exact Nat.mod_eq_of_lt (Nat.lt_of_le_of_lt (Nat.div_le_self _ _) x.isLt))
  rw [two_x, ← hi_ofNat, ← lo_ofNat, e] at h
  exact h
theorem equ_x (w : World) (x y : BitVec 128) :
    (Op.equalIn 10000 63 (.agg #[.int .u64 (W64 (hi128 x)), .int .u64 (W64 (lo128 x))]) (.agg #[.int .u64 (W64 (hi128 y)), .int .u64 (W64 (lo128 y))])).run Tryz.prog w = .ok (x == y) w := by
  rw [equ128, eq_parts]
/-- the factor of pcg64 -/
def T14 : BitVec 128 := 0x2360ed051fc65da44385df649fccf645#128
end Go.Proofs.YtebcfbcfipmahaaGreat
namespace Go.Bv
open Go Go.RowKit
/-- the two numbers of an effect, in a box -/
def E4 (w : World) (b : Nat) (t : TypeId) (m p : BitVec 128) : Prop := w.heap[b]? = some (.cells #[.int .u64 (W64 (hi128 m)), .int .u64 (W64 (lo128 m)), .int .u64 (W64 (hi128 p)), .int .u64 (W64 (lo128 p))] t (0, 0))
def E4z (w : World) (b : Nat) (t : TypeId) : Prop := w.heap[b]? = some (.cells #[.int .u64 0, .int .u64 0, .int .u64 0, .int .u64 0] t (0, 0))
theorem E4z.stay {w w' : World} {b : Nat} {t : TypeId} (h : E4z w b t) (hn : New w w') : E4z w' b t := (hn.block _ (lt_of_block h)).trans h
theorem E4z.c {w : World} {b : Nat} {t : TypeId} (h : E4z w b t) (i : Nat) (hi : i < 4) : w.cell? ⟨b, i, none⟩ = some (.int .u64 0) := by
  rw [cell_of_row _ _ _ _ _ _ h]
  have hc : i = 0 ∨ i = 1 ∨ i = 2 ∨ i = 3 := by omega
  rcases hc with rfl | rfl | rfl | rfl <;> rfl
theorem E4z.free {w : World} {b : Nat} {t : TypeId} (h : E4z w b t) (i : Nat) : w.frozen? ⟨b, i, none⟩ = false := frozen_of_row _ _ _ _ _ h
theorem E4.stay {w w' : World} {b : Nat} {t : TypeId} {m p : BitVec 128} (h : E4 w b t m p) (hn : New w w') : E4 w' b t m p := (hn.block _ (lt_of_block h)).trans h
theorem E4.c0 {w : World} {b : Nat} {t : TypeId} {m p : BitVec 128} (h : E4 w b t m p) : w.cell? ⟨b, 0, none⟩ = some (.int .u64 (W64 (hi128 m))) := by rw [cell_of_row _ _ _ _ _ _ h]; rfl
theorem E4.c1 {w : World} {b : Nat} {t : TypeId} {m p : BitVec 128} (h : E4 w b t m p) : w.cell? ⟨b, 1, none⟩ = some (.int .u64 (W64 (lo128 m))) := by rw [cell_of_row _ _ _ _ _ _ h]; rfl
theorem E4.c2 {w : World} {b : Nat} {t : TypeId} {m p : BitVec 128} (h : E4 w b t m p) : w.cell? ⟨b, 2, none⟩ = some (.int .u64 (W64 (hi128 p))) := by rw [cell_of_row _ _ _ _ _ _ h]; rfl
theorem E4.c3 {w : World} {b : Nat} {t : TypeId} {m p : BitVec 128} (h : E4 w b t m p) : w.cell? ⟨b, 3, none⟩ = some (.int .u64 (W64 (lo128 p))) := by rw [cell_of_row _ _ _ _ _ _ h]; rfl
theorem E4.free {w : World} {b : Nat} {t : TypeId} {m p : BitVec 128} (h : E4 w b t m p) (i : Nat) : w.frozen? ⟨b, i, none⟩ = false := frozen_of_row _ _ _ _ _ h
/-- an effect stored whole -/
theorem E4.put {w : World} {b : Nat} {t : TypeId} {x y u v : Value} (m p : BitVec 128) (h : w.heap[b]? = some (.cells #[x, y, u, v] t (0, 0))) :
    E4 ((((w.setCell ⟨b, 0, none⟩ (.int .u64 (W64 (hi128 m)))).setCell ⟨b, 1, none⟩ (.int .u64 (W64 (lo128 m)))).setCell ⟨b, 2, none⟩ (.int .u64 (W64 (hi128 p)))).setCell ⟨b, 3, none⟩ (.int .u64 (W64 (lo128 p)))) b t m p := by
  have h1 := heap_setCell_same w b 0 _ t (.int .u64 (W64 (hi128 m))) h
  have h2 := heap_setCell_same _ b 1 _ t (.int .u64 (W64 (lo128 m))) h1
  have h3 := heap_setCell_same _ b 2 _ t (.int .u64 (W64 (hi128 p))) h2
  have h4 := heap_setCell_same _ b 3 _ t (.int .u64 (W64 (lo128 p))) h3
  exact h4
end Go.Bv
namespace Go.Proofs.YtebcfbcfipmahaaGreat
open Go.RowKit Go.Bv
set_option linter.unusedVariables false
set_option maxRecDepth 100000
end Go.Proofs.YtebcfbcfipmahaaGreat
namespace Go.Proofs.YtebcfbcfipmahaaGreat
open Go.RowKit Go.Bv
set_option linter.unusedVariables false
set_option maxRecDepth 100000
/-- what pcg64 tells of a state -/
def out14 (s : BitVec 128) : BitVec 64 := (hi128 s ^^^ lo128 s).rotateLeft ((64 - (hi128 s).toNat / 2 ^ 58) % 64)
end Go.Proofs.YtebcfbcfipmahaaGreat
end
section
/- The number that two cells of a box hold. -/
namespace Go.Bv
open Go Go.RowKit
/-- the number that two cells of a box hold -/
def num2 (w : World) (b : Nat) : Nat := (intOf ((w.cell? ⟨b, 0, none⟩).getD (.bool false))).toNat * 18446744073709551616 + (intOf ((w.cell? ⟨b, 1, none⟩).getD (.bool false))).toNat
theorem B2.num {w : World} {b : Nat} {t : TypeId} {x : BitVec 128} (h : B2 w b t x) : num2 w b = x.toNat := by
  unfold num2; rw [h.c0, h.c1, ← two_x]; unfold two; simp [intOf, W64]
end Go.Bv
end
section
/- Plain lemmas: slices of integers of 64 bits with a sign that are read: their numbers as a list. -/
namespace Go.Bv
open Go Go.RowKit
def In64 (n : Int) : Prop := -9223372036854775808 ≤ n ∧ n ≤ 9223372036854775807
/-- a slice of integers that reads as l in the world w: its address, its length, its capacity -/
structure ZRow (w : World) (a : Option Addr) (len cap : Nat) (l : List Int) : Prop where
  len_eq : l.length = len
  le : len ≤ cap
  most : len ≤ 17592186044416
  room : cap ≤ 9223372036854775807
  none : a = none → len = 0 ∧ cap = 0
  cell : ∀ b off, a = some ⟨b, off, Option.none⟩ → ∀ i, i < len → w.cell? ⟨b, off + i, Option.none⟩ = some (.int .i64 (l.getD i 0))
  spot : ∀ x, a = some x → 0 < len → x.spot = Option.none
  old : ∀ x, a = some x → 0 < len → x.block < w.heap.size
  wf : ∀ n ∈ l, In64 n
theorem ZRow.at {w : World} {a : Option Addr} {len cap : Nat} {l : List Int} (h : ZRow w a len cap l) (i : Nat) : In64 (l.getD i 0) := by
  rw [List.getD_eq_getElem?_getD]
  rcases Nat.lt_or_ge i l.length with h2 | h2
  · rw [List.getElem?_eq_getElem h2]; exact h.wf _ (List.getElem_mem h2)
  · rw [List.getElem?_eq_none h2]; exact ⟨by decide, by decide⟩
theorem ZRow.stay {w w' : World} {a : Option Addr} {len cap : Nat} {l : List Int} (h : ZRow w a len cap l) (hn : New w w') : ZRow w' a len cap l where
  len_eq := h.len_eq
  le := h.le
  most := h.most
  room := h.room
  none := h.none
  cell := fun b off e i hi => by
    have hb := h.old _ e (by omega)
    rw [hn.cell (a := ⟨b, off + i, Option.none⟩) hb]; exact h.cell b off e i hi
  spot := h.spot
  old := fun x e h0 => Nat.lt_of_lt_of_le (h.old x e h0) hn.le
  wf := h.wf
theorem ZRow.addr {w : World} {a : Option Addr} {len cap : Nat} {l : List Int} (h : ZRow w a len cap l) (h0 : 0 < len) :
    ∃ b off, a = some ⟨b, off, Option.none⟩ ∧ ∀ i, i < len → w.cell? ⟨b, off + i, Option.none⟩ = some (.int .i64 (l.getD i 0)) := by
  cases a with
  | none => have := (h.none rfl).1; omega
  | some x =>
    obtain ⟨b, off, sp⟩ := x
    have hs := h.spot _ rfl h0
    obtain rfl : sp = Option.none := hs
    exact ⟨b, off, rfl, h.cell b off rfl⟩
theorem ZRow.of_owns {w : World} {base : Nat} {e : TypeId} {v : Value} {n : Nat} {l : List Int} (h : w.ownsRow base e 1 v n (l.map fun x => .int .i64 x)) (hn : n ≤ 17592186044416) (hw : ∀ n ∈ l, In64 n) :
    ∃ a cap, v = .slice a n cap ∧ ZRow w a n cap l := by
  obtain ⟨hl, h⟩ := h
  rw [List.length_map, Nat.mul_one] at hl
  rcases h with ⟨rfl, rfl⟩ | ⟨g, cap, cur, rfl, _, hc, hle, hm, hs, ht⟩
  · exact ⟨Option.none, 0, rfl, ⟨hl, Nat.le_refl _, by omega, by omega, fun _ => ⟨rfl, rfl⟩, (fun _ _ e => by cases e), (fun _ e => by cases e), (fun _ e => by cases e), hw⟩⟩
  · have hcell : ∀ i, i < n → w.cell? ⟨g, 0 + i, Option.none⟩ = some (.int .i64 (l.getD i 0)) := by
      intro i hi
      rw [Nat.zero_add]
      have hi2 : i < l.length := by omega
      have e1 : (cur.toList.take (n * 1))[i]? = some (.int .i64 (l.getD i 0)) := by
        rw [ht, List.getElem?_map, List.getD_eq_getElem?_getD, List.getElem?_eq_getElem hi2]; rfl
      rw [List.getElem?_take, if_pos (by omega)] at e1
      unfold World.cell?
      simp only [hc]
      simpa using e1
    refine ⟨some ⟨g, 0, Option.none⟩, cap, rfl, ⟨hl, hle, hn, hm, (fun e => by cases e), ?_, ?_, ?_, hw⟩⟩
    · intro b off e i hi; cases e; exact hcell i hi
    · intro x e _; cases e; rfl
    · intro x e h0; cases e; exact cell_block (hcell 0 h0)
theorem ZRow.olds {w : World} {a : Option Addr} {len cap : Nat} {l : List Int} (h : ZRow w a len cap l) :
    ∀ b, a = some b → ∀ j u, (l.map fun x => Value.int .i64 x)[j]? = some u → w.cell? (b.add j) = some u := by
  intro b e j u hj
  rw [List.getElem?_map] at hj
  have hjl : j < l.length := by
    rcases Nat.lt_or_ge j l.length with h2 | h2
    · exact h2
    · rw [List.getElem?_eq_none h2] at hj; simp at hj
  have hj2 : j < len := by rw [← h.len_eq]; exact hjl
  obtain ⟨b', off, sp⟩ := b
  obtain rfl : sp = Option.none := h.spot _ e (by omega)
  rw [add_plain, h.cell b' off e j hj2, List.getD_eq_getElem?_getD, List.getElem?_eq_getElem hjl]
  rw [List.getElem?_eq_getElem hjl] at hj
  simpa using hj
theorem ints_eq {n : Nat} {la lb : List Int} (ha : la.length = n) (hb : lb.length = n) (h : ∀ j, j < n → la.getD j 0 = lb.getD j 0) : la = lb := by
  apply List.ext_getElem?
  intro i
  rcases Nat.lt_or_ge i n with hi | hi
  · have := h i hi
    rw [List.getD_eq_getElem?_getD, List.getD_eq_getElem?_getD, List.getElem?_eq_getElem (by omega), List.getElem?_eq_getElem (by omega)] at this
    rw [List.getElem?_eq_getElem (by omega), List.getElem?_eq_getElem (by omega)]
    exact congrArg some this
  · rw [List.getElem?_eq_none (by omega), List.getElem?_eq_none (by omega)]
theorem ZRow.slice {w : World} {b off len cap : Nat} {l : List Int} (h : ZRow w (some ⟨b, off, Option.none⟩) len cap l) (i n : Nat) (c : Nat) (hi : i + n ≤ len) (hc : n ≤ c) (hcc : c ≤ 9223372036854775807) :
    ZRow w (some ⟨b, off + i, Option.none⟩) n c ((l.drop i).take n) where
  len_eq := by have := h.len_eq; simp; omega
  le := hc
  most := by have := h.most; omega
  room := hcc
  none := (fun e => by cases e)
  cell := by
    intro b' off' e j hj
    cases e
    rw [Nat.add_assoc, h.cell b off rfl (i + j) (by omega)]
    rw [List.getD_eq_getElem?_getD, List.getD_eq_getElem?_getD, List.getElem?_take, if_pos hj, List.getElem?_drop]
  spot := by intro x e _; cases e; rfl
  old := by
    intro x e h0; cases e
    exact h.old ⟨b, off, Option.none⟩ rfl (by omega)
  wf := fun n hn => h.wf n (List.mem_of_mem_drop (List.mem_of_mem_take hn))
theorem QRow.slice {w : World} {b off len cap : Nat} {l : List (BitVec 64)} (h : QRow w (some ⟨b, off, Option.none⟩) len cap l) (i n : Nat) (c : Nat) (hi : i + n ≤ len) (hc : n ≤ c) (hcc : c ≤ 9223372036854775807) :
    QRow w (some ⟨b, off + i, Option.none⟩) n c ((l.drop i).take n) where
  len_eq := by have := h.len_eq; simp; omega
  le := hc
  most := by have := h.most; omega
  room := hcc
  none := (fun e => by cases e)
  cell := by
    intro b' off' e j hj
    cases e
    rw [Nat.add_assoc, h.cell b off rfl (i + j) (by omega)]
    rw [List.getD_eq_getElem?_getD, List.getD_eq_getElem?_getD, List.getElem?_take, if_pos hj, List.getElem?_drop]
  spot := by intro x e _; cases e; rfl
  old := by
    intro x e h0; cases e
    exact h.old ⟨b, off, Option.none⟩ rfl (by omega)
end Go.Bv
end
