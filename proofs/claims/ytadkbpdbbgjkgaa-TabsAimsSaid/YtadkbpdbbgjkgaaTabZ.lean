/- Layer 22: Shift. -/
import Derived.Test.YtadkbpdbbgjkgaaTabY
import Derived.Test.YtadkbpdbbgjkgaaMxA
import Derived.Deep.DeepCutAuto
import Derived.Deep.RegionWith
namespace Go.Bv
open Go Go.RowKit
theorem ZRow.far {w : World} {a : Option Addr} {len cap b i : Nat} {l : List Int} (h : ZRow w a len cap l) (hf : ∀ x, a = some x → x.block ≠ b) (v : Value) : ZRow (w.setCell ⟨b, i, Option.none⟩ v) a len cap l where
  len_eq := h.len_eq
  le := h.le
  most := h.most
  room := h.room
  none := h.none
  cell := fun b2 off e k hk => by
    have h1 := h.cell b2 off e k hk
    have h2 : (w.setCell ⟨b, i, Option.none⟩ v).heap[b2]? = w.heap[b2]? := heap_setCell_other _ _ _ _ (hf _ e)
    unfold World.cell? at h1 ⊢
    simp only at h1 ⊢
    rw [h2]
    exact h1
  spot := h.spot
  old := fun x e h0 => by simpa using h.old x e h0
  wf := h.wf
theorem ZRow.of_owns2 {w : World} {base : Nat} {e : TypeId} {v : Value} {n : Nat} {l : List Int} (h : w.ownsRow base e 1 v n (l.map fun x => .int .i64 x)) (hn : n ≤ 17592186044416) (hw : ∀ n ∈ l, In64 n) :
    ∃ a cap, v = .slice a n cap ∧ ZRow w a n cap l ∧ ∀ x, a = some x → base ≤ x.block := by
  obtain ⟨a, cap, rfl, hz⟩ := ZRow.of_owns h hn hw
  refine ⟨a, cap, rfl, hz, fun x e => ?_⟩
  subst e
  rcases h.2 with ⟨e, _⟩ | ⟨g, c2, cur, e, hb, _⟩
  · cases e
  · cases e; exact hb
end Go.Bv
namespace Go.Proofs.Ytadkbpdbbgjkgaa
open Go Go.RowKit Go.Bv Go.Tab
set_option linter.unusedVariables false
set_option maxRecDepth 100000
/-- rows and changes that are made one behind the other -/
structure ShI2 (w wr : World) (gr gb n m : Nat) (R : Nat → List Int) (B : Nat → BitVec 64) (k : Nat) : Prop where
  new : New w wr
  rows : ∃ cs, wr.heap[gr]? = some (.cells cs 23 (0, 0)) ∧ cs.size = n ∧ ∀ i, i < k → ∃ a c, cs[i]? = some (.slice a m c) ∧ ZRow wr a m c (R i) ∧ ∀ x, a = some x → x.block ≠ gr ∧ x.block ≠ gb
  by_ : CR wr gb n (fun j => if j < k then B j else 0#64)
theorem ShI2.stay {w wr w2 : World} {gr gb n m : Nat} {R : Nat → List Int} {B : Nat → BitVec 64} {k : Nat} (h : ShI2 w wr gr gb n m R B k) (hn : New wr w2) : ShI2 w w2 gr gb n m R B k := by
  obtain ⟨cs, h1, h2, h3⟩ := h.rows
  refine ⟨h.new.trans hn, ⟨cs, (hn.block _ (lt_of_block h1)).trans h1, h2, fun i hi => ?_⟩, h.by_.stay hn⟩
  obtain ⟨a, c, e, hz, hf⟩ := h3 i hi
  exact ⟨a, c, e, hz.stay hn, hf⟩
theorem ShI2.next {w q : World} {gr gb n m : Nat} {R : Nat → List Int} {B : Nat → BitVec 64} {k : Nat} (h : ShI2 w q gr gb n m R B k) (hk : k < n) (hgr : w.heap.size ≤ gr) (hgb : w.heap.size ≤ gb) (hne : gr ≠ gb) {a : Option Addr} {c : Nat} (hz : ZRow q a m c (R k)) (hf : ∀ x, a = some x → x.block ≠ gr ∧ x.block ≠ gb) (bv : BitVec 64) (hb : bv = B k) :
    ShI2 w ((q.setCell ⟨gr, k, none⟩ (.slice a m c)).setCell ⟨gb, k, none⟩ (.int .u64 (W64 bv))) gr gb n m R B (k + 1) := by
  obtain ⟨cs, h1, h2, h3⟩ := h.rows
  refine ⟨(h.new.setCell (p := ⟨gr, k, none⟩) hgr _).setCell (p := ⟨gb, k, none⟩) hgb _, ⟨_, (heap_setCell_other _ _ _ _ hne).trans (heap_setCell_same q gr k cs _ (.slice a m c) h1), by rw [Array.size_setIfInBounds]; exact h2, fun i hi => ?_⟩, ?_⟩
  · by_cases e : k = i
    · subst e
      exact ⟨a, c, by rw [Array.getElem?_setIfInBounds, if_pos rfl, if_pos (by omega)], (hz.far (fun x e => (hf x e).1) _).far (fun x e => (hf x e).2) _, hf⟩
    · obtain ⟨a2, c2, e2, hz2, hf2⟩ := h3 i (by omega)
      exact ⟨a2, c2, by rw [Array.getElem?_setIfInBounds, if_neg e]; exact e2, (hz2.far (fun x e => (hf2 x e).1) _).far (fun x e => (hf2 x e).2) _, hf2⟩
  · refine (h.by_.keep (Ne.symm hne) _).put hk bv (by rw [if_pos (by omega), hb]) (fun j hj hjk => ?_)
    by_cases e : j < k
    · rw [if_pos e, if_pos (by omega)]
    · rw [if_neg e, if_neg (by omega)]
theorem ShI2.spots {w q : World} {gr gb n m : Nat} {R : Nat → List Int} {B : Nat → BitVec 64} {k : Nat} (h : ShI2 w q gr gb n m R B k) (hk : k < n) (hne : gr ≠ gb) :
    (∃ v, q.cell? ⟨gr, k, none⟩ = some v) ∧ q.frozen? ⟨gr, k, none⟩ = false ∧ (∀ v, (q.setCell ⟨gr, k, none⟩ v).cell? ⟨gb, k, none⟩ = some (.int .u64 (W64 (if k < k then B k else 0#64)))) ∧ ∀ v, (q.setCell ⟨gr, k, none⟩ v).frozen? ⟨gb, k, none⟩ = false := by
  obtain ⟨cs, h1, h2, h3⟩ := h.rows
  refine ⟨⟨cs[k]'(by omega), (cell_of_row _ _ _ _ _ _ h1).trans (Array.getElem?_eq_getElem (by omega))⟩, frozen_of_row _ _ k _ _ h1, fun v => ((h.by_.keep (Ne.symm hne) v).get hk).1, fun v => ((h.by_.keep (Ne.symm hne) v).get hk).2⟩
theorem ShI2.done {w q : World} {gr gb n m : Nat} {R : Nat → List Int} {B : Nat → BitVec 64} (h : ShI2 w q gr gb n m R B n) (hn : n ≤ 17592186044416) : Rws q gr 0 n m R ∧ QRow q (some ⟨gb, 0, none⟩) n n ((List.range n).map B) := by
  obtain ⟨cs, h1, h2, h3⟩ := h.rows
  refine ⟨fun i hi => ?_, (h.by_.congr (l' := B) (fun j hj => by rw [if_pos hj])).row hn (Nat.le_refl _) (by omega)⟩
  obtain ⟨a, c, e, hz, _⟩ := h3 i hi
  exact ⟨a, c, by rw [Nat.zero_add]; exact (cell_of_row _ _ _ _ _ _ h1).trans e, hz⟩
theorem info_row : (Try.prog.info? 23).map (fun i => (i.zero, i.size, i.bytes)) = some (some (.slice none 0 0), 1, 24) := by kernel_rfl
theorem make_rows (n : Nat) (hn : n ≤ 3) (t : Int) (w : World) (ht : t = ((n : Nat) : Int)) : (Instr.makeSlice 34 (.int .i64 t) (.int .i64 t)).run Try.prog w = .ok (.slice (some ⟨w.heap.size, 0, none⟩) n n) (w.alloc (.cells (madeCells #[.slice none 0 0] n) 23)) := by
  obtain ⟨i0, hi, hz0, hz1, hz2⟩ := info_parts info_row
  subst ht
  exact run_make_row (P := Try.prog) 34 23 i0 (.slice none 0 0) Try.underlying34 hi hz0 hz1 rfl .i64 .i64 n (by rw [hz2]; omega) (by omega) w
theorem two_made (w : World) (n m : Nat) (R : Nat → List Int) (B : Nat → BitVec 64) :
    ShI2 w ((w.alloc (.cells (madeCells #[.slice none 0 0] n) 23)).alloc (.cells (madeCells #[.int .u64 0] n) 24)) w.heap.size (w.heap.size + 1) n m R B 0 ∧ ShI2 w ((w.alloc (.cells (madeCells #[.int .u64 0] n) 24)).alloc (.cells (madeCells #[.slice none 0 0] n) 23)) (w.heap.size + 1) w.heap.size n m R B 0 := by
  have e1 : (w.alloc (.cells (madeCells #[.slice none 0 0] n) 23)).heap.size = w.heap.size + 1 := by simp
  have e2 : (w.alloc (.cells (madeCells #[.int .u64 0] n) 24)).heap.size = w.heap.size + 1 := by simp
  constructor
  · refine ⟨((New.refl w).alloc _).alloc _, ⟨_, (((New.refl (w.alloc _)).alloc _).block _ (by rw [e1]; omega)).trans (heap_alloc_new w _), size_madeCells _ _, fun i hi => absurd hi (by omega)⟩, ?_⟩
    rw [← e1]
    exact (cr_made _ n).congr (fun j _ => by rw [if_neg (by omega)])
  · refine ⟨((New.refl w).alloc _).alloc _, ⟨_, (by rw [← e2]; exact heap_alloc_new _ _), size_madeCells _ _, fun i hi => absurd hi (by omega)⟩, ?_⟩
    exact ((cr_made w n).stay ((New.refl _).alloc _)).congr (fun j _ => by rw [if_neg (by omega)])
/-- the seed that Shift makes -/
def byB (l : List (BitVec 64)) (bits : Int) (N : Int) (xl yl : List (BitVec 64)) : Nat → BitVec 64 := fun i => evV l bits N (xl.getD i 0) ^^^ yl.getD i 0
def shL (l : List (BitVec 64)) (bits : Int) (xl yl : List (BitVec 64)) : List (BitVec 64) := aimL l xl.length 8 (fun i => lets (xl.getD i 0) 8) ((List.range xl.length).map (byB l bits 128 xl yl))
theorem lets_inj (x y : BitVec 64) (hx : x >>> 32 = 0#64) (hy : y >>> 32 = 0#64) (h : lets x 8 = lets y 8) : x = y := by
  have hl : ∀ i, i < 8 → (x >>> (4 * i)) % 16#64 = (y >>> (4 * i)) % 16#64 := by
    intro i hi
    have h1 := congrArg (fun l : List Int => l.getD i 0) h
    simp only [lets_at _ _ _ hi] at h1
    unfold lat W64 at h1
    exact BitVec.eq_of_toNat_eq (by omega)
  have h0 := hl 0 (by omega)
  have h1 := hl 1 (by omega)
  have h2 := hl 2 (by omega)
  have h3 := hl 3 (by omega)
  have h4 := hl 4 (by omega)
  have h5 := hl 5 (by omega)
  have h6 := hl 6 (by omega)
  have h7 := hl 7 (by omega)
  have hx2 : x.toNat < 2 ^ 32 := by have := shr_nat x 32; rw [hx] at this; simpa using this.symm
  have hy2 : y.toNat < 2 ^ 32 := by have := shr_nat y 32; rw [hy] at this; simpa using this.symm
  have hh : ∀ i, i < 8 → x.toNat / 2 ^ (4 * i) % 16 = y.toNat / 2 ^ (4 * i) % 16 := by
    intro i hi
    have := congrArg BitVec.toNat (hl i hi)
    rw [BitVec.toNat_umod, BitVec.toNat_umod, BitVec.toNat_ushiftRight, BitVec.toNat_ushiftRight, Nat.shiftRight_eq_div_pow, Nat.shiftRight_eq_div_pow] at this
    exact this
  have g0 := hh 0 (by omega)
  have g1 := hh 1 (by omega)
  have g2 := hh 2 (by omega)
  have g3 := hh 3 (by omega)
  have g4 := hh 4 (by omega)
  have g5 := hh 5 (by omega)
  have g6 := hh 6 (by omega)
  have g7 := hh 7 (by omega)
  apply BitVec.eq_of_toNat_eq
  simp only [Nat.reduceMul, Nat.reducePow, Nat.div_one] at g0 g1 g2 g3 g4 g5 g6 g7 hx2 hy2
  omega
end Go.Proofs.Ytadkbpdbbgjkgaa
