/- Contracts of layer 37: a tape of words: what its memory holds; slices.Clone; New, made, Used, Left, Taken. · Contracts of layer 37: New, made, Used, Left, Taken. · Contracts of layer 37: Next. · Contracts of layer 37: Next, where a word is left. · The law TapeTells: the words of a tape come one by one, in order, and then no more. · What a tape does not touch; what does not touch a tape. -/
import Derived.Test.YtdjlbpgjbgepdaaGreatShelf
import Derived.Test.YtdjlbpgjbgepdaaGreatRowQ
import Derived.Test.YtdjlbpgjbgepdaaGreatBut
import Derived.Test.YtdjlbpgjbgepdaaGreatCloQ
import Derived.Deep.OwnRows
import Derived.OneCell
import Derived.Deep.AppendLies
import Derived.Handy
import Derived.BigRegion
import Derived.Deep.DeepCutAuto
import Derived.Deep.RegionHeld3
import Derived.Deep.RegionLaw
import Derived.Deep.RegionWith
import Derived.Test.YtdjlbpgjbgepdaaGreatWords
namespace Go.Bv
open Go Go.RowKit
/-- nothing of w has changed in v, but what lies in the blocks b and g -/
structure But2 (b g : Nat) (w v : World) : Prop where
  size : w.heap.size ≤ v.heap.size
  block : ∀ k, k < w.heap.size → k ≠ b → k ≠ g → v.heap[k]? = w.heap[k]?
  new : ∀ W, New W w → W.heap.size ≤ b → W.heap.size ≤ g → New W v
theorem But2.refl (b g : Nat) (w : World) : But2 b g w w := ⟨Nat.le_refl _, fun _ _ _ _ => rfl, fun _ h _ _ => h⟩
theorem But2.of_new {b g : Nat} {w v : World} (h : New w v) : But2 b g w v := ⟨h.le, fun k hk _ _ => h.block k hk, fun _ h2 _ _ => h2.trans h⟩
theorem But2.trans {b g : Nat} {u w v : World} (h : But2 b g u w) (k : But2 b g w v) : But2 b g u v :=
  ⟨Nat.le_trans h.size k.size, fun i hi hb hg => (k.block i (Nat.lt_of_lt_of_le hi h.size) hb hg).trans (h.block i hi hb hg), fun W h2 hb hg => k.new W (h.new W h2 hb hg) hb hg⟩
theorem But2.then {b g : Nat} {u w v : World} (h : But2 b g u w) (k : New w v) : But2 b g u v := h.trans (But2.of_new k)
theorem But2.setCell {b g : Nat} {u w : World} (h : But2 b g u w) {p : Addr} (hp : p.block = b ∨ p.block = g) (x : Value) : But2 b g u (w.setCell p x) :=
  ⟨by rw [show (w.setCell p x).heap.size = w.heap.size by simp [World.setCell]]; exact h.size,
   fun i hi hb hg => (Below.heap_setCell w p x i (by rcases hp with e | e <;> rw [e] <;> omega)).trans (h.block i hi hb hg), fun W h2 hb hg => (h.new W h2 hb hg).setCell (by rcases hp with e | e <;> rw [e] <;> omega) _⟩
theorem two_blocksT (w : World) (A B : Obj) : ((w.alloc A).alloc B).heap[w.heap.size]? = some A ∧ ((w.alloc A).alloc B).heap[w.heap.size + 1]? = some B ∧ New w ((w.alloc A).alloc B) := by
  have e1 : (w.alloc A).heap.size = w.heap.size + 1 := by simp
  refine ⟨?_, ?_, ((New.refl w).alloc _).alloc _⟩
  · rw [((New.refl (w.alloc A)).alloc B).block _ (by rw [e1]; omega)]; exact heap_alloc_new _ _
  · rw [← e1]; exact heap_alloc_new _ _
theorem own_words {w : World} {e : TypeId} {v : Value} {n : Nat} {l : List (BitVec 64)} (h : w.ownsRow 0 e 1 v n (l.map fun x => .int .u64 (W64 x))) (k : World) (hk : ∀ g, v.ownBlock = some g → k.heap[g]? = w.heap[g]?) : k.ownsRow 0 e 1 v n (l.map fun x => .int .u64 (W64 x)) := by
  refine ⟨h.1, ?_⟩
  rcases h.2 with hn | ⟨g, cap, cur, rfl, hb, hg, rest⟩
  · exact .inl hn
  · exact .inr ⟨g, cap, cur, rfl, hb, by rw [hk g rfl]; exact hg, rest⟩
end Go.Bv
namespace Go.Proofs.YtdjlbpgjbgepdaaGreat
open Go.RowKit Go.Bv
set_option linter.unusedVariables false
/-- the cells of a tape's box -/
def tapeCells (c : Nat) (v : Value) (left : Int) : Array Value := #[.func (Fn.func 29) #[] #[.pointer (some ⟨c, 0, none⟩)], .int .i64 0, .int .u64 0, .int .u64 0, .int .u64 0, .int .u64 0, v, .int .i64 left]
/-- what lies in the memory of a tape of the words l, k of them taken: its box b, the box c of its words, v the slice of those taken, in the block g -/
structure TapeIn (w : World) (b g : Nat) (l : List (BitVec 64)) (k : Nat) (c : Nat) (v : Value) (a : Option Addr) (cap : Nat) : Prop where
  box : w.heap[b]? = some (.cells (tapeCells c v ((l.length - k : Nat) : Int)) 70 (0, 0))
  cell : w.heap[c]? = some (.cells #[.slice a l.length cap] 28 (0, 0))
  cb : c ≠ b
  words : QRow w a l.length cap l
  wb : ∀ x, a = some x → 0 < l.length → x.block ≠ b
  le : k ≤ l.length
  taken : w.ownsRow 0 23 1 v k ((l.take k).map fun x => .int .u64 (W64 x))
  own : ∀ g', v.ownBlock = some g' → g' = g ∧ g' ≠ b ∧ g' ≠ c ∧ ∀ x, a = some x → 0 < l.length → x.block ≠ g'
  nil : v.ownBlock = none → g = b
  low : c < b ∧ ∀ x, a = some x → 0 < l.length → x.block < b
/-- a tape of the words l, k of them taken: its box b, the block g of those taken -/
def Tape (w : World) (b g : Nat) (l : List (BitVec 64)) (k : Nat) : Prop := ∃ c v a cap, TapeIn w b g l k c v a cap
theorem TapeIn.stay {w w' : World} {b g : Nat} {l : List (BitVec 64)} {k c : Nat} {v : Value} {a : Option Addr} {cap : Nat} (h : TapeIn w b g l k c v a cap) (hn : New w w') : TapeIn w' b g l k c v a cap where
  box := (hn.block _ (lt_of_block h.box)).trans h.box
  cell := (hn.block _ (lt_of_block h.cell)).trans h.cell
  cb := h.cb
  words := h.words.stay hn
  wb := h.wb
  le := h.le
  taken := own_words h.taken w' fun g' e => hn.block _ (h.taken.lt g' e).2
  own := h.own
  nil := h.nil
  low := h.low
theorem Tape.stay {w w' : World} {b g : Nat} {l : List (BitVec 64)} {k : Nat} (h : Tape w b g l k) (hn : New w w') : Tape w' b g l k := by
  obtain ⟨c, v, a, cap, h⟩ := h
  exact ⟨c, v, a, cap, h.stay hn⟩
end Go.Proofs.YtdjlbpgjbgepdaaGreat
namespace Go.Proofs.YtdjlbpgjbgepdaaGreat
open Go.RowKit Go.Bv
set_option linter.unusedVariables false
set_option maxHeartbeats 1000000 in
theorem made_t (b g : Nat) (l : List (BitVec 64)) (k : Nat) (w : World) (h : Tape w b g l k) :
    Calls Tryz.prog 30 #[.pointer (some ⟨b, 0, none⟩)] w fun e w' => e = .returned (.bool true) ∧ w' = w := by
  obtain ⟨c, v, a, cap, h⟩ := h
  have c0 : w.cell? ⟨b, 0, none⟩ = some (.func (Fn.func 29) #[] #[.pointer (some ⟨c, 0, none⟩)]) := cell_of_row _ _ 0 _ _ _ h.box
  clear h
  have hne : ∀ (w : World), (binOp .neq 68 (.func (Fn.func 29) #[] #[.pointer (some ⟨c, 0, none⟩)]) .nilFunc).run Tryz.prog w = .ok (.bool true) w := fun w => by
    kernel_rfl
  go_enter Tryz.func30, Tryz.ntmps30
  go_wp2
  go_ret
  exact ⟨rfl, rfl⟩
theorem own_len {w : World} {base : Nat} {e : TypeId} {v : Value} {n : Nat} {xs : List Value} (h : w.ownsRow base e 1 v n xs) : ∃ a cap, v = .slice a n cap ∧ (a.isNone = true → n = 0) := by
  rcases h.2 with ⟨rfl, rfl⟩ | ⟨g, cap, cur, rfl, _⟩
  · exact ⟨_, _, rfl, fun _ => rfl⟩
  · exact ⟨_, _, rfl, fun h => by cases h⟩
set_option maxHeartbeats 1000000 in
theorem used_t (b g : Nat) (l : List (BitVec 64)) (k : Nat) (w : World) (h : Tape w b g l k) :
    Calls Tryz.prog 16 #[.pointer (some ⟨b, 0, none⟩)] w fun e w' => e = .returned (.int .i64 (k : Int)) ∧ w' = w := by
  have HM := Lib.hid (made_t b g l k w h)
  obtain ⟨c, v, a, cap, h⟩ := h
  obtain ⟨x, cap2, rfl, _⟩ := own_len h.taken
  have c6 : w.cell? ⟨b, 6, none⟩ = some (.slice x k cap2) := cell_of_row _ _ 6 _ _ _ h.box
  clear h
  go_enter Tryz.func16, Tryz.ntmps16
  go_wp2_with fail
  refine HM.out.mono ?_
  rintro e w' ⟨rfl, rfl⟩
  go_wp2
  go_ret
  exact ⟨rfl, rfl⟩
set_option maxHeartbeats 1000000 in
theorem new_t (a : Option Addr) (len cap : Nat) (l : List (BitVec 64)) (w : World) (h : QRow w a len cap l) :
    Calls Tryz.prog 13 #[.slice a len cap] w fun e w' => ∃ b, e = .returned (.pointer (some ⟨b, 0, none⟩)) ∧ w.heap.size ≤ b ∧ Tape w' b b l 0 ∧ New w w' := by
  have hmf : ∀ (fn : Fn) (first cap : Array Value) (w : World), (Instr.makeFunc fn first cap).run Tryz.prog w = .ok (.func fn first cap) w := fun _ _ _ _ => rfl
  have hmost := h.most
  obtain rfl := h.len_eq
  have HC := Lib.hid (clone_q a l.length cap l w h)
  clear h
  go_enter Tryz.func13, Tryz.ntmps13
  go_wp2_with fail
  refine HC.out.mono ?_
  rintro e w1 ⟨v, rfl, how, hn⟩
  obtain ⟨a3, cap3, rfl, hq3⟩ := QRow.of_owns how (by omega)
  have hc := heap_alloc_new w1 (.cells #[.slice a3 l.length cap3] 28)
  have HQ := Lib.hid hq3
  have HN := Lib.hid hn
  have HC1 := Lib.hid hc
  clear how hq3 hn hc
  go_wp2
  go_ret
  refine ⟨_, rfl, by have := HN.out.le; omega, ⟨w1.heap.size, .slice none 0 0, a3, cap3, ?_⟩, (HN.out.alloc _).alloc _⟩
  obtain ⟨h1, h2, h3⟩ := two_blocksT w1 (.cells #[.slice a3 l.length cap3] 28) (.cells (tapeCells w1.heap.size (.slice none 0 0) ((l.length : Nat) : Int)) 70)
  refine ⟨h2, h1, by omega, HQ.out.stay h3, ?_, Nat.zero_le _, World.ownsRow_nil _ _ _ _, (fun g' e => by cases e), fun _ => rfl, by omega, ?_⟩
  · intro x e h0
    have := HQ.out.old x e h0
    omega
  · intro x e h0
    have := HQ.out.old x e h0
    omega
end Go.Proofs.YtdjlbpgjbgepdaaGreat
namespace Go.Proofs.YtdjlbpgjbgepdaaGreat
open Go.RowKit Go.Bv
set_option linter.unusedVariables false
/-- the state of a tape that no generator feeds -/
def S0 : Array Value := #[.int .i64 0, .int .u64 0, .int .u64 0, .int .u64 0, .int .u64 0]
/-- a block that holds it -/
def BS (w : World) (b : Nat) : Prop := w.heap[b]? = some (.cells #[.int .i64 0, .int .u64 0, .int .u64 0, .int .u64 0, .int .u64 0] 67 (0, 0))
theorem BS.stay {w w' : World} {b : Nat} (h : BS w b) (hn : New w w') : BS w' b := (hn.block _ (lt_of_block h)).trans h
theorem BS.c {w : World} {b : Nat} (h : BS w b) : w.cell? ⟨b, 0, none⟩ = some (.int .i64 0) ∧ w.cell? ⟨b, 1, none⟩ = some (.int .u64 0) ∧ w.cell? ⟨b, 2, none⟩ = some (.int .u64 0) ∧ w.cell? ⟨b, 3, none⟩ = some (.int .u64 0) ∧ w.cell? ⟨b, 4, none⟩ = some (.int .u64 0) :=
  ⟨cell_of_row _ _ 0 _ _ _ h, cell_of_row _ _ 1 _ _ _ h, cell_of_row _ _ 2 _ _ _ h, cell_of_row _ _ 3 _ _ _ h, cell_of_row _ _ 4 _ _ _ h⟩
theorem BS.free {w : World} {b : Nat} (h : BS w b) : ∀ i, w.frozen? ⟨b, i, none⟩ = false := fun i => by unfold BS at h; simp [World.frozen?, h]
set_option maxHeartbeats 2000000 in
theorem word_t (i : Int) (k : Nat) (c : Nat) (a : Option Addr) (cap : Nat) (l : List (BitVec 64)) (w : World) (hi : i = (k : Int)) (hk : k < l.length) (hc : w.heap[c]? = some (.cells #[.slice a l.length cap] 28 (0, 0))) (hq : QRow w a l.length cap l) :
    Calls Tryz.prog 29 #[.int .i64 i, .agg #[.int .i64 0, .int .u64 0, .int .u64 0, .int .u64 0, .int .u64 0], .pointer (some ⟨c, 0, none⟩)] w fun e w' =>
      e = .returned (.tuple #[.int .u64 (W64 (l.getD k 0)), .agg #[.int .i64 0, .int .u64 0, .int .u64 0, .int .u64 0, .int .u64 0]]) ∧ New w w' := by
  subst hi
  obtain ⟨b, off, rfl, hcell⟩ := hq.addr (by omega)
  have hw := hcell k hk
  obtain ⟨z, hz⟩ : ∃ z, l.getD k 0 = z := ⟨_, rfl⟩
  rw [hz] at hw
  rw [hz]
  have hcap := hq.le
  have hroom := hq.room
  have hmost := hq.most
  obtain ⟨h1, h2, h3⟩ := two_blocksT w (.cells #[.int .i64 0, .int .u64 0, .int .u64 0, .int .u64 0, .int .u64 0] 67) (.cells #[.int .i64 0, .int .u64 0, .int .u64 0, .int .u64 0, .int .u64 0] 67)
  have hb := hq.old _ rfl (by omega)
  have hw2 : (((w.alloc (.cells #[.int .i64 0, .int .u64 0, .int .u64 0, .int .u64 0, .int .u64 0] 67)).alloc (.cells #[.int .i64 0, .int .u64 0, .int .u64 0, .int .u64 0, .int .u64 0] 67))).cell? ⟨b, off + k, none⟩ = some (.int .u64 (W64 z)) := by rw [h3.cell (by simpa using hb)]; exact hw
  have hc2 : (((w.alloc (.cells #[.int .i64 0, .int .u64 0, .int .u64 0, .int .u64 0, .int .u64 0] 67)).alloc (.cells #[.int .i64 0, .int .u64 0, .int .u64 0, .int .u64 0, .int .u64 0] 67))).heap[c]? = some (.cells #[.slice (some ⟨b, off, none⟩) l.length cap] 28 (0, 0)) := (h3.block _ (lt_of_block hc)).trans hc
  have c0 := cell_of_row _ _ 0 _ _ _ hc2
  obtain ⟨s0, s1, s2, s3, s4⟩ := BS.c h1
  obtain ⟨r0, r1, r2, r3, r4⟩ := BS.c h2
  have rf := BS.free h2
  have H1 := Lib.hid h1
  have H2 := Lib.hid h2
  have H3 := Lib.hid h3
  clear hz hc hq hc2 h1 h2 h3 hw hcell
  go_enter Tryz.func29, Tryz.ntmps29
  go_wp2_with fail
  generalize ((w.alloc (.cells #[.int .i64 0, .int .u64 0, .int .u64 0, .int .u64 0, .int .u64 0] 67)).alloc (.cells #[.int .i64 0, .int .u64 0, .int .u64 0, .int .u64 0, .int .u64 0] 67)) = w0 at *
  go_region
  go_wp2
  refine bodyPost_ret (by simp [results, Tryz.results29, go_sem, r0, r1, r2, r3, r4]; try rfl) rfl ?_
  exact ⟨rfl, (((((H3.out.setCell (by show _ ≤ w.heap.size + 1; omega) _).setCell (by show _ ≤ w.heap.size + 1; omega) _).setCell (by show _ ≤ w.heap.size + 1; omega) _).setCell (by show _ ≤ w.heap.size + 1; omega) _).setCell (by show _ ≤ w.heap.size + 1; omega) _).drew⟩
set_option maxHeartbeats 2000000 in
theorem next_none (b g : Nat) (l : List (BitVec 64)) (w : World) (h : Tape w b g l l.length) :
    Calls Tryz.prog 73 #[.pointer (some ⟨b, 0, none⟩)] w fun e w' => e = .returned (.tuple #[.int .u64 0, .int .i64 7]) ∧ w' = w := by
  have HM := Lib.hid (made_t b g l l.length w h)
  obtain ⟨c, v, a, cap, h⟩ := h
  have c7 : w.cell? ⟨b, 7, none⟩ = some (.int .i64 0) := by
    have := cell_of_row _ _ 7 _ _ _ h.box
    rw [Nat.sub_self] at this
    exact this
  clear h
  go_enter Tryz.func73, Tryz.ntmps73
  go_wp2_with fail
  refine HM.out.mono ?_
  rintro e w' ⟨rfl, rfl⟩
  go_wp2
  go_ret2
  exact ⟨rfl, rfl⟩
end Go.Proofs.YtdjlbpgjbgepdaaGreat
namespace Go.Proofs.YtdjlbpgjbgepdaaGreat
open Go.RowKit Go.Bv
set_option linter.unusedVariables false
theorem left_drew {w X : World} (h : New w X) : New w.drew X := by
  obtain ⟨a, b, c, d, e⟩ := h
  exact ⟨a, b, c, d, e⟩
theorem BS.put {w : World} {b : Nat} (h : BS w b) : BS (((((w.setCell ⟨b, 0, none⟩ (.int .i64 0)).setCell ⟨b, 1, none⟩ (.int .u64 0)).setCell ⟨b, 2, none⟩ (.int .u64 0)).setCell ⟨b, 3, none⟩ (.int .u64 0)).setCell ⟨b, 4, none⟩ (.int .u64 0)) b := by
  have h1 := heap_setCell_same w b 0 _ _ (.int .i64 0) h
  have h2 := heap_setCell_same _ b 1 _ _ (.int .u64 0) h1
  have h3 := heap_setCell_same _ b 2 _ _ (.int .u64 0) h2
  have h4 := heap_setCell_same _ b 3 _ _ (.int .u64 0) h3
  exact heap_setCell_same _ b 4 _ _ (.int .u64 0) h4
theorem put5_new {W w : World} {b : Nat} (hn : New W w) (hb : W.heap.size ≤ b) : New W (((((w.setCell ⟨b, 0, none⟩ (.int .i64 0)).setCell ⟨b, 1, none⟩ (.int .u64 0)).setCell ⟨b, 2, none⟩ (.int .u64 0)).setCell ⟨b, 3, none⟩ (.int .u64 0)).setCell ⟨b, 4, none⟩ (.int .u64 0)) :=
  ((((hn.setCell hb _).setCell hb _).setCell hb _).setCell hb _).setCell hb _
theorem bs_of_alloc {W w : World} (h : New (W.alloc (.cells #[.int .i64 0, .int .u64 0, .int .u64 0, .int .u64 0, .int .u64 0] 67)).drew w) : BS w W.heap.size ∧ New W w :=
  ⟨BS.stay (BS.stay (heap_alloc_new W _) (New.refl _).drew) h, ((New.refl W).alloc _).drew.trans h⟩
theorem new_cells_t (w : World) (cs : Array Value) (t : TypeId) : ∀ j u, cs.toList[j]? = some u → (w.alloc (.cells cs t)).cell? ((⟨w.heap.size, 0, none⟩ : Addr).add j) = some u := by
  intro j u h
  rw [add_plain, Nat.zero_add, World.cell?_alloc_new]
  simpa using h
theorem drew_left {W w : World} (h : New W.drew w) : New W w := (New.refl W).drew.trans h
theorem size_set (w : World) (p : Addr) (x : Value) : (w.setCell p x).heap.size = w.heap.size := by simp [World.setCell]
/-- one cell of a tape's box is written -/
theorem box_set {w : World} {b : Nat} {cs ds : Array Value} (g i : Nat) (x : Value) (h : w.heap[b]? = some (.cells cs 70 (0, 0))) (W : World) (hW : w.setCell ⟨b, i, none⟩ x = W) (hd : cs.setIfInBounds i x = ds) :
    W.heap[b]? = some (.cells ds 70 (0, 0)) ∧ (∀ i, i ≠ b → W.heap[i]? = w.heap[i]?) ∧ W.heap.size = w.heap.size ∧ But2 b g w W := by
  subst hW
  subst hd
  exact ⟨heap_setCell_same w b i _ _ x h, fun j hj => heap_setCell_other _ _ _ _ hj, size_set _ _ _, (But2.refl b g w).setCell (Or.inl rfl) _⟩
theorem left_put {w : World} {b c : Nat} {v : Value} {L : Int} (g : Nat) (m : Int) (h : w.heap[b]? = some (.cells (tapeCells c v L) 70 (0, 0))) (W : World)
    (hW : ((((((w.setCell ⟨b, 1, none⟩ (.int .i64 0)).setCell ⟨b, 2, none⟩ (.int .u64 0)).setCell ⟨b, 3, none⟩ (.int .u64 0)).setCell ⟨b, 4, none⟩ (.int .u64 0)).setCell ⟨b, 5, none⟩ (.int .u64 0)).setCell ⟨b, 7, none⟩ (.int .i64 m)).drew = W) :
    W.heap[b]? = some (.cells (tapeCells c v m) 70 (0, 0)) ∧ (∀ i, i ≠ b → W.heap[i]? = w.heap[i]?) ∧ W.heap.size = w.heap.size ∧ But2 b g w W := by
  obtain ⟨w1, e1⟩ : ∃ x, w.setCell ⟨b, 1, none⟩ (.int .i64 0) = x := ⟨_, rfl⟩
  rw [e1] at hW
  obtain ⟨w2, e2⟩ : ∃ x, w1.setCell ⟨b, 2, none⟩ (.int .u64 0) = x := ⟨_, rfl⟩
  rw [e2] at hW
  obtain ⟨w3, e3⟩ : ∃ x, w2.setCell ⟨b, 3, none⟩ (.int .u64 0) = x := ⟨_, rfl⟩
  rw [e3] at hW
  obtain ⟨w4, e4⟩ : ∃ x, w3.setCell ⟨b, 4, none⟩ (.int .u64 0) = x := ⟨_, rfl⟩
  rw [e4] at hW
  obtain ⟨w5, e5⟩ : ∃ x, w4.setCell ⟨b, 5, none⟩ (.int .u64 0) = x := ⟨_, rfl⟩
  rw [e5] at hW
  obtain ⟨w6, e6⟩ : ∃ x, w5.setCell ⟨b, 7, none⟩ (.int .i64 m) = x := ⟨_, rfl⟩
  rw [e6] at hW
  obtain ⟨a1, b1, c1, d1⟩ := box_set (ds := tapeCells c v L) g 1 _ h w1 e1 (by simp [tapeCells])
  obtain ⟨a2, b2, c2, d2⟩ := box_set (ds := tapeCells c v L) g 2 _ a1 w2 e2 (by simp [tapeCells])
  obtain ⟨a3, b3, c3, d3⟩ := box_set (ds := tapeCells c v L) g 3 _ a2 w3 e3 (by simp [tapeCells])
  obtain ⟨a4, b4, c4, d4⟩ := box_set (ds := tapeCells c v L) g 4 _ a3 w4 e4 (by simp [tapeCells])
  obtain ⟨a5, b5, c5, d5⟩ := box_set (ds := tapeCells c v L) g 5 _ a4 w5 e5 (by simp [tapeCells])
  obtain ⟨a6, b6, c6, d6⟩ := box_set (ds := tapeCells c v m) g 7 _ a5 w6 e6 (by simp [tapeCells])
  subst hW
  refine ⟨a6, fun i hi => ?_, ?_, ?_⟩
  · show w6.heap[i]? = _
    rw [b6 i hi, b5 i hi, b4 i hi, b3 i hi, b2 i hi, b1 i hi]
  · show w6.heap.size = _
    omega
  · exact (((((d1.trans d2).trans d3).trans d4).trans d5).trans d6).then (New.refl _).drew
theorem But2.grown {b g : Nat} {u w v : World} {r : Option Nat} (h : But2 b g u w) (k : w.grownBy v r) (hr : ∀ i, r = some i → i = g) : But2 b g u v :=
  ⟨Nat.le_trans h.size k.size, fun i hi hb hg => (k.block i (Nat.lt_of_lt_of_le hi h.size) (fun e => hg (hr i e.symm))).trans (h.block i hi hb hg),
   fun W h2 hb hg => (h.new W h2 hb hg).grown' k (fun i e => by rw [hr i e]; exact hg)⟩
theorem QRow.held {w w' : World} {a : Option Addr} {len cap : Nat} {l : List (BitVec 64)} (h : QRow w a len cap l) (hs : w.heap.size ≤ w'.heap.size) (hb : ∀ x, a = some x → 0 < len → w'.heap[x.block]? = w.heap[x.block]?) : QRow w' a len cap l where
  len_eq := h.len_eq
  le := h.le
  most := h.most
  room := h.room
  none := h.none
  cell := fun b off e i hi => by
    have := h.cell b off e i hi
    have hk := hb _ e (by omega)
    rw [World.cell?_of_block (a := ⟨b, off + i, Option.none⟩) hk]; exact this
  spot := h.spot
  old := fun x e h0 => Nat.lt_of_lt_of_le (h.old x e h0) hs
set_option maxHeartbeats 400000 in
theorem next_some (b g : Nat) (l : List (BitVec 64)) (k : Nat) (hk : k < l.length) (w : World) (h : Tape w b g l k) :
    Calls Tryz.prog 73 #[.pointer (some ⟨b, 0, none⟩)] w fun e w' => e = .returned (.tuple #[.int .u64 (W64 (l.getD k 0)), .int .i64 0]) ∧ ∃ g', Tape w' b g' l (k + 1) ∧ But2 b g w w' ∧ (g' = g ∨ w.heap.size ≤ g') := by
  have HM := Lib.hid (made_t b g l k w h)
  obtain ⟨c, v, a, cap, h⟩ := h
  have H := Lib.hid h
  have HW := Lib.hid (fun (w' : World) (hn : New w w') => word_t k k c a cap l w' rfl hk (h.stay hn).cell (h.stay hn).words)
  obtain ⟨z, hz⟩ : ∃ z, l.getD k 0 = z := ⟨_, rfl⟩
  obtain ⟨m, hm⟩ : ∃ m, l.length - k = m + 1 := ⟨l.length - k - 1, by omega⟩
  have hm2 : l.length - (k + 1) = m := by omega
  have hmost : m ≤ 17592186044416 := by have := h.words.most; omega
  have hmostk : k + 1 ≤ 17592186044416 := by have := h.words.most; omega
  obtain ⟨x, cap2, hv, _⟩ := own_len h.taken
  have hb := h.box
  rw [hm] at hb
  rw [hz] at HW ⊢
  have hL : (((m + 1 : Nat) : Int) == 0) = false := by simp; omega
  have HZ := Lib.hid hz
  have HB := Lib.hid hb
  have HM2 := Lib.hid hm2
  have HHM := Lib.hid hm
  obtain ⟨L, hLe⟩ : ∃ L : Int, ((m + 1 : Nat) : Int) = L := ⟨_, rfl⟩
  rw [hLe] at hL HB hb
  have hLm : L = m + 1 := by omega
  clear hz hm hm2 h hk hLe
  subst hv
  have HALL : ∀ w', New w w' → (w'.cell? ⟨b, 0, none⟩ = some (.func (Fn.func 29) #[] #[.pointer (some ⟨c, 0, none⟩)]) ∧ w'.cell? ⟨b, 1, none⟩ = some (.int .i64 0) ∧ w'.cell? ⟨b, 2, none⟩ = some (.int .u64 0) ∧ w'.cell? ⟨b, 3, none⟩ = some (.int .u64 0) ∧ w'.cell? ⟨b, 4, none⟩ = some (.int .u64 0) ∧ w'.cell? ⟨b, 5, none⟩ = some (.int .u64 0) ∧ w'.cell? ⟨b, 6, none⟩ = some (.slice x k cap2) ∧ w'.cell? ⟨b, 7, none⟩ = some (.int .i64 L)) := by
    intro w' hn
    have hb' := (hn.block _ (lt_of_block HB.out)).trans HB.out
    exact ⟨cell_of_row _ _ 0 _ _ _ hb', cell_of_row _ _ 1 _ _ _ hb', cell_of_row _ _ 2 _ _ _ hb', cell_of_row _ _ 3 _ _ _ hb', cell_of_row _ _ 4 _ _ _ hb', cell_of_row _ _ 5 _ _ _ hb', cell_of_row _ _ 6 _ _ _ hb', cell_of_row _ _ 7 _ _ _ hb'⟩
  have HAL := Lib.hid HALL
  obtain ⟨c0, c1, c2, c3, c4, c5, c6, c7⟩ := HALL w (New.refl w)
  clear hb HALL
  go_enter Tryz.func73, Tryz.ntmps73
  go_wp2_with fail
  refine HM.out.mono ?_
  rintro e w' ⟨rfl, rfl⟩
  go_wp2_with fail
  go_cut [4, 5] (fun x p wx => x = .int .u64 (W64 z) ∧ ∃ s, p = .pointer (some ⟨s, 0, none⟩) ∧ w'.heap.size ≤ s ∧ BS wx s ∧ New w' wx)
  case first =>
    have SK := Lib.hid (fun (w1 : World) (hn : New w' w1) => And.intro hn (HAL.out w1 hn))
    go_region_held3 (fun w1 => New w' w1 ∧ (w1.cell? ⟨b, 0, none⟩ = some (.func (Fn.func 29) #[] #[.pointer (some ⟨c, 0, none⟩)]) ∧ w1.cell? ⟨b, 1, none⟩ = some (.int .i64 0) ∧ w1.cell? ⟨b, 2, none⟩ = some (.int .u64 0) ∧ w1.cell? ⟨b, 3, none⟩ = some (.int .u64 0) ∧ w1.cell? ⟨b, 4, none⟩ = some (.int .u64 0) ∧ w1.cell? ⟨b, 5, none⟩ = some (.int .u64 0) ∧ w1.cell? ⟨b, 6, none⟩ = some (.slice x k cap2) ∧ w1.cell? ⟨b, 7, none⟩ = some (.int .i64 L)))
      ((refine SK.out _ ?_; first | with_reducible assumption | with_reducible exact (New.refl _).drew | with_reducible exact (New.refl _).drew.alloc _ | with_reducible exact ((New.refl _).alloc _).drew | with_reducible exact New.alloc (by assumption) _ | with_reducible exact put5_new (by assumption) (Nat.le_refl _) | with_reducible exact put5_new (New.alloc (by assumption) _) (by assumption) | with_reducible exact New.drew (by assumption)))
      (first
      | (go_at_call 29
         refine (HW.out _ (by first | with_reducible exact (New.refl _).drew | with_reducible exact (New.refl _).drew.alloc _ | with_reducible exact ((New.refl _).alloc _).drew)).mono ?_
         rintro e w2 ⟨rfl, hn2⟩
         first
         | (with_reducible have hsn := bs_of_alloc hn2
            obtain ⟨hs, hn3⟩ := hsn
            have hsf := hs.free
            obtain ⟨s0, s1, s2, s3, s4⟩ := hs.c
            have HS := Lib.hid hs
            clear hs)
         | (have hn3 : New w' w2 := by with_reducible exact drew_left hn2
            have hn4 : Hid (w'.heap.size ≤ w2.heap.size) := Lib.hid hn3.le)
         clear hn2))
    all_goals (
      go_wp2_with fail
      go_meet
      case rel => first
        | exact ⟨rfl, _, rfl, hn4.out, heap_alloc_new _ _, hn3.alloc _⟩
        | exact ⟨rfl, _, rfl, Nat.le_refl _, BS.put HS.out, put5_new hn3 (Nat.le_refl _)⟩)
  case rest =>
    obtain ⟨rfl, s, rfl, hs, hbs, hn⟩ := hcut
    have hsf := hbs.free
    obtain ⟨s0, s1, s2, s3, s4⟩ := hbs.c
    have hboxc := (hn.block _ (lt_of_block HB.out)).trans HB.out
    have hbf : ∀ i, wc.frozen? ⟨b, i, none⟩ = false := fun i => frozen_of_row _ _ _ _ _ hboxc
    clear c0 c1 c2 c3 c4 c5 c6 c7
    obtain ⟨c0, c1, c2, c3, c4, c5, c6, c7⟩ := HAL.out wc hn
    have HN := Lib.hid hn
    have HBX := Lib.hid hboxc
    have HT := Lib.hid (H.out.stay hn)
    clear hbs hn hboxc HW HAL HM HB
    go_wp2_with fail
    go_region
    clear s0 s1 s2 s3 s4 c0 c1 c2 c3 c4 c5 c6 c7 hbf hsf
    obtain ⟨i0, hi, hz0, hz1, hz2⟩ := info_parts info8_cq
    obtain ⟨w6, hw6⟩ : ∃ w6, ((((((wc.setCell ⟨b, 1, none⟩ (.int .i64 0)).setCell ⟨b, 2, none⟩ (.int .u64 0)).setCell ⟨b, 3, none⟩ (.int .u64 0)).setCell ⟨b, 4, none⟩ (.int .u64 0)).setCell ⟨b, 5, none⟩ (.int .u64 0)).setCell ⟨b, 7, none⟩ (.int .i64 m)).drew = w6 := ⟨_, rfl⟩
    obtain ⟨hb6, ho6, hs6, hbut⟩ := left_put g m HBX.out w6 hw6
    rw [hw6]
    clear hw6
    have HB6 := Lib.hid hb6
    have HO6 := Lib.hid ho6
    have HS6 := Lib.hid hs6
    have HBUT := Lib.hid ((But2.of_new HN.out).trans hbut)
    have hown : w6.ownsRow 0 23 1 (.slice x k cap2) k ((l.take k).map fun x => .int .u64 (W64 x)) := own_words HT.out.taken w6 fun g' e => HO6.out g' (HT.out.own g' e).2.1
    have c6 : w6.cell? ⟨b, 6, none⟩ = some (.slice x k cap2) := cell_of_row _ _ 6 _ _ _ HB6.out
    have hbl : b < w6.heap.size := lt_of_block HB6.out
    clear hb6 ho6 hs6 hbut
    go_wp2_with (at_builtin; refine wpList_append_lies _ rfl _ _ 28 rfl 0 23 i0 (.int .u64 0) 1 8 Tryz.underlying28 hi hz0 hz1 hz2 rfl (by decide) _ k _ rfl (hown.alloc _) ⟨w6.heap.size, 0, none⟩ 1 1 [.int .u64 (W64 z)] rfl rfl ?c1 ?c2 (by decide) ?c3 ?c4 (Nat.zero_le _) (w6.heap.size + 1) (by simp) ?_)
    case c1 => exact new_cells_t w6 _ _
    case c2 => intro u hu; simp at hu; subst hu; rfl
    case c3 => unfold maxLen; omega
    case c4 => omega
    intro g2 cap3 w7 how hgr hat hlt
    have hb7 : w7.heap[b]? = some (.cells (tapeCells c (.slice x k cap2) m) 70 (0, 0)) := by
      rw [hgr.block b (by simp; omega) (fun e => (HT.out.own b e.symm).2.1 rfl)]
      exact (((New.refl w6).alloc _).block _ hbl).trans HB6.out
    have c6' : w7.cell? ⟨b, 6, none⟩ = some (.slice x k cap2) := cell_of_row _ _ 6 _ _ _ hb7
    have hbf : ∀ i, w7.frozen? ⟨b, i, none⟩ = false := fun i => frozen_of_row _ _ _ _ _ hb7
    have HB7 := Lib.hid hb7
    have HOW := Lib.hid how
    have HGR := Lib.hid hgr
    have HAT := Lib.hid hat
    clear hb7 how hgr hat hown c6
    go_wp2
    go_ret2
    refine ⟨rfl, g2, ?_, ?_, ?_⟩
    · have hle := HT.out.le
      have hwl := HT.out.words
      have hcl : c < wc.heap.size := lt_of_block HT.out.cell
      have hsz : w6.heap.size = wc.heap.size := HS6.out
      have hother : ∀ i, i < wc.heap.size → i ≠ b → (∀ g', Value.ownBlock (.slice x k cap2) = some g' → g' ≠ i) → (w7.setCell ⟨b, 6, none⟩ (.slice (some ⟨g2, 0, none⟩) (k + 1) cap3)).heap[i]? = wc.heap[i]? := by
        intro i hil hib hio
        rw [heap_setCell_other _ _ _ _ hib, HGR.out.block i (by simp; omega) (fun e => hio i e.symm rfl)]
        exact (((New.refl w6).alloc _).block _ (by omega)).trans (HO6.out i hib)
      have hg2 : g2 ≠ b ∧ g2 ≠ c ∧ ∀ x, a = some x → 0 < l.length → x.block ≠ g2 := by
        rcases HAT.out with e | e
        · exact (HT.out.own g2 e).2
        · refine ⟨by omega, by omega, fun x e2 h0 => ?_⟩
          have := hwl.old x e2 h0
          omega
      refine ⟨c, .slice (some ⟨g2, 0, none⟩) (k + 1) cap3, a, cap, ?_, ?_, HT.out.cb, ?_, HT.out.wb, by have := HHM.out; omega, ?_, ?_, (fun e => by cases e), HT.out.low⟩
      · rw [HM2.out]
        exact heap_setCell_same w7 b 6 _ _ _ HB7.out
      · rw [hother c hcl HT.out.cb (fun g' e => (HT.out.own g' e).2.2.1)]; exact HT.out.cell
      · refine QRow.held hwl (by rw [show (World.setCell _ _ _).heap.size = w7.heap.size by simp [World.setCell]]; have := HGR.out.size; simp at this; omega) fun y e h0 => ?_
        exact hother _ (hwl.old y e h0) (HT.out.wb y e h0) (fun g' e2 e3 => (HT.out.own g' e2).2.2.2 y e h0 e3.symm)
      · refine own_words (w := w7) ?_ _ (fun g' e => ?_)
        · have h1 := HOW.out
          have h2 : (l.take (k + 1)).map (fun x => Value.int .u64 (W64 x)) = (l.take k).map (fun x => Value.int .u64 (W64 x)) ++ [.int .u64 (W64 z)] := by
            have hkl : k < l.length := by have := HHM.out; omega
            rw [List.take_add_one, List.map_append, List.getElem?_eq_getElem hkl, ← HZ.out, List.getD_eq_getElem?_getD, List.getElem?_eq_getElem hkl]; rfl
          rw [h2]
          first | exact h1 | (rw [List.map_take]; exact h1)
        · cases e
          exact heap_setCell_other _ _ _ _ hg2.1
      · intro g' e
        cases e
        exact ⟨rfl, hg2⟩
    · refine But2.setCell (But2.grown (HBUT.out.then ((New.refl w6).alloc _)) HGR.out (fun i e => (HT.out.own i e).1)) (Or.inl rfl) _
    · rcases HAT.out with e | e
      · exact Or.inl (HT.out.own g2 e).1
      · right; have := HBUT.out.size; omega
end Go.Proofs.YtdjlbpgjbgepdaaGreat
namespace Go.Proofs.YtdjlbpgjbgepdaaGreat
open Go.RowKit Go.Bv
set_option linter.unusedVariables false
theorem QRow.take {w : World} {a : Option Addr} {len cap : Nat} {l : List (BitVec 64)} (h : QRow w a len cap l) (k : Nat) (hk : k < len) : QRow w a k cap (l.take k) where
  len_eq := by rw [List.length_take, h.len_eq]; omega
  le := by have := h.le; omega
  most := by have := h.most; omega
  room := h.room
  none := fun e => by have := h.none e; omega
  cell := fun b off e i hi => by
    rw [h.cell b off e i (by omega), List.getD_eq_getElem?_getD, List.getD_eq_getElem?_getD, List.getElem?_take, if_pos hi]
  spot := fun x e h0 => h.spot x e (by omega)
  old := fun x e h0 => h.old x e (by omega)
theorem one_row (w : World) (x : BitVec 64) : QRow (w.alloc (.cells #[.int .u64 (W64 x)] 23)) (some ⟨w.heap.size, 0, none⟩) 1 1 [x] where
  len_eq := rfl
  le := Nat.le_refl _
  most := by omega
  room := by omega
  none := fun e => by cases e
  cell := fun b off e i hi => by
    cases e
    obtain rfl : i = 0 := by omega
    exact cell_of_row _ _ 0 _ _ _ (heap_alloc_new w _)
  spot := fun x e h0 => by cases e; rfl
  old := fun x e h0 => by cases e; simp
end Go.Proofs.YtdjlbpgjbgepdaaGreat
namespace Go.Bv
open Go Go.RowKit
theorem But2.step {b g0 g : Nat} {w u v : World} (h : But2 b g0 w u) (hg : g = g0 ∨ w.heap.size ≤ g) (k : But2 b g u v) : But2 b g0 w v where
  size := Nat.le_trans h.size k.size
  block := fun i hi hb hg0 => (k.block i (Nat.lt_of_lt_of_le hi h.size) hb (by rcases hg with e | e <;> omega)).trans (h.block i hi hb hg0)
  new := fun W h2 hb hg0 => k.new W (h.new W h2 hb hg0) hb (by have := h2.le; rcases hg with e | e <;> omega)
theorem But2.fresh {b g : Nat} {w v : World} (h : But2 b g w v) {p : Addr} (hp : w.heap.size ≤ p.block) (x : Value) : But2 b g w (v.setCell p x) where
  size := by rw [show (v.setCell p x).heap.size = v.heap.size by simp [World.setCell]]; exact h.size
  block := fun i hi hb hg => (Below.heap_setCell v p x i (by omega)).trans (h.block i hi hb hg)
  new := fun W h2 hb hg => (h.new W h2 hb hg).setCell (by have := h2.le; omega) _
end Go.Bv
namespace Go.Proofs.YtdjlbpgjbgepdaaGreat
open Go.RowKit Go.Bv
theorem Tape.lt {w : World} {b g : Nat} {l : List (BitVec 64)} {k : Nat} (h : Tape w b g l k) : b < w.heap.size ∧ g < w.heap.size := by
  obtain ⟨c, v, a, cap, h⟩ := h
  refine ⟨lt_of_block h.box, ?_⟩
  cases hv : v.ownBlock with
  | none => rw [h.nil hv]; exact lt_of_block h.box
  | some g' => rw [← (h.own g' hv).1]; exact (h.taken.lt g' hv).2
/-- what lies in a block above the tape's box, and not in that of its taken words, does not touch it -/
theorem Tape.put {w : World} {b g : Nat} {l : List (BitVec 64)} {k r : Nat} (h : Tape w b g l k) (hr : b < r) (hg : r ≠ g) (i : Nat) (x : Value) : Tape (w.setCell ⟨r, i, none⟩ x) b g l k := by
  obtain ⟨c, v, a, cap, h⟩ := h
  have ho : ∀ j, j ≠ r → (w.setCell ⟨r, i, none⟩ x).heap[j]? = w.heap[j]? := fun j hj => heap_setCell_other _ _ _ _ hj
  refine ⟨c, v, a, cap, (ho b (by omega)).trans h.box, (ho c (by have := h.low.1; omega)).trans h.cell, h.cb, QRow.held h.words (by rw [size_set]; omega) (fun y e h0 => ho _ (by have := h.low.2 y e h0; omega)), h.wb, h.le, own_words h.taken _ (fun g' e => ho _ (by have := (h.own g' e).1; omega)), h.own, h.nil, h.low⟩
end Go.Proofs.YtdjlbpgjbgepdaaGreat
