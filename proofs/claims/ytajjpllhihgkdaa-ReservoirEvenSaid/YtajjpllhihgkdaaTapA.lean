/- Contracts of layer 37: a tape of words: what its memory holds; slices.Clone; New, made, Used, Left, Taken. -/
import Derived.Test.YtajjpllhihgkdaaShelf
import Derived.Test.YtajjpllhihgkdaaRowQ
import Derived.Test.YtajjpllhihgkdaaBut
import Derived.Deep.OwnRows
import Derived.OneCell
import Derived.Deep.AppendLies
import Derived.Handy
import Derived.BigRegion
namespace Go.Bv
open Go Go.RowKit
/-- nothing of w has changed in v, but what lies in the blocks b and g -/
structure But2 (b g : Nat) (w v : World) : Prop where
  size : w.heap.size ≤ v.heap.size
  block : ∀ k, k < w.heap.size → k ≠ b → k ≠ g → v.heap[k]? = w.heap[k]?
  new : ∀ W, New W w → W.heap.size ≤ b → W.heap.size ≤ g → New W v
theorem But2.refl (b g : Nat) (w : World) : But2 b g w w := ⟨Nat.le_refl _, fun _ _ _ _ => rfl, fun _ h _ _ => h⟩
theorem But2.of_new {b g : Nat} {w v : World} (h : New w v) : But2 b g w v := ⟨h.le, fun k hk _ _ => h.block k hk, fun _ h2 _ _ => h2.trans h⟩
theorem But2.trans {b g : Nat} {u w v : World} (h : But2 b g u w) (k : But2 b g w v) : But2 b g u v :=
  ⟨Nat.le_trans h.size k.size, fun i hi hb hg => (k.block i (Nat.lt_of_lt_of_le hi h.size) hb hg).trans (h.block i hi hb hg), fun W h2 hb hg => k.new W (h.new W h2 hb hg) hb hg⟩
theorem But2.then {b g : Nat} {u w v : World} (h : But2 b g u w) (k : New w v) : But2 b g u v := h.trans (But2.of_new k)
theorem But2.setCell {b g : Nat} {u w : World} (h : But2 b g u w) {p : Addr} (hp : p.block = b ∨ p.block = g) (x : Value) : But2 b g u (w.setCell p x) :=
  ⟨by rw [show (w.setCell p x).heap.size = w.heap.size by simp [World.setCell]]; exact h.size,
   fun i hi hb hg => (Below.heap_setCell w p x i (by rcases hp with e | e <;> rw [e] <;> omega)).trans (h.block i hi hb hg), fun W h2 hb hg => (h.new W h2 hb hg).setCell (by rcases hp with e | e <;> rw [e] <;> omega) _⟩
theorem two_blocks (w : World) (A B : Obj) : ((w.alloc A).alloc B).heap[w.heap.size]? = some A ∧ ((w.alloc A).alloc B).heap[w.heap.size + 1]? = some B ∧ New w ((w.alloc A).alloc B) := by
  have e1 : (w.alloc A).heap.size = w.heap.size + 1 := by simp
  refine ⟨?_, ?_, ((New.refl w).alloc _).alloc _⟩
  · rw [((New.refl (w.alloc A)).alloc B).block _ (by rw [e1]; omega)]; exact heap_alloc_new _ _
  · rw [← e1]; exact heap_alloc_new _ _
theorem own_words {w : World} {e : TypeId} {v : Value} {n : Nat} {l : List (BitVec 64)} (h : w.ownsRow 0 e 1 v n (l.map fun x => .int .u64 (W64 x))) (k : World) (hk : ∀ g, v.ownBlock = some g → k.heap[g]? = w.heap[g]?) : k.ownsRow 0 e 1 v n (l.map fun x => .int .u64 (W64 x)) := by
  refine ⟨h.1, ?_⟩
  rcases h.2 with hn | ⟨g, cap, cur, rfl, hb, hg, rest⟩
  · exact .inl hn
  · exact .inr ⟨g, cap, cur, rfl, hb, by rw [hk g rfl]; exact hg, rest⟩
end Go.Bv
namespace Go.Proofs.Ytajjpllhihgkdaa
open Go.RowKit Go.Bv
set_option linter.unusedVariables false
/-- the cells of a tape's box -/
def tapeCells (c : Nat) (v : Value) (left : Int) : Array Value := #[.func (Fn.func 41) #[] #[.pointer (some ⟨c, 0, none⟩)], .int .i64 0, .int .u64 0, .int .u64 0, .int .u64 0, .int .u64 0, v, .int .i64 left]
/-- what lies in the memory of a tape of the words l, k of them taken: its box b, the box c of its words, v the slice of those taken, in the block g -/
structure TapeIn (w : World) (b g : Nat) (l : List (BitVec 64)) (k : Nat) (c : Nat) (v : Value) (a : Option Addr) (cap : Nat) : Prop where
  box : w.heap[b]? = some (.cells (tapeCells c v ((l.length - k : Nat) : Int)) 68 (0, 0))
  cell : w.heap[c]? = some (.cells #[.slice a l.length cap] 38 (0, 0))
  cb : c ≠ b
  words : QRow w a l.length cap l
  wb : ∀ x, a = some x → 0 < l.length → x.block ≠ b
  le : k ≤ l.length
  taken : w.ownsRow 0 62 1 v k ((l.take k).map fun x => .int .u64 (W64 x))
  own : ∀ g', v.ownBlock = some g' → g' = g ∧ g' ≠ b ∧ g' ≠ c ∧ ∀ x, a = some x → 0 < l.length → x.block ≠ g'
  nil : v.ownBlock = none → g = b
  low : c < b ∧ ∀ x, a = some x → 0 < l.length → x.block < b
/-- a tape of the words l, k of them taken: its box b, the block g of those taken -/
def Tape (w : World) (b g : Nat) (l : List (BitVec 64)) (k : Nat) : Prop := ∃ c v a cap, TapeIn w b g l k c v a cap
theorem TapeIn.stay {w w' : World} {b g : Nat} {l : List (BitVec 64)} {k c : Nat} {v : Value} {a : Option Addr} {cap : Nat} (h : TapeIn w b g l k c v a cap) (hn : New w w') : TapeIn w' b g l k c v a cap where
  box := (hn.block _ (lt_of_block h.box)).trans h.box
  cell := (hn.block _ (lt_of_block h.cell)).trans h.cell
  cb := h.cb
  words := h.words.stay hn
  wb := h.wb
  le := h.le
  taken := own_words h.taken w' fun g' e => hn.block _ (h.taken.lt g' e).2
  own := h.own
  nil := h.nil
  low := h.low
theorem Tape.stay {w w' : World} {b g : Nat} {l : List (BitVec 64)} {k : Nat} (h : Tape w b g l k) (hn : New w w') : Tape w' b g l k := by
  obtain ⟨c, v, a, cap, h⟩ := h
  exact ⟨c, v, a, cap, h.stay hn⟩
theorem info8_u64 : (Try.prog.info? 62).map (fun i => (i.zero, i.size, i.bytes)) = some (some (.int .u64 0), 1, 8) := by kernel_rfl
set_option maxHeartbeats 1000000 in
theorem clone_q (a : Option Addr) (len cap : Nat) (l : List (BitVec 64)) (w : World) (h : QRow w a len cap l) :
    Calls Try.prog 40 #[.slice a len cap] w fun e w' => ∃ v, e = .returned v ∧ w'.ownsRow w.heap.size 62 1 v len (l.map fun x => .int .u64 (W64 x)) ∧ New w w' := by
  obtain ⟨i0, hi, hz0, hz1, hz2⟩ := info_parts info8_u64
  have hq : ∀ (w : World) (a : Option Addr) (n c n' c' : Nat), (binOp .eql 38 (.slice a n c) (.slice none n' c')).run Try.prog w = .ok (.bool a.isNone) w := fun w a n c n' c' => Lib.run_eql_slice_nil w _ _ a n c n' c' Try.underlying38
  cases a with
  | none =>
    obtain ⟨rfl, rfl⟩ := h.none rfl
    obtain rfl : l = [] := List.eq_nil_of_length_eq_zero h.len_eq
    go_enter Try.func40, Try.ntmps40
    go_wp2
    go_ret
    exact ⟨_, rfl, World.ownsRow_nil w _ _ 1, New.refl w⟩
  | some x =>
    have H := Lib.hid h
    clear h
    go_enter Try.func40, Try.ntmps40
    go_wp2_with (at_builtin; refine wpList_append_own _ rfl _ _ 38 rfl w.heap.size 62 i0 (.int .u64 0) 1 8 Try.underlying38 hi hz0 hz1 hz2 rfl (by decide) _ 0 [] rfl (World.ownsRow_made w #[] 0 (Nat.le_refl _) (Nat.zero_le _) (by simp)) x len cap (l.map fun x => .int .u64 (W64 x)) rfl ?c1 ?c2 ?c3 ?c4 ?c5 ?c6 ?_)
    case c1 => rw [List.length_map, H.out.len_eq]; omega
    case c2 => intro j u hj; exact Lib.cell?_alloc_some _ (H.out.olds x rfl j u hj)
    case c3 => intro u hu; rw [List.mem_map] at hu; obtain ⟨y, _, rfl⟩ := hu; rfl
    case c4 => have := H.out.most; unfold maxLen; omega
    case c5 => have := H.out.most; omega
    case c6 => simp
    intro v' w1 how hgr _
    have how2 : w1.ownsRow w.heap.size 62 1 v' len (l.map fun x => .int .u64 (W64 x)) := by simpa using how
    have hn1 : New w w1 := ((New.refl w).alloc _).grown' hgr (fun k hk => by simp [Value.ownBlock] at hk; omega)
    clear how hgr
    go_wp2
    go_ret
    exact ⟨_, rfl, how2, hn1⟩
end Go.Proofs.Ytajjpllhihgkdaa
