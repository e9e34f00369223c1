import Derived.Test.YthkmcnlciefnfaaGreatZ5AliA
/- Layer 43: the memory while columns are made. -/
namespace Go.Proofs.YthkmcnlciefnfaaGreat
open Go Go.RowKit Go.Bv Go.Ali
set_option linter.unusedVariables false
set_option maxRecDepth 100000
/-- where all of it lies: apart -/
structure AD (W b bh bf gh gf g1 g2 : Nat) : Prop where
  l1 : W + 2 ≤ b
  l2 : W + 2 ≤ bh
  l3 : W + 2 ≤ bf
  l4 : W + 2 ≤ gh
  l5 : W + 2 ≤ gf
  l6 : W + 2 ≤ g1
  l7 : W + 2 ≤ g2
  n1 : b ≠ g1 ∧ b ≠ g2 ∧ g1 ≠ g2
  n2 : bh ≠ bf ∧ bh ≠ gh ∧ bh ≠ gf ∧ bf ≠ gh ∧ bf ≠ gf ∧ gh ≠ gf
  n3 : b ≠ bh ∧ b ≠ bf ∧ b ≠ gh ∧ b ≠ gf
  n4 : g1 ≠ bh ∧ g1 ≠ bf ∧ g1 ≠ gh ∧ g1 ≠ gf
  n5 : g2 ≠ bh ∧ g2 ≠ bf ∧ g2 ≠ gh ∧ g2 ≠ gf
structure FX (w wr : World) (b bh bf gh gf g1 g2 n : Nat) (T : BitVec 64) (s : St) : Prop where
  new : New w wr
  tb : wr.heap[b]? = some (.cells #[.int .u64 (W64 T), .slice (some ⟨g1, 0, none⟩) n n, .slice (some ⟨g2, 0, none⟩) n n] 78 (0, 0))
  rs : wr.heap[w.heap.size + 1]? = some (.cells #[.int .u64 0, .slice none 0 0, .slice none 0 0] 78 (0, 0))
  fm : FM wr bf bh w.heap.size gf gh n T s
  be : wr.rowIs g1 22 n (fun i => .int .u64 (W64 (s.be i)))
  al : wr.rowIs g2 3 n (fun i => .int .i64 ((s.al i : Nat) : Int))
theorem FX.stay {w wr w2 : World} {b bh bf gh gf g1 g2 n : Nat} {T : BitVec 64} {s : St} (h : FX w wr b bh bf gh gf g1 g2 n T s) (hn : New wr w2) : FX w w2 b bh bf gh gf g1 g2 n T s :=
  ⟨h.new.trans hn, blk_stay h.tb hn, blk_stay h.rs hn, h.fm.stay hn, ris_stay h.be hn, ris_stay h.al hn⟩
theorem hso {w : World} {g b i : Nat} {o : Obj} {v : Value} (h : w.heap[g]? = some o) (hne : g ≠ b) : (w.setCell ⟨b, i, none⟩ v).heap[g]? = some o := (heap_setCell_other _ _ _ _ hne).trans h
theorem FX.putH {w wr : World} {b bh bf gh gf g1 g2 n : Nat} {T : BitVec 64} {s : St} (h : FX w wr b bh bf gh gf g1 g2 n T s) (A : AD w.heap.size b bh bf gh gf g1 g2) (i : Nat) (x : BitVec 64) :
    FX w (wr.setCell ⟨gh, i, none⟩ (.int .u64 (W64 x))) b bh bf gh gf g1 g2 n T ⟨upd s.has i x, s.fl, s.be, s.al⟩ := by
  obtain ⟨l1, l2, l3, l4, l5, l6, l7, ⟨a1, a2, a3⟩, ⟨b1, b2, b3, b4, b5, b6⟩, ⟨c1, c2, c3, c4⟩, ⟨d1, d2, d3, d4⟩, ⟨e1, e2, e3, e4⟩⟩ := A
  refine ⟨h.new.setCell (p := ⟨gh, i, none⟩) (by show w.heap.size ≤ gh; omega) _, hso h.tb c3, hso h.rs (by omega), ⟨hso h.fm.b1 b4, hso h.fm.b2 b2, hso h.fm.b3 (by omega), h.fm.fl.setOther (Ne.symm b6) _, (h.fm.hs.set i _).congr (fun j _ => ?_)⟩, h.be.setOther d3 _, h.al.setOther e3 _⟩
  show (if j = i then Value.int .u64 (W64 x) else .int .u64 (W64 (s.has j))) = .int .u64 (W64 (upd s.has i x j))
  unfold upd
  split <;> rfl
theorem FX.putB {w wr : World} {b bh bf gh gf g1 g2 n : Nat} {T : BitVec 64} {s : St} (h : FX w wr b bh bf gh gf g1 g2 n T s) (A : AD w.heap.size b bh bf gh gf g1 g2) (i : Nat) (x : BitVec 64) :
    FX w (wr.setCell ⟨g1, i, none⟩ (.int .u64 (W64 x))) b bh bf gh gf g1 g2 n T ⟨s.has, s.fl, upd s.be i x, s.al⟩ := by
  obtain ⟨l1, l2, l3, l4, l5, l6, l7, ⟨a1, a2, a3⟩, ⟨b1, b2, b3, b4, b5, b6⟩, ⟨c1, c2, c3, c4⟩, ⟨d1, d2, d3, d4⟩, ⟨e1, e2, e3, e4⟩⟩ := A
  refine ⟨h.new.setCell (p := ⟨g1, i, none⟩) (by show w.heap.size ≤ g1; omega) _, hso h.tb a1, hso h.rs (by omega), ⟨hso h.fm.b1 (Ne.symm d2), hso h.fm.b2 (Ne.symm d1), hso h.fm.b3 (by omega), h.fm.fl.setOther (Ne.symm d4) _, h.fm.hs.setOther (Ne.symm d3) _⟩, (h.be.set i _).congr (fun j _ => ?_), h.al.setOther (Ne.symm a3) _⟩
  show (if j = i then Value.int .u64 (W64 x) else .int .u64 (W64 (s.be j))) = .int .u64 (W64 (upd s.be i x j))
  unfold upd
  split <;> rfl
theorem FX.putA {w wr : World} {b bh bf gh gf g1 g2 n : Nat} {T : BitVec 64} {s : St} (h : FX w wr b bh bf gh gf g1 g2 n T s) (A : AD w.heap.size b bh bf gh gf g1 g2) (i x : Nat) :
    FX w (wr.setCell ⟨g2, i, none⟩ (.int .i64 (x : Int))) b bh bf gh gf g1 g2 n T ⟨s.has, s.fl, s.be, upd s.al i x⟩ := by
  obtain ⟨l1, l2, l3, l4, l5, l6, l7, ⟨a1, a2, a3⟩, ⟨b1, b2, b3, b4, b5, b6⟩, ⟨c1, c2, c3, c4⟩, ⟨d1, d2, d3, d4⟩, ⟨e1, e2, e3, e4⟩⟩ := A
  refine ⟨h.new.setCell (p := ⟨g2, i, none⟩) (by show w.heap.size ≤ g2; omega) _, hso h.tb a2, hso h.rs (by omega), ⟨hso h.fm.b1 (Ne.symm e2), hso h.fm.b2 (Ne.symm e1), hso h.fm.b3 (by omega), h.fm.fl.setOther (Ne.symm e4) _, h.fm.hs.setOther (Ne.symm e3) _⟩, h.be.setOther a3 _, (h.al.set i _).congr (fun j _ => ?_)⟩
  show (if j = i then Value.int .i64 (x : Int) else .int .i64 ((s.al j : Nat) : Int)) = .int .i64 ((upd s.al i x j : Nat) : Int)
  unfold upd
  split <;> rfl
theorem FX.putF {w wr : World} {b bh bf gh gf g1 g2 n : Nat} {T : BitVec 64} {s : St} (h : FX w wr b bh bf gh gf g1 g2 n T s) (A : AD w.heap.size b bh bf gh gf g1 g2) (i : Nat) (x : Bool) :
    FX w (wr.setCell ⟨gf, i, none⟩ (.bool x)) b bh bf gh gf g1 g2 n T ⟨s.has, upd s.fl i x, s.be, s.al⟩ := by
  obtain ⟨l1, l2, l3, l4, l5, l6, l7, ⟨a1, a2, a3⟩, ⟨b1, b2, b3, b4, b5, b6⟩, ⟨c1, c2, c3, c4⟩, ⟨d1, d2, d3, d4⟩, ⟨e1, e2, e3, e4⟩⟩ := A
  refine ⟨h.new.setCell (p := ⟨gf, i, none⟩) (by show w.heap.size ≤ gf; omega) _, hso h.tb c4, hso h.rs (by omega), ⟨hso h.fm.b1 b5, hso h.fm.b2 b3, hso h.fm.b3 (by omega), (h.fm.fl.set i _).congr (fun j _ => ?_), h.fm.hs.setOther b6 _⟩, h.be.setOther d4 _, h.al.setOther e4 _⟩
  show (if j = i then Value.bool x else .bool (s.fl j)) = .bool (upd s.fl i x j)
  unfold upd
  split <;> rfl
theorem FX.congr {w wr : World} {b bh bf gh gf g1 g2 n : Nat} {T : BitVec 64} {s s' : St} (h : FX w wr b bh bf gh gf g1 g2 n T s) (e1 : ∀ i, i < n → s.has i = s'.has i) (e2 : ∀ i, i < n → s.fl i = s'.fl i) (e3 : ∀ i, i < n → s.be i = s'.be i) (e4 : ∀ i, i < n → s.al i = s'.al i) : FX w wr b bh bf gh gf g1 g2 n T s' :=
  ⟨h.new, h.tb, h.rs, ⟨h.fm.b1, h.fm.b2, h.fm.b3, h.fm.fl.congr (fun i hi => by rw [e2 i hi]), h.fm.hs.congr (fun i hi => by rw [e1 i hi])⟩, h.be.congr (fun i hi => by rw [e3 i hi]), h.al.congr (fun i hi => by rw [e4 i hi])⟩
/-- what is there behind k rounds of the first loop -/
def stK (n : Nat) (T : BitVec 64) (wl : Nat → BitVec 64) (k : Nat) : St := ⟨fun i => if i < k then BitVec.ofNat 64 n * wl i else 0#64, fun _ => false, fun i => if i < k then T else 0#64, fun i => if i < k then i else 0⟩
theorem stK_zero (n : Nat) (T : BitVec 64) (wl : Nat → BitVec 64) (i : Nat) : (stK n T wl 0).has i = 0#64 ∧ (stK n T wl 0).be i = 0#64 ∧ (stK n T wl 0).al i = 0 := by
  refine ⟨?_, ?_, ?_⟩ <;> simp [stK]
theorem stK_end (n : Nat) (T : BitVec 64) (wl : Nat → BitVec 64) (i : Nat) (hi : i < n) : (stK n T wl n).has i = (st0 n T wl).has i ∧ (stK n T wl n).be i = (st0 n T wl).be i ∧ (stK n T wl n).al i = (st0 n T wl).al i := by
  refine ⟨?_, ?_, ?_⟩ <;> simp [stK, st0, hi]
theorem wz43 : Value.int .u64 0 = .int .u64 (W64 0#64) := by rw [W64_lit 0 (by omega)]; rfl
theorem upK {α : Type} (f : Nat → α) (z : α) (k i : Nat) : upd (fun j => if j < k then f j else z) k (f k) i = if i < k + 1 then f i else z := by
  unfold upd
  by_cases e : i = k
  · subst e; rw [if_pos rfl, if_pos (by omega)]
  · rw [if_neg e]
    show (if i < k then f i else z) = _
    by_cases e2 : i < k
    · rw [if_pos e2, if_pos (by omega)]
    · rw [if_neg e2, if_neg (by omega)]
theorem FX.round {w wr : World} {b bh bf gh gf g1 g2 n : Nat} {T : BitVec 64} {wl : Nat → BitVec 64} {k : Nat} (h : FX w wr b bh bf gh gf g1 g2 n T (stK n T wl k)) (A : AD w.heap.size b bh bf gh gf g1 g2) :
    FX w (((wr.setCell ⟨gh, k, none⟩ (.int .u64 (W64 (BitVec.ofNat 64 n * wl k)))).setCell ⟨g1, k, none⟩ (.int .u64 (W64 T))).setCell ⟨g2, k, none⟩ (.int .i64 (k : Int))) b bh bf gh gf g1 g2 n T (stK n T wl (k + 1)) :=
  (((h.putH A k _).putB A k T).putA A k k).congr (fun i _ => upK (fun i => BitVec.ofNat 64 n * wl i) 0#64 k i) (fun i _ => rfl) (fun i _ => upK (fun _ => T) 0#64 k i) (fun i _ => upK (fun i => i) 0 k i)
theorem FX.put {w wr : World} {b bh bf gh gf g1 g2 n : Nat} {T : BitVec 64} {s : St} (h : FX w wr b bh bf gh gf g1 g2 n T s) (A : AD w.heap.size b bh bf gh gf g1 g2) (j g : Nat) :
    FX w ((((wr.setCell ⟨g1, j, none⟩ (.int .u64 (W64 (s.has j)))).setCell ⟨g2, j, none⟩ (.int .i64 (g : Int))).setCell ⟨gf, j, none⟩ (.bool true)).setCell ⟨gh, g, none⟩ (.int .u64 (W64 (s.has g - (T - s.has j))))) b bh bf gh gf g1 g2 n T (put T s j g) :=
  (((h.putB A j _).putA A j g).putF A j true).putH A g _
/-- how many columns are open, read out of the memory -/
def msFA (gf n : Nat) (w : World) : Nat := unf (fun i => match w.cell? ⟨gf, i, none⟩ with | some (.bool x) => x | _ => false) n
theorem unf_congr {f g : Nat → Bool} : ∀ {n : Nat}, (∀ i, i < n → f i = g i) → unf f n = unf g n
  | 0, _ => rfl
  | n + 1, h => by show unf f n + _ = unf g n + _; rw [unf_congr (fun i hi => h i (by omega)), h n (by omega)]
theorem msF_is {gf n : Nat} {w : World} {fl : Nat → Bool} (h : w.rowIs gf 4 n (fun i => .bool (fl i))) : msFA gf n w = unf fl n := by
  unfold msFA
  refine unf_congr fun i hi => ?_
  rw [h.cell hi]
end Go.Proofs.YthkmcnlciefnfaaGreat
