/- Layer 43: the document's Build: its memory, and the walk. -/
import Derived.Test.YtbjclkjikclljaaAlbD
import Derived.Test.YtbjclkjikclljaaAliF
namespace Go.Proofs.Ytbjclkjikclljaa
open Go Go.RowKit Go.Bv Go.Ali
set_option linter.unusedVariables false
set_option maxRecDepth 100000
/-- the rows lie apart -/
structure RA (W gh gd gb ga : Nat) : Prop where
  l1 : W + 2 ≤ gh
  l2 : W + 2 ≤ gd
  l3 : W + 2 ≤ gb
  l4 : W + 2 ≤ ga
  n1 : gh ≠ gd ∧ gh ≠ gb ∧ gh ≠ ga
  n2 : gd ≠ gb ∧ gd ≠ ga ∧ gb ≠ ga
structure RX (w wr : World) (gh gd gb ga n cb ca : Nat) (T : BitVec 64) (s : St) : Prop where
  box : SB w wr T (.slice (some ⟨gb, 0, none⟩) n cb) (.slice (some ⟨ga, 0, none⟩) n ca)
  h : PX wr gh 24 n (fun i => .int .u64 (W64 (s.has i)))
  d : PX wr gd 4 n (fun i => .bool (s.fl i))
  b : PX wr gb 24 n (fun i => .int .u64 (W64 (s.be i)))
  a : PX wr ga 3 n (fun i => .int .i64 ((s.al i : Nat) : Int))
theorem RX.stay {w wr w2 : World} {gh gd gb ga n cb ca : Nat} {T : BitVec 64} {s : St} (h : RX w wr gh gd gb ga n cb ca T s) (hn : New wr w2) : RX w w2 gh gd gb ga n cb ca T s :=
  ⟨h.box.stay hn, h.h.stay hn, h.d.stay hn, h.b.stay hn, h.a.stay hn⟩
theorem SB.far {w wr : World} {T : BitVec 64} {vb va : Value} (h : SB w wr T vb va) {g i : Nat} (hg : w.heap.size + 2 ≤ g) (v : Value) : SB w (wr.setCell ⟨g, i, none⟩ v) T vb va :=
  ⟨h.new.setCell (p := ⟨g, i, none⟩) (by show w.heap.size ≤ g; omega) _, (heap_setCell_other _ _ _ _ (by show w.heap.size ≠ g; omega)).trans h.rs, (heap_setCell_other _ _ _ _ (by show w.heap.size + 1 ≠ g; omega)).trans h.tb⟩
theorem RX.putH {w wr : World} {gh gd gb ga n cb ca : Nat} {T : BitVec 64} {s : St} (h : RX w wr gh gd gb ga n cb ca T s) (A : RA w.heap.size gh gd gb ga) {i : Nat} (hi : i < n) (x : BitVec 64) :
    RX w (wr.setCell ⟨gh, i, none⟩ (.int .u64 (W64 x))) gh gd gb ga n cb ca T ⟨upd s.has i x, s.fl, s.be, s.al⟩ := by
  obtain ⟨l1, l2, l3, l4, ⟨a1, a2, a3⟩, ⟨b1, b2, b3⟩⟩ := A
  exact ⟨h.box.far l1 _, h.h.put hi _ (by show Value.int .u64 (W64 (upd s.has i x i)) = _; rw [upd_same]) (fun j _ hj => by show Value.int .u64 (W64 (upd s.has i x j)) = _; rw [upd_other _ _ hj]), h.d.keep (Ne.symm a1) _, h.b.keep (Ne.symm a2) _, h.a.keep (Ne.symm a3) _⟩
theorem RX.putD {w wr : World} {gh gd gb ga n cb ca : Nat} {T : BitVec 64} {s : St} (h : RX w wr gh gd gb ga n cb ca T s) (A : RA w.heap.size gh gd gb ga) {i : Nat} (hi : i < n) (x : Bool) :
    RX w (wr.setCell ⟨gd, i, none⟩ (.bool x)) gh gd gb ga n cb ca T ⟨s.has, upd s.fl i x, s.be, s.al⟩ := by
  obtain ⟨l1, l2, l3, l4, ⟨a1, a2, a3⟩, ⟨b1, b2, b3⟩⟩ := A
  exact ⟨h.box.far l2 _, h.h.keep a1 _, h.d.put hi _ (by show Value.bool (upd s.fl i x i) = _; rw [upd_same]) (fun j _ hj => by show Value.bool (upd s.fl i x j) = _; rw [upd_other _ _ hj]), h.b.keep (Ne.symm b1) _, h.a.keep (Ne.symm b2) _⟩
theorem RX.putB {w wr : World} {gh gd gb ga n cb ca : Nat} {T : BitVec 64} {s : St} (h : RX w wr gh gd gb ga n cb ca T s) (A : RA w.heap.size gh gd gb ga) {i : Nat} (hi : i < n) (x : BitVec 64) :
    RX w (wr.setCell ⟨gb, i, none⟩ (.int .u64 (W64 x))) gh gd gb ga n cb ca T ⟨s.has, s.fl, upd s.be i x, s.al⟩ := by
  obtain ⟨l1, l2, l3, l4, ⟨a1, a2, a3⟩, ⟨b1, b2, b3⟩⟩ := A
  exact ⟨h.box.far l3 _, h.h.keep a2 _, h.d.keep b1 _, h.b.put hi _ (by show Value.int .u64 (W64 (upd s.be i x i)) = _; rw [upd_same]) (fun j _ hj => by show Value.int .u64 (W64 (upd s.be i x j)) = _; rw [upd_other _ _ hj]), h.a.keep (Ne.symm b3) _⟩
theorem RX.putA {w wr : World} {gh gd gb ga n cb ca : Nat} {T : BitVec 64} {s : St} (h : RX w wr gh gd gb ga n cb ca T s) (A : RA w.heap.size gh gd gb ga) {i : Nat} (hi : i < n) (x : Nat) :
    RX w (wr.setCell ⟨ga, i, none⟩ (.int .i64 (x : Int))) gh gd gb ga n cb ca T ⟨s.has, s.fl, s.be, upd s.al i x⟩ := by
  obtain ⟨l1, l2, l3, l4, ⟨a1, a2, a3⟩, ⟨b1, b2, b3⟩⟩ := A
  exact ⟨h.box.far l4 _, h.h.keep a3 _, h.d.keep b2 _, h.b.keep b3 _, h.a.put hi _ (by show Value.int .i64 ((upd s.al i x i : Nat) : Int) = _; rw [upd_same]) (fun j _ hj => by show Value.int .i64 ((upd s.al i x j : Nat) : Int) = _; rw [upd_other _ _ hj])⟩
theorem RX.put {w wr : World} {gh gd gb ga n cb ca : Nat} {T : BitVec 64} {s : St} (h : RX w wr gh gd gb ga n cb ca T s) (A : RA w.heap.size gh gd gb ga) {j g : Nat} (hj : j < n) (hg : g < n) :
    RX w ((((wr.setCell ⟨gb, j, none⟩ (.int .u64 (W64 (s.has j)))).setCell ⟨ga, j, none⟩ (.int .i64 (g : Int))).setCell ⟨gd, j, none⟩ (.bool true)).setCell ⟨gh, g, none⟩ (.int .u64 (W64 (s.has g - (T - s.has j))))) gh gd gb ga n cb ca T (put T s j g) :=
  (((h.putB A hj _).putA A hj g).putD A hj true).putH A hg _
/-- how many columns are open, read out of the memory -/
theorem msP_is {g n : Nat} {w : World} {fl : Nat → Bool} (h : PX w g 4 n (fun i => .bool (fl i))) : msF g n w = unf fl n := by
  unfold msF
  refine unf_congr fun i hi => ?_
  rw [h.get hi]
theorem tl_px {wr : World} {gb ga n cb ca : Nat} {s : St} (hb : PX wr gb 24 n (fun i => .int .u64 (W64 (s.be i)))) (hal : PX wr ga 3 n (fun i => .int .i64 ((s.al i : Nat) : Int))) (hn : n ≤ 256) (h1 : n ≤ cb) (h2 : cb ≤ 9223372036854775807) (h3 : n ≤ ca) (h4 : ca ≤ 9223372036854775807) (ha : ∀ i, i < n → s.al i < n) : TL wr (some ⟨gb, 0, none⟩) n cb (some ⟨ga, 0, none⟩) n ca (beL n s) (alL n s) := by
  refine ⟨⟨by unfold beL; simp, h1, by omega, h2, (fun e => by cases e), (fun b off e i hi => ?_), (fun x e _ => by cases e; rfl), (fun x e _ => by cases e; exact hb.lt)⟩, ⟨by unfold alL; simp, h3, by omega, h4, (fun e => by cases e), (fun b off e i hi => ?_), (fun x e _ => by cases e; rfl), (fun x e _ => by cases e; exact hal.lt), fun z hz => ?_⟩⟩
  · cases e
    unfold beL
    rw [Nat.zero_add, hb.get hi, getD_map _ _ _ _ hi]
  · cases e
    unfold alL
    rw [Nat.zero_add, hal.get hi, getD_map _ _ _ _ hi]
  · unfold alL at hz
    obtain ⟨i, hi, rfl⟩ := List.mem_map.1 hz
    have := ha i (List.mem_range.1 hi)
    unfold In64; omega
/-- from the four rows to what is made of them -/
theorem RX.start {w wr : World} {n : Nat} {T : BitVec 64} {l : List (BitVec 64)} {vh vd vb va : Value} (hn : 0 < n) (h : OK4 wr (w.heap.size + 2) n T l (sel vh vd vb va) n 0) (hb : SB w wr T vb va) :
    ∃ gh gd gb ga ch cd cb ca, vh = .slice (some ⟨gh, 0, none⟩) n ch ∧ vd = .slice (some ⟨gd, 0, none⟩) n cd ∧ vb = .slice (some ⟨gb, 0, none⟩) n cb ∧ va = .slice (some ⟨ga, 0, none⟩) n ca ∧ RA w.heap.size gh gd gb ga ∧ n ≤ cb ∧ cb ≤ 9223372036854775807 ∧ n ≤ ca ∧ ca ≤ 9223372036854775807 ∧ RX w wr gh gd gb ga n cb ca T (st0 n T (fun i => l.getD i 0)) := by
  obtain ⟨gh, ch, e1, _, _, q1, p1⟩ := PX.of_owns (h.own 0 (by omega)) hn
  obtain ⟨gd, cd, e2, _, _, q2, p2⟩ := PX.of_owns (h.own 1 (by omega)) hn
  obtain ⟨gb, cb, e3, b1, b2, q3, p3⟩ := PX.of_owns (h.own 2 (by omega)) hn
  obtain ⟨ga, ca, e4, b3, b4, q4, p4⟩ := PX.of_owns (h.own 3 (by omega)) hn
  have ap := h.ap
  have f1 : vh = .slice (some ⟨gh, 0, none⟩) n ch := e1
  have f2 : vd = .slice (some ⟨gd, 0, none⟩) n cd := e2
  have f3 : vb = .slice (some ⟨gb, 0, none⟩) n cb := e3
  have f4 : va = .slice (some ⟨ga, 0, none⟩) n ca := e4
  subst f1 f2 f3 f4
  refine ⟨gh, gd, gb, ga, ch, cd, cb, ca, rfl, rfl, rfl, rfl, ⟨q1, q2, q3, q4, ⟨?_, ?_, ?_⟩, ⟨?_, ?_, ?_⟩⟩, b1, b2, b3, b4, ⟨hb, p1, p2, p3, p4⟩⟩
  · intro e; subst e; exact ap 0 1 (by omega) (by omega) (by omega) gh rfl rfl
  · intro e; subst e; exact ap 0 2 (by omega) (by omega) (by omega) gh rfl rfl
  · intro e; subst e; exact ap 0 3 (by omega) (by omega) (by omega) gh rfl rfl
  · intro e; subst e; exact ap 1 2 (by omega) (by omega) (by omega) gd rfl rfl
  · intro e; subst e; exact ap 1 3 (by omega) (by omega) (by omega) gd rfl rfl
  · intro e; subst e; exact ap 2 3 (by omega) (by omega) (by omega) gb rfl rfl
end Go.Proofs.Ytbjclkjikclljaa
