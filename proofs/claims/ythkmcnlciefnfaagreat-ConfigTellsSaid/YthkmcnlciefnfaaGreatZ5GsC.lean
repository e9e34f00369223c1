import Derived.Test.YthkmcnlciefnfaaGreatProg
import Derived.Test.YthkmcnlciefnfaaGreatZ5Frame
import Derived.Handy
import Derived.Deep.DeepCutAuto
import Derived.LoopN
import Derived.Laws.EntriesVeiled
/- All generators, by their kinds: the value of each. · All generators, by their kinds: generatorOf; Size, Name, Cost. · All generators, by their kinds: the document's Size, Name, Cost; which words a kind refuses. -/
namespace Go.Proofs.YthkmcnlciefnfaaGreat
open Go.RowKit Go.Bv
set_option linter.unusedVariables false
/-- what a kind has: its name, size, cost; its five functions, each with what it holds -/
structure Gn where
  nm : ByteArray
  sz : Int
  cs : Int
  rf : Nat
  sd : Nat × Array Value
  st : Nat × Array Value
  nx : Nat × Array Value
  jp : Nat × Array Value
def fv (p : Nat × Array Value) : Value := .func (Fn.func p.1) #[] p.2
def ptv (b : Nat) : Value := .pointer (some ⟨b, 0, none⟩)
abbrev Gn.cells (g : Gn) : Array Value := #[.string g.nm, .int .i64 g.sz, .int .i64 g.cs, .func (Fn.func g.rf) #[] #[], .func (Fn.func g.sd.1) #[] g.sd.2, .func (Fn.func g.st.1) #[] g.st.2, .func (Fn.func g.nx.1) #[] g.nx.2, .func (Fn.func g.jp.1) #[] g.jp.2]
abbrev gzc : Array Value := #[.string ⟨#[]⟩, .int .i64 0, .int .i64 0, .nilFunc, .nilFunc, .nilFunc, .nilFunc, .nilFunc]
def nmK (k : Int) : ByteArray := if k = 1 then ⟨#[115, 112, 108, 105, 116]⟩ else if k = 2 then ⟨#[120, 111, 115, 104, 42, 42]⟩ else if k = 3 then ⟨#[120, 111, 115, 104, 43, 43]⟩ else if k = 4 then ⟨#[120, 111, 115, 104, 43]⟩ else if k = 5 then ⟨#[120, 111, 114, 111, 42, 42]⟩ else if k = 6 then ⟨#[120, 111, 114, 111, 43, 43]⟩ else if k = 7 then ⟨#[112, 99, 103, 51, 50]⟩ else if k = 8 then ⟨#[112, 99, 103, 54, 52]⟩ else ⟨#[]⟩
def szK (k : Int) : Int := if k = 1 then 1 else if k = 2 ∨ k = 3 ∨ k = 4 ∨ k = 8 then 4 else if k = 5 ∨ k = 6 ∨ k = 7 then 2 else 0
def csK (k : Int) : Int := if k = 7 then 2 else if 1 ≤ k ∧ k ≤ 8 then 1 else 0
def xoF (k : Int) : Nat := if k = 2 then 82 else if k = 3 then 83 else 81
inductive IsGen (w : World) : Int → Gn → Prop
  | split (b : Nat) (h : w.heap[b]? = some (.cells #[.func (Fn.func 74) #[] #[]] 84 (0, 0))) :
      IsGen w 1 ⟨nmK 1, 1, 1, 76, (77, #[]), (78, #[ptv b]), (74, #[]), (79, #[])⟩
  | xosh (k : Int) (hk : k = 2 ∨ k = 3 ∨ k = 4) (b : Nat) (h : w.heap[b]? = some (.cells #[.func (Fn.func (xoF k)) #[] #[]] 126 (0, 0))) :
      IsGen w k ⟨nmK k, 4, 1, 84, (85, #[]), (87, #[]), (88, #[ptv b]), (89, #[])⟩
  | xoro (k : Int) (hk : k = 5 ∨ k = 6) (b b4 b5 b6 : Nat) (h : w.heap[b]? = some (.cells #[.int .i64 k] 3 (0, 0)))
      (h4 : w.heap[b4]? = some (.cells #[.func (Fn.func 90) #[] #[]] 131 (0, 0)))
      (h5 : w.heap[b5]? = some (.cells #[.func (Fn.func 91) #[] #[]] 132 (0, 0)))
      (h6 : w.heap[b6]? = some (.cells #[.func (Fn.func 92) #[] #[ptv b5, ptv b, ptv b4]] 83 (0, 0))) :
      IsGen w k ⟨nmK k, 2, 1, 84, (94, #[ptv b5]), (92, #[ptv b5, ptv b, ptv b4]), (96, #[ptv b, ptv b4, ptv b6]), (98, #[ptv b5, ptv b, ptv b4])⟩
  | pcg32 : IsGen w 7 ⟨nmK 7, 2, 2, 100, (101, #[]), (104, #[]), (105, #[]), (106, #[])⟩
  | pcg64 : IsGen w 8 ⟨nmK 8, 4, 1, 108, (109, #[]), (112, #[]), (113, #[]), (114, #[])⟩
theorem IsGen.stay {w w' : World} {k : Int} {g : Gn} (h : IsGen w k g) (hn : New w w') : IsGen w' k g := by
  cases h with
  | split b h => exact .split b ((hn.block _ (lt_of_block h)).trans h)
  | xosh k hk b h => exact .xosh k hk b ((hn.block _ (lt_of_block h)).trans h)
  | xoro k hk b b4 b5 b6 h h4 h5 h6 => exact .xoro k hk b b4 b5 b6 ((hn.block _ (lt_of_block h)).trans h) ((hn.block _ (lt_of_block h4)).trans h4) ((hn.block _ (lt_of_block h5)).trans h5) ((hn.block _ (lt_of_block h6)).trans h6)
  | pcg32 => exact .pcg32
  | pcg64 => exact .pcg64
/-- .. and what it holds lies in blocks from n on, that a write elsewhere does not touch -/
def Own (n : Nat) (w : World) (k : Int) (g : Gn) : Prop := ∀ w2 : World, (∀ j, n ≤ j → j < w.heap.size → w2.heap[j]? = w.heap[j]?) → IsGen w2 k g
theorem Own.now {n : Nat} {w : World} {k : Int} {g : Gn} (h : Own n w k g) : IsGen w k g := h w fun _ _ _ => rfl
theorem Own.le {n m : Nat} {w : World} {k : Int} {g : Gn} (h : Own n w k g) (hm : m ≤ n) : Own m w k g := fun w2 h2 => h w2 fun j hj hl => h2 j (Nat.le_trans hm hj) hl
theorem Own.kept {n : Nat} {w w' : World} {k : Int} {g : Gn} (h : Own n w k g) (hs : w.heap.size ≤ w'.heap.size) (hb : ∀ j, n ≤ j → j < w.heap.size → w'.heap[j]? = w.heap[j]?) : Own n w' k g :=
  fun w2 h2 => h w2 fun j hj hl => (h2 j hj (Nat.lt_of_lt_of_le hl hs)).trans (hb j hj hl)
theorem Own.stay {n : Nat} {w w' : World} {k : Int} {g : Gn} (h : Own n w k g) (hn : New w w') : Own n w' k g := h.kept hn.size fun j _ hl => hn.block j hl
theorem Own.split {n : Nat} {w : World} (b : Nat) (hb : n ≤ b) (h : w.heap[b]? = some (.cells #[.func (Fn.func 74) #[] #[]] 84 (0, 0))) :
      Own n w 1 ⟨nmK 1, 1, 1, 76, (77, #[]), (78, #[ptv b]), (74, #[]), (79, #[])⟩ :=
  fun w2 h2 => .split b ((h2 b hb (lt_of_block h)).trans h)
theorem Own.xosh {n : Nat} {w : World} (k : Int) (hk : k = 2 ∨ k = 3 ∨ k = 4) (b : Nat) (hb : n ≤ b) (h : w.heap[b]? = some (.cells #[.func (Fn.func (xoF k)) #[] #[]] 126 (0, 0))) :
      Own n w k ⟨nmK k, 4, 1, 84, (85, #[]), (87, #[]), (88, #[ptv b]), (89, #[])⟩ :=
  fun w2 h2 => .xosh k hk b ((h2 b hb (lt_of_block h)).trans h)
theorem Own.xoro {n : Nat} {w : World} (k : Int) (hk : k = 5 ∨ k = 6) (b b4 b5 b6 : Nat) (hb : n ≤ b) (hb4 : n ≤ b4) (hb5 : n ≤ b5) (hb6 : n ≤ b6) (h : w.heap[b]? = some (.cells #[.int .i64 k] 3 (0, 0)))
      (h4 : w.heap[b4]? = some (.cells #[.func (Fn.func 90) #[] #[]] 131 (0, 0)))
      (h5 : w.heap[b5]? = some (.cells #[.func (Fn.func 91) #[] #[]] 132 (0, 0)))
      (h6 : w.heap[b6]? = some (.cells #[.func (Fn.func 92) #[] #[ptv b5, ptv b, ptv b4]] 83 (0, 0))) :
      Own n w k ⟨nmK k, 2, 1, 84, (94, #[ptv b5]), (92, #[ptv b5, ptv b, ptv b4]), (96, #[ptv b, ptv b4, ptv b6]), (98, #[ptv b5, ptv b, ptv b4])⟩ :=
  fun w2 h2 => .xoro k hk b b4 b5 b6 ((h2 b hb (lt_of_block h)).trans h) ((h2 b4 hb4 (lt_of_block h4)).trans h4) ((h2 b5 hb5 (lt_of_block h5)).trans h5) ((h2 b6 hb6 (lt_of_block h6)).trans h6)
theorem IsGen.has {w : World} {k : Int} {g : Gn} (h : IsGen w k g) : g.nm = nmK k ∧ g.sz = szK k ∧ g.cs = csK k ∧ 1 ≤ k ∧ k ≤ 8 := by
  cases h with
  | split b h => exact ⟨rfl, rfl, rfl, by omega, by omega⟩
  | xosh k hk b h => refine ⟨rfl, ?_, ?_, by omega, by omega⟩ <;> rcases hk with rfl | rfl | rfl <;> rfl
  | xoro k hk b b4 b5 b6 h h4 h5 h6 => refine ⟨rfl, ?_, ?_, by omega, by omega⟩ <;> rcases hk with rfl | rfl <;> rfl
  | pcg32 => exact ⟨rfl, rfl, rfl, by omega, by omega⟩
  | pcg64 => exact ⟨rfl, rfl, rfl, by omega, by omega⟩
theorem first_block (w : World) (A B : Obj) : ((w.alloc A).alloc B).heap[w.heap.size + 1]? = some B := by
  have e : (w.alloc A).heap.size = w.heap.size + 1 := by simp
  rw [← e]; exact heap_alloc_new _ _
set_option maxHeartbeats 400000 in
theorem of_split (w : World) : Calls Tryz.prog 55 #[] w fun e w' => (∃ g : Gn, e = .returned (.agg g.cells) ∧ Own w.heap.size w' 1 g) ∧ New w w' := by
  go_enter Tryz.func55, Tryz.ntmps55
  go_wp2_with fail
  go_returns
  refine ⟨⟨_, rfl, Own.split (w.heap.size + 1) (by omega) (first_block _ _ _)⟩, ?_⟩
  exact ((New.refl w).alloc _).alloc _
set_option maxHeartbeats 400000 in
theorem of_xoshiro (k : Int) (hk : k = 2 ∨ k = 3 ∨ k = 4) (w : World) : Calls Tryz.prog 56 #[.int .i64 k] w fun e w' => (∃ g : Gn, e = .returned (.agg g.cells) ∧ Own w.heap.size w' k g) ∧ New w w' := by
  rcases hk with rfl | rfl | rfl
  all_goals
    go_enter Tryz.func56, Tryz.ntmps56
    go_wp2_with fail
    go_returns
    refine ⟨⟨_, rfl, Own.xosh _ (by simp) (w.heap.size + 1) (by omega) (first_block _ _ _)⟩, ?_⟩
    exact ((New.refl w).alloc _).alloc _
set_option maxHeartbeats 400000 in
theorem of_pcg32 (w : World) : Calls Tryz.prog 58 #[] w fun e w' => (∃ g : Gn, e = .returned (.agg g.cells) ∧ Own w.heap.size w' 7 g) ∧ New w w' := by
  go_enter Tryz.func58, Tryz.ntmps58
  go_wp2_with fail
  go_returns
  refine ⟨⟨_, rfl, fun _ _ => IsGen.pcg32⟩, ?_⟩
  exact (New.refl w).alloc _
set_option maxHeartbeats 400000 in
theorem of_pcg64 (w : World) : Calls Tryz.prog 59 #[] w fun e w' => (∃ g : Gn, e = .returned (.agg g.cells) ∧ Own w.heap.size w' 8 g) ∧ New w w' := by
  go_enter Tryz.func59, Tryz.ntmps59
  go_wp2_with fail
  go_returns
  refine ⟨⟨_, rfl, fun _ _ => IsGen.pcg64⟩, ?_⟩
  exact (New.refl w).alloc _
theorem six_blocks (w : World) (A B C D E : Obj) : ((((((w.alloc A).alloc B).alloc C).alloc D).alloc E)).heap[w.heap.size]? = some A ∧ ((((((w.alloc A).alloc B).alloc C).alloc D).alloc E)).heap[w.heap.size + 1]? = some B ∧ ((((((w.alloc A).alloc B).alloc C).alloc D).alloc E)).heap[w.heap.size + 2]? = some C ∧ ((((((w.alloc A).alloc B).alloc C).alloc D).alloc E)).heap[w.heap.size + 3]? = some D ∧ ((((((w.alloc A).alloc B).alloc C).alloc D).alloc E)).heap[w.heap.size + 4]? = some E ∧ New w ((((((w.alloc A).alloc B).alloc C).alloc D).alloc E)) := by
  have eA : (w.alloc A).heap.size = w.heap.size + 1 := by simp
  have eB : ((w.alloc A).alloc B).heap.size = w.heap.size + 2 := by simp
  have eC : (((w.alloc A).alloc B).alloc C).heap.size = w.heap.size + 3 := by simp
  have eD : ((((w.alloc A).alloc B).alloc C).alloc D).heap.size = w.heap.size + 4 := by simp
  have hA := heap_alloc_new w A
  have hB := heap_alloc_new (w.alloc A) B
  have hC := heap_alloc_new ((w.alloc A).alloc B) C
  have hD := heap_alloc_new (((w.alloc A).alloc B).alloc C) D
  have hE := heap_alloc_new ((((w.alloc A).alloc B).alloc C).alloc D) E
  rw [eA] at hB
  rw [eB] at hC
  rw [eC] at hD
  rw [eD] at hE
  have nD := (New.refl ((((w.alloc A).alloc B).alloc C).alloc D)).alloc E
  have nC := ((New.refl (((w.alloc A).alloc B).alloc C)).alloc D).alloc E
  have nB := (((New.refl ((w.alloc A).alloc B)).alloc C).alloc D).alloc E
  have nA := ((((New.refl (w.alloc A)).alloc B).alloc C).alloc D).alloc E
  exact ⟨(nA.block _ (lt_of_block hA)).trans hA, (nB.block _ (lt_of_block hB)).trans hB, (nC.block _ (lt_of_block hC)).trans hC, (nD.block _ (lt_of_block hD)).trans hD, hE, ((((((New.refl w).alloc A).alloc B).alloc C).alloc D).alloc E)⟩
set_option maxHeartbeats 800000 in
theorem of_xoroshiro (k : Int) (hk : k = 5 ∨ k = 6) (w : World) : Calls Tryz.prog 57 #[.int .i64 k] w fun e w' => (∃ g : Gn, e = .returned (.agg g.cells) ∧ Own w.heap.size w' k g) ∧ New w w' := by
  rcases hk with rfl | rfl
  all_goals
    go_enter Tryz.func57, Tryz.ntmps57
    go_wp2_with fail
    go_returns
    exact ⟨⟨_, rfl, Own.xoro _ (by simp) w.heap.size (w.heap.size + 1 + 1) (w.heap.size + 1 + 1 + 1) (w.heap.size + 1 + 1 + 1 + 1) (by omega) (by omega) (by omega) (by omega) (six_blocks w _ _ _ _ _).1 (six_blocks w _ _ _ _ _).2.2.1 (six_blocks w _ _ _ _ _).2.2.2.1 (six_blocks w _ _ _ _ _).2.2.2.2.1⟩, (six_blocks w _ _ _ _ _).2.2.2.2.2⟩
def okK (k : Int) : Bool := decide (1 ≤ k ∧ k ≤ 8)
/-- the value of a kind, if it is one -/
def GenV (n : Nat) (w : World) (k : Int) (cs : Array Value) : Prop := (okK k = true ∧ ∃ g : Gn, cs = g.cells ∧ Own n w k g) ∨ (okK k = false ∧ cs = gzc)
abbrev put8 (w : World) (q : Nat) (v0 v1 v2 v3 v4 v5 v6 v7 : Value) : World := ((((((((w.setCell ⟨q, 0, none⟩ v0).setCell ⟨q, 1, none⟩ v1).setCell ⟨q, 2, none⟩ v2).setCell ⟨q, 3, none⟩ v3).setCell ⟨q, 4, none⟩ v4).setCell ⟨q, 5, none⟩ v5).setCell ⟨q, 6, none⟩ v6).setCell ⟨q, 7, none⟩ v7)
set_option maxHeartbeats 2000000 in
theorem put8_facts {w : World} {q : Nat} {u0 u1 u2 u3 u4 u5 u6 u7 : Value} {T : TypeId} (v0 v1 v2 v3 v4 v5 v6 v7 : Value) (h : w.heap[q]? = some (.cells #[u0, u1, u2, u3, u4, u5, u6, u7] T (0, 0))) :
    (put8 w q v0 v1 v2 v3 v4 v5 v6 v7).heap[q]? = some (.cells #[v0, v1, v2, v3, v4, v5, v6, v7] T (0, 0)) ∧ (∀ j, j ≠ q → (put8 w q v0 v1 v2 v3 v4 v5 v6 v7).heap[j]? = w.heap[j]?) ∧ (∀ W : World, New W w → W.heap.size ≤ q → New W (put8 w q v0 v1 v2 v3 v4 v5 v6 v7)) ∧ (put8 w q v0 v1 v2 v3 v4 v5 v6 v7).heap.size = w.heap.size := by
  refine ⟨?_, fun j hj => ?_, fun W hn hq => ?_, ?_⟩
  · have h0 : (w.setCell ⟨q, 0, none⟩ v0).heap[q]? = some (.cells #[v0, u1, u2, u3, u4, u5, u6, u7] T (0, 0)) := heap_setCell_same _ q 0 _ _ v0 h
    have h1 : ((w.setCell ⟨q, 0, none⟩ v0).setCell ⟨q, 1, none⟩ v1).heap[q]? = some (.cells #[v0, v1, u2, u3, u4, u5, u6, u7] T (0, 0)) := heap_setCell_same _ q 1 _ _ v1 h0
    have h2 : (((w.setCell ⟨q, 0, none⟩ v0).setCell ⟨q, 1, none⟩ v1).setCell ⟨q, 2, none⟩ v2).heap[q]? = some (.cells #[v0, v1, v2, u3, u4, u5, u6, u7] T (0, 0)) := heap_setCell_same _ q 2 _ _ v2 h1
    have h3 : ((((w.setCell ⟨q, 0, none⟩ v0).setCell ⟨q, 1, none⟩ v1).setCell ⟨q, 2, none⟩ v2).setCell ⟨q, 3, none⟩ v3).heap[q]? = some (.cells #[v0, v1, v2, v3, u4, u5, u6, u7] T (0, 0)) := heap_setCell_same _ q 3 _ _ v3 h2
    have h4 : (((((w.setCell ⟨q, 0, none⟩ v0).setCell ⟨q, 1, none⟩ v1).setCell ⟨q, 2, none⟩ v2).setCell ⟨q, 3, none⟩ v3).setCell ⟨q, 4, none⟩ v4).heap[q]? = some (.cells #[v0, v1, v2, v3, v4, u5, u6, u7] T (0, 0)) := heap_setCell_same _ q 4 _ _ v4 h3
    have h5 : ((((((w.setCell ⟨q, 0, none⟩ v0).setCell ⟨q, 1, none⟩ v1).setCell ⟨q, 2, none⟩ v2).setCell ⟨q, 3, none⟩ v3).setCell ⟨q, 4, none⟩ v4).setCell ⟨q, 5, none⟩ v5).heap[q]? = some (.cells #[v0, v1, v2, v3, v4, v5, u6, u7] T (0, 0)) := heap_setCell_same _ q 5 _ _ v5 h4
    have h6 : (((((((w.setCell ⟨q, 0, none⟩ v0).setCell ⟨q, 1, none⟩ v1).setCell ⟨q, 2, none⟩ v2).setCell ⟨q, 3, none⟩ v3).setCell ⟨q, 4, none⟩ v4).setCell ⟨q, 5, none⟩ v5).setCell ⟨q, 6, none⟩ v6).heap[q]? = some (.cells #[v0, v1, v2, v3, v4, v5, v6, u7] T (0, 0)) := heap_setCell_same _ q 6 _ _ v6 h5
    have h7 : ((((((((w.setCell ⟨q, 0, none⟩ v0).setCell ⟨q, 1, none⟩ v1).setCell ⟨q, 2, none⟩ v2).setCell ⟨q, 3, none⟩ v3).setCell ⟨q, 4, none⟩ v4).setCell ⟨q, 5, none⟩ v5).setCell ⟨q, 6, none⟩ v6).setCell ⟨q, 7, none⟩ v7).heap[q]? = some (.cells #[v0, v1, v2, v3, v4, v5, v6, v7] T (0, 0)) := heap_setCell_same _ q 7 _ _ v7 h6
    exact h7
  · rw [heap_setCell_other _ _ _ _ hj, heap_setCell_other _ _ _ _ hj, heap_setCell_other _ _ _ _ hj, heap_setCell_other _ _ _ _ hj, heap_setCell_other _ _ _ _ hj, heap_setCell_other _ _ _ _ hj, heap_setCell_other _ _ _ _ hj, heap_setCell_other _ _ _ _ hj]
  · exact (((((((hn.setCell (by exact hq) _).setCell (by exact hq) _).setCell (by exact hq) _).setCell (by exact hq) _).setCell (by exact hq) _).setCell (by exact hq) _).setCell (by exact hq) _).setCell (by exact hq) _
  · simp
theorem okK_no {k : Int} (h : ¬ (1 ≤ k ∧ k ≤ 8)) : okK k = false := by unfold okK; simpa using h
end Go.Proofs.YthkmcnlciefnfaaGreat
namespace Go.Proofs.YthkmcnlciefnfaaGreat
open Go.RowKit Go.Bv
set_option linter.unusedVariables false
set_option maxHeartbeats 800000 in
theorem gen_of1 (w : World) : Calls Tryz.prog 48 #[.int .i64 1] w fun e w' => (∃ cs, e = .returned (.tuple #[.agg cs, .bool true]) ∧ GenV w.heap.size w' 1 cs) ∧ New w w' := by
  go_enter Tryz.func48, Tryz.ntmps48
  go_wp2_with fail
  refine (of_split _).mono ?_
  rintro e w' ⟨⟨g, rfl, hg⟩, hn⟩
  have hb := (hn.block _ (lt_of_block (heap_alloc_new w _))).trans (heap_alloc_new w _)
  have k0 := cell_of_row _ _ 0 _ _ _ hb
  have k1 := cell_of_row _ _ 1 _ _ _ hb
  have k2 := cell_of_row _ _ 2 _ _ _ hb
  have k3 := cell_of_row _ _ 3 _ _ _ hb
  have k4 := cell_of_row _ _ 4 _ _ _ hb
  have k5 := cell_of_row _ _ 5 _ _ _ hb
  have k6 := cell_of_row _ _ 6 _ _ _ hb
  have k7 := cell_of_row _ _ 7 _ _ _ hb
  have kf := fun i => frozen_of_row _ _ i _ _ hb
  go_wp2_with fail
  have hp := put8_facts (.string g.nm) (.int .i64 g.sz) (.int .i64 g.cs) (.func (Fn.func g.rf) #[] #[]) (.func (Fn.func g.sd.1) #[] g.sd.2) (.func (Fn.func g.st.1) #[] g.st.2) (.func (Fn.func g.nx.1) #[] g.nx.2) (.func (Fn.func g.jp.1) #[] g.jp.2) hb
  refine bodyPost_ret (by simp [results, Tryz.results48, go_sem, k0, k1, k2, k3, k4, k5, k6, k7]; try rfl) rfl ?_
  refine ⟨⟨g.cells, rfl, Or.inl ⟨rfl, g, rfl, ?_⟩⟩, hp.2.2.1 _ (((New.refl w).alloc _).trans hn) (Nat.le_refl _)⟩
  refine (hg.kept (Nat.le_of_eq hp.2.2.2.symm) fun j hj _ => hp.2.1 j ?_).le (by simp)
  simp at hj; omega
set_option maxHeartbeats 800000 in
theorem gen_of2 (w : World) : Calls Tryz.prog 48 #[.int .i64 2] w fun e w' => (∃ cs, e = .returned (.tuple #[.agg cs, .bool true]) ∧ GenV w.heap.size w' 2 cs) ∧ New w w' := by
  go_enter Tryz.func48, Tryz.ntmps48
  go_wp2_with fail
  refine (of_xoshiro _ (by simp) _).mono ?_
  rintro e w' ⟨⟨g, rfl, hg⟩, hn⟩
  have hb := (hn.block _ (lt_of_block (heap_alloc_new w _))).trans (heap_alloc_new w _)
  have k0 := cell_of_row _ _ 0 _ _ _ hb
  have k1 := cell_of_row _ _ 1 _ _ _ hb
  have k2 := cell_of_row _ _ 2 _ _ _ hb
  have k3 := cell_of_row _ _ 3 _ _ _ hb
  have k4 := cell_of_row _ _ 4 _ _ _ hb
  have k5 := cell_of_row _ _ 5 _ _ _ hb
  have k6 := cell_of_row _ _ 6 _ _ _ hb
  have k7 := cell_of_row _ _ 7 _ _ _ hb
  have kf := fun i => frozen_of_row _ _ i _ _ hb
  go_wp2_with fail
  have hp := put8_facts (.string g.nm) (.int .i64 g.sz) (.int .i64 g.cs) (.func (Fn.func g.rf) #[] #[]) (.func (Fn.func g.sd.1) #[] g.sd.2) (.func (Fn.func g.st.1) #[] g.st.2) (.func (Fn.func g.nx.1) #[] g.nx.2) (.func (Fn.func g.jp.1) #[] g.jp.2) hb
  refine bodyPost_ret (by simp [results, Tryz.results48, go_sem, k0, k1, k2, k3, k4, k5, k6, k7]; try rfl) rfl ?_
  refine ⟨⟨g.cells, rfl, Or.inl ⟨rfl, g, rfl, ?_⟩⟩, hp.2.2.1 _ (((New.refl w).alloc _).trans hn) (Nat.le_refl _)⟩
  refine (hg.kept (Nat.le_of_eq hp.2.2.2.symm) fun j hj _ => hp.2.1 j ?_).le (by simp)
  simp at hj; omega
set_option maxHeartbeats 800000 in
theorem gen_of3 (w : World) : Calls Tryz.prog 48 #[.int .i64 3] w fun e w' => (∃ cs, e = .returned (.tuple #[.agg cs, .bool true]) ∧ GenV w.heap.size w' 3 cs) ∧ New w w' := by
  go_enter Tryz.func48, Tryz.ntmps48
  go_wp2_with fail
  refine (of_xoshiro _ (by simp) _).mono ?_
  rintro e w' ⟨⟨g, rfl, hg⟩, hn⟩
  have hb := (hn.block _ (lt_of_block (heap_alloc_new w _))).trans (heap_alloc_new w _)
  have k0 := cell_of_row _ _ 0 _ _ _ hb
  have k1 := cell_of_row _ _ 1 _ _ _ hb
  have k2 := cell_of_row _ _ 2 _ _ _ hb
  have k3 := cell_of_row _ _ 3 _ _ _ hb
  have k4 := cell_of_row _ _ 4 _ _ _ hb
  have k5 := cell_of_row _ _ 5 _ _ _ hb
  have k6 := cell_of_row _ _ 6 _ _ _ hb
  have k7 := cell_of_row _ _ 7 _ _ _ hb
  have kf := fun i => frozen_of_row _ _ i _ _ hb
  go_wp2_with fail
  have hp := put8_facts (.string g.nm) (.int .i64 g.sz) (.int .i64 g.cs) (.func (Fn.func g.rf) #[] #[]) (.func (Fn.func g.sd.1) #[] g.sd.2) (.func (Fn.func g.st.1) #[] g.st.2) (.func (Fn.func g.nx.1) #[] g.nx.2) (.func (Fn.func g.jp.1) #[] g.jp.2) hb
  refine bodyPost_ret (by simp [results, Tryz.results48, go_sem, k0, k1, k2, k3, k4, k5, k6, k7]; try rfl) rfl ?_
  refine ⟨⟨g.cells, rfl, Or.inl ⟨rfl, g, rfl, ?_⟩⟩, hp.2.2.1 _ (((New.refl w).alloc _).trans hn) (Nat.le_refl _)⟩
  refine (hg.kept (Nat.le_of_eq hp.2.2.2.symm) fun j hj _ => hp.2.1 j ?_).le (by simp)
  simp at hj; omega
set_option maxHeartbeats 800000 in
theorem gen_of4 (w : World) : Calls Tryz.prog 48 #[.int .i64 4] w fun e w' => (∃ cs, e = .returned (.tuple #[.agg cs, .bool true]) ∧ GenV w.heap.size w' 4 cs) ∧ New w w' := by
  go_enter Tryz.func48, Tryz.ntmps48
  go_wp2_with fail
  refine (of_xoshiro _ (by simp) _).mono ?_
  rintro e w' ⟨⟨g, rfl, hg⟩, hn⟩
  have hb := (hn.block _ (lt_of_block (heap_alloc_new w _))).trans (heap_alloc_new w _)
  have k0 := cell_of_row _ _ 0 _ _ _ hb
  have k1 := cell_of_row _ _ 1 _ _ _ hb
  have k2 := cell_of_row _ _ 2 _ _ _ hb
  have k3 := cell_of_row _ _ 3 _ _ _ hb
  have k4 := cell_of_row _ _ 4 _ _ _ hb
  have k5 := cell_of_row _ _ 5 _ _ _ hb
  have k6 := cell_of_row _ _ 6 _ _ _ hb
  have k7 := cell_of_row _ _ 7 _ _ _ hb
  have kf := fun i => frozen_of_row _ _ i _ _ hb
  go_wp2_with fail
  have hp := put8_facts (.string g.nm) (.int .i64 g.sz) (.int .i64 g.cs) (.func (Fn.func g.rf) #[] #[]) (.func (Fn.func g.sd.1) #[] g.sd.2) (.func (Fn.func g.st.1) #[] g.st.2) (.func (Fn.func g.nx.1) #[] g.nx.2) (.func (Fn.func g.jp.1) #[] g.jp.2) hb
  refine bodyPost_ret (by simp [results, Tryz.results48, go_sem, k0, k1, k2, k3, k4, k5, k6, k7]; try rfl) rfl ?_
  refine ⟨⟨g.cells, rfl, Or.inl ⟨rfl, g, rfl, ?_⟩⟩, hp.2.2.1 _ (((New.refl w).alloc _).trans hn) (Nat.le_refl _)⟩
  refine (hg.kept (Nat.le_of_eq hp.2.2.2.symm) fun j hj _ => hp.2.1 j ?_).le (by simp)
  simp at hj; omega
set_option maxHeartbeats 800000 in
theorem gen_of5 (w : World) : Calls Tryz.prog 48 #[.int .i64 5] w fun e w' => (∃ cs, e = .returned (.tuple #[.agg cs, .bool true]) ∧ GenV w.heap.size w' 5 cs) ∧ New w w' := by
  go_enter Tryz.func48, Tryz.ntmps48
  go_wp2_with fail
  refine (of_xoroshiro _ (by simp) _).mono ?_
  rintro e w' ⟨⟨g, rfl, hg⟩, hn⟩
  have hb := (hn.block _ (lt_of_block (heap_alloc_new w _))).trans (heap_alloc_new w _)
  have k0 := cell_of_row _ _ 0 _ _ _ hb
  have k1 := cell_of_row _ _ 1 _ _ _ hb
  have k2 := cell_of_row _ _ 2 _ _ _ hb
  have k3 := cell_of_row _ _ 3 _ _ _ hb
  have k4 := cell_of_row _ _ 4 _ _ _ hb
  have k5 := cell_of_row _ _ 5 _ _ _ hb
  have k6 := cell_of_row _ _ 6 _ _ _ hb
  have k7 := cell_of_row _ _ 7 _ _ _ hb
  have kf := fun i => frozen_of_row _ _ i _ _ hb
  go_wp2_with fail
  have hp := put8_facts (.string g.nm) (.int .i64 g.sz) (.int .i64 g.cs) (.func (Fn.func g.rf) #[] #[]) (.func (Fn.func g.sd.1) #[] g.sd.2) (.func (Fn.func g.st.1) #[] g.st.2) (.func (Fn.func g.nx.1) #[] g.nx.2) (.func (Fn.func g.jp.1) #[] g.jp.2) hb
  refine bodyPost_ret (by simp [results, Tryz.results48, go_sem, k0, k1, k2, k3, k4, k5, k6, k7]; try rfl) rfl ?_
  refine ⟨⟨g.cells, rfl, Or.inl ⟨rfl, g, rfl, ?_⟩⟩, hp.2.2.1 _ (((New.refl w).alloc _).trans hn) (Nat.le_refl _)⟩
  refine (hg.kept (Nat.le_of_eq hp.2.2.2.symm) fun j hj _ => hp.2.1 j ?_).le (by simp)
  simp at hj; omega
set_option maxHeartbeats 800000 in
theorem gen_of6 (w : World) : Calls Tryz.prog 48 #[.int .i64 6] w fun e w' => (∃ cs, e = .returned (.tuple #[.agg cs, .bool true]) ∧ GenV w.heap.size w' 6 cs) ∧ New w w' := by
  go_enter Tryz.func48, Tryz.ntmps48
  go_wp2_with fail
  refine (of_xoroshiro _ (by simp) _).mono ?_
  rintro e w' ⟨⟨g, rfl, hg⟩, hn⟩
  have hb := (hn.block _ (lt_of_block (heap_alloc_new w _))).trans (heap_alloc_new w _)
  have k0 := cell_of_row _ _ 0 _ _ _ hb
  have k1 := cell_of_row _ _ 1 _ _ _ hb
  have k2 := cell_of_row _ _ 2 _ _ _ hb
  have k3 := cell_of_row _ _ 3 _ _ _ hb
  have k4 := cell_of_row _ _ 4 _ _ _ hb
  have k5 := cell_of_row _ _ 5 _ _ _ hb
  have k6 := cell_of_row _ _ 6 _ _ _ hb
  have k7 := cell_of_row _ _ 7 _ _ _ hb
  have kf := fun i => frozen_of_row _ _ i _ _ hb
  go_wp2_with fail
  have hp := put8_facts (.string g.nm) (.int .i64 g.sz) (.int .i64 g.cs) (.func (Fn.func g.rf) #[] #[]) (.func (Fn.func g.sd.1) #[] g.sd.2) (.func (Fn.func g.st.1) #[] g.st.2) (.func (Fn.func g.nx.1) #[] g.nx.2) (.func (Fn.func g.jp.1) #[] g.jp.2) hb
  refine bodyPost_ret (by simp [results, Tryz.results48, go_sem, k0, k1, k2, k3, k4, k5, k6, k7]; try rfl) rfl ?_
  refine ⟨⟨g.cells, rfl, Or.inl ⟨rfl, g, rfl, ?_⟩⟩, hp.2.2.1 _ (((New.refl w).alloc _).trans hn) (Nat.le_refl _)⟩
  refine (hg.kept (Nat.le_of_eq hp.2.2.2.symm) fun j hj _ => hp.2.1 j ?_).le (by simp)
  simp at hj; omega
set_option maxHeartbeats 800000 in
theorem gen_of7 (w : World) : Calls Tryz.prog 48 #[.int .i64 7] w fun e w' => (∃ cs, e = .returned (.tuple #[.agg cs, .bool true]) ∧ GenV w.heap.size w' 7 cs) ∧ New w w' := by
  go_enter Tryz.func48, Tryz.ntmps48
  go_wp2_with fail
  refine (of_pcg32 _).mono ?_
  rintro e w' ⟨⟨g, rfl, hg⟩, hn⟩
  have hb := (hn.block _ (lt_of_block (heap_alloc_new w _))).trans (heap_alloc_new w _)
  have k0 := cell_of_row _ _ 0 _ _ _ hb
  have k1 := cell_of_row _ _ 1 _ _ _ hb
  have k2 := cell_of_row _ _ 2 _ _ _ hb
  have k3 := cell_of_row _ _ 3 _ _ _ hb
  have k4 := cell_of_row _ _ 4 _ _ _ hb
  have k5 := cell_of_row _ _ 5 _ _ _ hb
  have k6 := cell_of_row _ _ 6 _ _ _ hb
  have k7 := cell_of_row _ _ 7 _ _ _ hb
  have kf := fun i => frozen_of_row _ _ i _ _ hb
  go_wp2_with fail
  have hp := put8_facts (.string g.nm) (.int .i64 g.sz) (.int .i64 g.cs) (.func (Fn.func g.rf) #[] #[]) (.func (Fn.func g.sd.1) #[] g.sd.2) (.func (Fn.func g.st.1) #[] g.st.2) (.func (Fn.func g.nx.1) #[] g.nx.2) (.func (Fn.func g.jp.1) #[] g.jp.2) hb
  refine bodyPost_ret (by simp [results, Tryz.results48, go_sem, k0, k1, k2, k3, k4, k5, k6, k7]; try rfl) rfl ?_
  refine ⟨⟨g.cells, rfl, Or.inl ⟨rfl, g, rfl, ?_⟩⟩, hp.2.2.1 _ (((New.refl w).alloc _).trans hn) (Nat.le_refl _)⟩
  refine (hg.kept (Nat.le_of_eq hp.2.2.2.symm) fun j hj _ => hp.2.1 j ?_).le (by simp)
  simp at hj; omega
set_option maxHeartbeats 800000 in
theorem gen_of8 (w : World) : Calls Tryz.prog 48 #[.int .i64 8] w fun e w' => (∃ cs, e = .returned (.tuple #[.agg cs, .bool true]) ∧ GenV w.heap.size w' 8 cs) ∧ New w w' := by
  go_enter Tryz.func48, Tryz.ntmps48
  go_wp2_with fail
  refine (of_pcg64 _).mono ?_
  rintro e w' ⟨⟨g, rfl, hg⟩, hn⟩
  have hb := (hn.block _ (lt_of_block (heap_alloc_new w _))).trans (heap_alloc_new w _)
  have k0 := cell_of_row _ _ 0 _ _ _ hb
  have k1 := cell_of_row _ _ 1 _ _ _ hb
  have k2 := cell_of_row _ _ 2 _ _ _ hb
  have k3 := cell_of_row _ _ 3 _ _ _ hb
  have k4 := cell_of_row _ _ 4 _ _ _ hb
  have k5 := cell_of_row _ _ 5 _ _ _ hb
  have k6 := cell_of_row _ _ 6 _ _ _ hb
  have k7 := cell_of_row _ _ 7 _ _ _ hb
  have kf := fun i => frozen_of_row _ _ i _ _ hb
  go_wp2_with fail
  have hp := put8_facts (.string g.nm) (.int .i64 g.sz) (.int .i64 g.cs) (.func (Fn.func g.rf) #[] #[]) (.func (Fn.func g.sd.1) #[] g.sd.2) (.func (Fn.func g.st.1) #[] g.st.2) (.func (Fn.func g.nx.1) #[] g.nx.2) (.func (Fn.func g.jp.1) #[] g.jp.2) hb
  refine bodyPost_ret (by simp [results, Tryz.results48, go_sem, k0, k1, k2, k3, k4, k5, k6, k7]; try rfl) rfl ?_
  refine ⟨⟨g.cells, rfl, Or.inl ⟨rfl, g, rfl, ?_⟩⟩, hp.2.2.1 _ (((New.refl w).alloc _).trans hn) (Nat.le_refl _)⟩
  refine (hg.kept (Nat.le_of_eq hp.2.2.2.symm) fun j hj _ => hp.2.1 j ?_).le (by simp)
  simp at hj; omega
set_option maxHeartbeats 800000 in
theorem gen_of0 (k : Int) (h : okK k = false) (w : World) : Calls Tryz.prog 48 #[.int .i64 k] w fun e w' => (∃ cs, e = .returned (.tuple #[.agg cs, .bool false]) ∧ GenV w.heap.size w' k cs) ∧ New w w' := by
  have hk : k < 1 ∨ 8 < k := by unfold okK at h; simp at h; omega
  have h1 : ¬ k = 1 := by omega
  have h2 : ¬ k = 2 := by omega
  have h3 : ¬ k = 3 := by omega
  have h4 : ¬ k = 4 := by omega
  have h5 : ¬ k = 5 := by omega
  have h6 : ¬ k = 6 := by omega
  have h7 : ¬ k = 7 := by omega
  have h8 : ¬ k = 8 := by omega
  go_enter Tryz.func48, Tryz.ntmps48
  go_wp2_with fail
  go_returns
  exact ⟨⟨_, rfl, Or.inr ⟨h, rfl⟩⟩, (New.refl w).alloc _⟩
theorem gen_of (k : Int) (w : World) : Calls Tryz.prog 48 #[.int .i64 k] w fun e w' => (∃ cs, e = .returned (.tuple #[.agg cs, .bool (okK k)]) ∧ GenV w.heap.size w' k cs) ∧ New w w' := by
  by_cases h : 1 ≤ k ∧ k ≤ 8
  · have h8 : k = 1 ∨ k = 2 ∨ k = 3 ∨ k = 4 ∨ k = 5 ∨ k = 6 ∨ k = 7 ∨ k = 8 := by omega
    rcases h8 with rfl | rfl | rfl | rfl | rfl | rfl | rfl | rfl
    · exact gen_of1 w
    · exact gen_of2 w
    · exact gen_of3 w
    · exact gen_of4 w
    · exact gen_of5 w
    · exact gen_of6 w
    · exact gen_of7 w
    · exact gen_of8 w
  · rw [okK_no h]; exact gen_of0 k (okK_no h) w
theorem GenV.shape {n : Nat} {w : World} {k : Int} {cs : Array Value} (h : GenV n w k cs) : ∃ v3 v4 v5 v6 v7 : Value, cs = #[.string (nmK k), .int .i64 (szK k), .int .i64 (csK k), v3, v4, v5, v6, v7] ∧ (v3.oneCell' = true ∧ v4.oneCell' = true ∧ v5.oneCell' = true ∧ v6.oneCell' = true ∧ v7.oneCell' = true) := by
  rcases h with ⟨hk, g, rfl, hg⟩ | ⟨hk, rfl⟩
  · obtain ⟨h1, h2, h3, _⟩ := hg.now.has
    refine ⟨_, _, _, _, _, by rw [← h1, ← h2, ← h3], rfl, rfl, rfl, rfl, rfl⟩
  · have hk' : k < 1 ∨ 8 < k := by unfold okK at hk; simp at hk; omega
    refine ⟨.nilFunc, .nilFunc, .nilFunc, .nilFunc, .nilFunc, ?_, rfl, rfl, rfl, rfl, rfl⟩
    have e1 : nmK k = ⟨#[]⟩ := by unfold nmK; repeat (rw [if_neg (by omega)])
    have e2 : szK k = 0 := by unfold szK; repeat (rw [if_neg (by omega)])
    have e3 : csK k = 0 := by unfold csK; repeat (rw [if_neg (by omega)])
    rw [e1, e2, e3]
set_option maxHeartbeats 800000 in
theorem size_any (k : Int) (w : World) : Calls Tryz.prog 33 #[.int .i64 k] w fun e w' => e = .returned (.int .i64 (szK k)) ∧ New w w' := by
  go_enter Tryz.func33, Tryz.ntmps33
  go_wp2_with fail
  refine (gen_of k _).mono ?_
  rintro e w' ⟨⟨cs, rfl, hv⟩, hn⟩
  rcases hv with ⟨hk, g, rfl, hg⟩ | ⟨hk, rfl⟩
  · have hs := hg.now.has.2.1
    go_wp2_with fail
    go_ret
    exact ⟨rfl, hn.alloc _⟩
  · have e2 : szK k = 0 := by unfold okK at hk; simp at hk; unfold szK; repeat (rw [if_neg (by omega)])
    go_wp2_with fail
    go_ret
    exact ⟨by rw [e2]; rfl, hn.alloc _⟩
end Go.Proofs.YthkmcnlciefnfaaGreat
namespace Go.Proofs.YthkmcnlciefnfaaGreat
open Go.RowKit Go.Bv
set_option linter.unusedVariables false
set_option maxHeartbeats 800000 in
theorem rsize_any (k : Int) (w : World) : Calls Tryz.prog 23 #[.int .i64 k] w fun e w' => e = .returned (.int .i64 (szK k)) ∧ New w w' := by
  by_cases h : 1 ≤ k ∧ k ≤ 8
  · have h8 : k = 1 ∨ k = 2 ∨ k = 3 ∨ k = 4 ∨ k = 5 ∨ k = 6 ∨ k = 7 ∨ k = 8 := by omega
    rcases h8 with rfl | rfl | rfl | rfl | rfl | rfl | rfl | rfl
    all_goals
      go_enter Tryz.func23, Tryz.ntmps23
      go_wp2_with fail
      go_ret
      exact ⟨rfl, (New.refl w).alloc _⟩
  · have e2 : szK k = 0 := by unfold szK; repeat (rw [if_neg (by omega)])
    rw [e2]
    by_cases h1 : k < 1
    · go_enter Tryz.func23, Tryz.ntmps23
      go_wp2_with fail
      go_ret
      exact ⟨rfl, New.refl w⟩
    · have h2 : 8 < k := by omega
      go_enter Tryz.func23, Tryz.ntmps23
      go_wp2_with fail
      go_ret
      exact ⟨rfl, New.refl w⟩
/-- four words, the lowest first -/
structure W4 where
  a : BitVec 64
  b : BitVec 64
  c : BitVec 64
  d : BitVec 64
abbrev W4.cells (q : W4) : Array Value := #[.int .u64 (W64 q.a), .int .u64 (W64 q.b), .int .u64 (W64 q.c), .int .u64 (W64 q.d)]
def W4.no (q : W4) : Bool := q.a == 0#64 && (q.b == 0#64 && (q.c == 0#64 && q.d == 0#64))
/-- the words that a kind refuses -/
def badK (k : Int) (q : W4) : Bool := if k = 7 then (q.b &&& 1#64 == 0#64) else if k = 8 then (q.c &&& 1#64 == 0#64) else if k = 1 then false else q.no
theorem info22 : (Tryz.prog.info? 22).isSome = true := by kernel_rfl
theorem plain22 : Tryz.prog.plainKey 22 = true := by kernel_rfl
theorem cells22 : Tryz.prog.cellsOf 22 = 1 := by kernel_rfl
theorem eq4d (d : Nat) (t : TypeId) (ht : Tryz.prog.underlying t = some (.array 4 22)) (w : World) (x0 x1 x2 x3 y0 y1 y2 y3 : BitVec 64) :
    (Op.equalIn (d + 2) t (.agg #[.int .u64 (W64 x0), .int .u64 (W64 x1), .int .u64 (W64 x2), .int .u64 (W64 x3)]) (.agg #[.int .u64 (W64 y0), .int .u64 (W64 y1), .int .u64 (W64 y2), .int .u64 (W64 y3)])).run Tryz.prog w =
      .ok (x0 == y0 && (x1 == y1 && (x2 == y2 && x3 == y3))) w := by
  obtain ⟨i, hi⟩ := Option.isSome_iff_exists.1 info22
  rw [run_equalIn_array w (d + 1) _ _ ht hi, cells22, show List.range 4 = [0, 1, 2, 3] from rfl]
  have hu := Tryz.underlying22
  have e0 := run_part_plain (w := w) (v := .int .u64 (W64 x0)) plain22 (xs := #[.int .u64 (W64 x0), .int .u64 (W64 x1), .int .u64 (W64 x2), .int .u64 (W64 x3)]) (off := 0) rfl
  have e1 := run_part_plain (w := w) (v := .int .u64 (W64 x1)) plain22 (xs := #[.int .u64 (W64 x0), .int .u64 (W64 x1), .int .u64 (W64 x2), .int .u64 (W64 x3)]) (off := 1) rfl
  have e2 := run_part_plain (w := w) (v := .int .u64 (W64 x2)) plain22 (xs := #[.int .u64 (W64 x0), .int .u64 (W64 x1), .int .u64 (W64 x2), .int .u64 (W64 x3)]) (off := 2) rfl
  have e3 := run_part_plain (w := w) (v := .int .u64 (W64 x3)) plain22 (xs := #[.int .u64 (W64 x0), .int .u64 (W64 x1), .int .u64 (W64 x2), .int .u64 (W64 x3)]) (off := 3) rfl
  have f0 := run_part_plain (w := w) (v := .int .u64 (W64 y0)) plain22 (xs := #[.int .u64 (W64 y0), .int .u64 (W64 y1), .int .u64 (W64 y2), .int .u64 (W64 y3)]) (off := 0) rfl
  have f1 := run_part_plain (w := w) (v := .int .u64 (W64 y1)) plain22 (xs := #[.int .u64 (W64 y0), .int .u64 (W64 y1), .int .u64 (W64 y2), .int .u64 (W64 y3)]) (off := 1) rfl
  have f2 := run_part_plain (w := w) (v := .int .u64 (W64 y2)) plain22 (xs := #[.int .u64 (W64 y0), .int .u64 (W64 y1), .int .u64 (W64 y2), .int .u64 (W64 y3)]) (off := 2) rfl
  have f3 := run_part_plain (w := w) (v := .int .u64 (W64 y3)) plain22 (xs := #[.int .u64 (W64 y0), .int .u64 (W64 y1), .int .u64 (W64 y2), .int .u64 (W64 y3)]) (off := 3) rfl
  have g0 := run_equalIn_int (w := w) d _ .u64 .u64 (W64 x0) (W64 y0) hu
  have g1 := run_equalIn_int (w := w) d _ .u64 .u64 (W64 x1) (W64 y1) hu
  have g2 := run_equalIn_int (w := w) d _ .u64 .u64 (W64 x2) (W64 y2) hu
  have g3 := run_equalIn_int (w := w) d _ .u64 .u64 (W64 x3) (W64 y3) hu
  rw [eq_u64] at g0 g1 g2 g3
  simp only [Op.eqItems, Sem.run_bind, Nat.mul_one, e0, f0, g0, Result.andThen_ok]
  rcases h0 : x0 == y0 <;> rcases h1 : x1 == y1 <;> rcases h2 : x2 == y2 <;> rcases h3 : x3 == y3 <;> rw [h1] at g1 <;> rw [h2] at g2 <;> rw [h3] at g3 <;> simp [Sem.run_bind, e1, e2, e3, f1, f2, f3, g1, g2, g3]
theorem eq4w (w : World) (q : W4) : (Op.equalIn 10000 120 (.agg q.cells) (.agg #[.int .u64 0, .int .u64 0, .int .u64 0, .int .u64 0])).run Tryz.prog w = .ok q.no w := by
  have h := eq4d 9998 120 Tryz.underlying120 w q.a q.b q.c q.d 0#64 0#64 0#64 0#64
  rw [show W64 0#64 = 0 from W64_lit 0 (by omega)] at h
  exact h
theorem never_any (q : W4) (w : World) : Calls Tryz.prog 76 #[.agg q.cells] w fun e w' => e = .returned (.bool false) ∧ New w w' := by
  go_enter Tryz.func76, Tryz.ntmps76
  go_wp2_with fail
  go_ret
  exact ⟨rfl, (New.refl w).alloc _⟩
theorem zero_any (q : W4) (w : World) : Calls Tryz.prog 84 #[.agg q.cells] w fun e w' => e = .returned (.bool q.no) ∧ New w w' := by
  have hz := fun w => eq4w w q
  go_enter Tryz.func84, Tryz.ntmps84
  go_wp2_with fail
  go_ret
  exact ⟨rfl, (New.refl w).alloc _⟩
theorem even2_any (q : W4) (w : World) : Calls Tryz.prog 100 #[.agg q.cells] w fun e w' => e = .returned (.bool (q.b &&& 1#64 == 0#64)) ∧ New w w' := by
  go_enter Tryz.func100, Tryz.ntmps100
  go_wp2_with fail
  go_ret
  exact ⟨rfl, (New.refl w).alloc _⟩
theorem even3_any (q : W4) (w : World) : Calls Tryz.prog 108 #[.agg q.cells] w fun e w' => e = .returned (.bool (q.c &&& 1#64 == 0#64)) ∧ New w w' := by
  go_enter Tryz.func108, Tryz.ntmps108
  go_wp2_with fail
  go_ret
  exact ⟨rfl, (New.refl w).alloc _⟩
theorem bad_any {w : World} {k : Int} {g : Gn} (h : IsGen w k g) (q : W4) (w : World) : Calls Tryz.prog g.rf #[.agg q.cells] w fun e w' => e = .returned (.bool (badK k q)) ∧ New w w' := by
  cases h with
  | split b h => exact never_any q w
  | xosh k hk b h =>
    have e : badK k q = q.no := by rcases hk with rfl | rfl | rfl <;> rfl
    rw [e]; exact zero_any q w
  | xoro k hk b b4 b5 b6 h h4 h5 h6 =>
    have e : badK k q = q.no := by rcases hk with rfl | rfl <;> rfl
    rw [e]; exact zero_any q w
  | pcg32 => exact even2_any q w
  | pcg64 => exact even3_any q w
end Go.Proofs.YthkmcnlciefnfaaGreat
