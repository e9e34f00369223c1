/- All generators, by their kinds: the value of each. -/
import Derived.Test.YtfaobdmoifnglaaGreatProg
import Derived.Test.YtfaobdmoifnglaaGreatFrame
import Derived.Handy
import Derived.Deep.DeepCutAuto
import Derived.LoopN
import Derived.Laws.EntriesVeiled
namespace Go.Proofs.YtfaobdmoifnglaaGreat
open Go.RowKit Go.Bv
set_option linter.unusedVariables false
/-- what a kind has: its name, size, cost; its five functions, each with what it holds -/
structure Gn where
  nm : ByteArray
  sz : Int
  cs : Int
  rf : Nat
  sd : Nat × Array Value
  st : Nat × Array Value
  nx : Nat × Array Value
  jp : Nat × Array Value
def fv (p : Nat × Array Value) : Value := .func (Fn.func p.1) #[] p.2
def ptv (b : Nat) : Value := .pointer (some ⟨b, 0, none⟩)
abbrev Gn.cells (g : Gn) : Array Value := #[.string g.nm, .int .i64 g.sz, .int .i64 g.cs, .func (Fn.func g.rf) #[] #[], .func (Fn.func g.sd.1) #[] g.sd.2, .func (Fn.func g.st.1) #[] g.st.2, .func (Fn.func g.nx.1) #[] g.nx.2, .func (Fn.func g.jp.1) #[] g.jp.2]
abbrev gzc : Array Value := #[.string ⟨#[]⟩, .int .i64 0, .int .i64 0, .nilFunc, .nilFunc, .nilFunc, .nilFunc, .nilFunc]
def nmK (k : Int) : ByteArray := if k = 1 then ⟨#[115, 112, 108, 105, 116]⟩ else if k = 2 then ⟨#[120, 111, 115, 104, 42, 42]⟩ else if k = 3 then ⟨#[120, 111, 115, 104, 43, 43]⟩ else if k = 4 then ⟨#[120, 111, 115, 104, 43]⟩ else if k = 5 then ⟨#[120, 111, 114, 111, 42, 42]⟩ else if k = 6 then ⟨#[120, 111, 114, 111, 43, 43]⟩ else if k = 7 then ⟨#[112, 99, 103, 51, 50]⟩ else if k = 8 then ⟨#[112, 99, 103, 54, 52]⟩ else ⟨#[]⟩
def szK (k : Int) : Int := if k = 1 then 1 else if k = 2 ∨ k = 3 ∨ k = 4 ∨ k = 8 then 4 else if k = 5 ∨ k = 6 ∨ k = 7 then 2 else 0
def csK (k : Int) : Int := if k = 7 then 2 else if 1 ≤ k ∧ k ≤ 8 then 1 else 0
def xoF (k : Int) : Nat := if k = 2 then 66 else if k = 3 then 67 else 65
inductive IsGen (w : World) : Int → Gn → Prop
  | split (b : Nat) (h : w.heap[b]? = some (.cells #[.func (Fn.func 58) #[] #[]] 59 (0, 0))) :
      IsGen w 1 ⟨nmK 1, 1, 1, 60, (61, #[]), (62, #[ptv b]), (58, #[]), (63, #[])⟩
  | xosh (k : Int) (hk : k = 2 ∨ k = 3 ∨ k = 4) (b : Nat) (h : w.heap[b]? = some (.cells #[.func (Fn.func (xoF k)) #[] #[]] 101 (0, 0))) :
      IsGen w k ⟨nmK k, 4, 1, 68, (69, #[]), (71, #[]), (72, #[ptv b]), (73, #[])⟩
  | xoro (k : Int) (hk : k = 5 ∨ k = 6) (b b4 b5 b6 : Nat) (h : w.heap[b]? = some (.cells #[.int .i64 k] 3 (0, 0)))
      (h4 : w.heap[b4]? = some (.cells #[.func (Fn.func 74) #[] #[]] 104 (0, 0)))
      (h5 : w.heap[b5]? = some (.cells #[.func (Fn.func 75) #[] #[]] 105 (0, 0)))
      (h6 : w.heap[b6]? = some (.cells #[.func (Fn.func 76) #[] #[ptv b5, ptv b, ptv b4]] 58 (0, 0))) :
      IsGen w k ⟨nmK k, 2, 1, 68, (78, #[ptv b5]), (76, #[ptv b5, ptv b, ptv b4]), (80, #[ptv b, ptv b4, ptv b6]), (82, #[ptv b5, ptv b, ptv b4])⟩
  | pcg32 : IsGen w 7 ⟨nmK 7, 2, 2, 84, (85, #[]), (88, #[]), (89, #[]), (90, #[])⟩
  | pcg64 : IsGen w 8 ⟨nmK 8, 4, 1, 92, (93, #[]), (96, #[]), (97, #[]), (98, #[])⟩
theorem IsGen.stay {w w' : World} {k : Int} {g : Gn} (h : IsGen w k g) (hn : New w w') : IsGen w' k g := by
  cases h with
  | split b h => exact .split b ((hn.block _ (lt_of_block h)).trans h)
  | xosh k hk b h => exact .xosh k hk b ((hn.block _ (lt_of_block h)).trans h)
  | xoro k hk b b4 b5 b6 h h4 h5 h6 => exact .xoro k hk b b4 b5 b6 ((hn.block _ (lt_of_block h)).trans h) ((hn.block _ (lt_of_block h4)).trans h4) ((hn.block _ (lt_of_block h5)).trans h5) ((hn.block _ (lt_of_block h6)).trans h6)
  | pcg32 => exact .pcg32
  | pcg64 => exact .pcg64
/-- .. and what it holds lies in blocks from n on, that a write elsewhere does not touch -/
def Own (n : Nat) (w : World) (k : Int) (g : Gn) : Prop := ∀ w2 : World, (∀ j, n ≤ j → j < w.heap.size → w2.heap[j]? = w.heap[j]?) → IsGen w2 k g
theorem Own.now {n : Nat} {w : World} {k : Int} {g : Gn} (h : Own n w k g) : IsGen w k g := h w fun _ _ _ => rfl
theorem Own.le {n m : Nat} {w : World} {k : Int} {g : Gn} (h : Own n w k g) (hm : m ≤ n) : Own m w k g := fun w2 h2 => h w2 fun j hj hl => h2 j (Nat.le_trans hm hj) hl
theorem Own.kept {n : Nat} {w w' : World} {k : Int} {g : Gn} (h : Own n w k g) (hs : w.heap.size ≤ w'.heap.size) (hb : ∀ j, n ≤ j → j < w.heap.size → w'.heap[j]? = w.heap[j]?) : Own n w' k g :=
  fun w2 h2 => h w2 fun j hj hl => (h2 j hj (Nat.lt_of_lt_of_le hl hs)).trans (hb j hj hl)
theorem Own.stay {n : Nat} {w w' : World} {k : Int} {g : Gn} (h : Own n w k g) (hn : New w w') : Own n w' k g := h.kept hn.size fun j _ hl => hn.block j hl
theorem Own.split {n : Nat} {w : World} (b : Nat) (hb : n ≤ b) (h : w.heap[b]? = some (.cells #[.func (Fn.func 58) #[] #[]] 59 (0, 0))) :
      Own n w 1 ⟨nmK 1, 1, 1, 60, (61, #[]), (62, #[ptv b]), (58, #[]), (63, #[])⟩ :=
  fun w2 h2 => .split b ((h2 b hb (lt_of_block h)).trans h)
theorem Own.xosh {n : Nat} {w : World} (k : Int) (hk : k = 2 ∨ k = 3 ∨ k = 4) (b : Nat) (hb : n ≤ b) (h : w.heap[b]? = some (.cells #[.func (Fn.func (xoF k)) #[] #[]] 101 (0, 0))) :
      Own n w k ⟨nmK k, 4, 1, 68, (69, #[]), (71, #[]), (72, #[ptv b]), (73, #[])⟩ :=
  fun w2 h2 => .xosh k hk b ((h2 b hb (lt_of_block h)).trans h)
theorem Own.xoro {n : Nat} {w : World} (k : Int) (hk : k = 5 ∨ k = 6) (b b4 b5 b6 : Nat) (hb : n ≤ b) (hb4 : n ≤ b4) (hb5 : n ≤ b5) (hb6 : n ≤ b6) (h : w.heap[b]? = some (.cells #[.int .i64 k] 3 (0, 0)))
      (h4 : w.heap[b4]? = some (.cells #[.func (Fn.func 74) #[] #[]] 104 (0, 0)))
      (h5 : w.heap[b5]? = some (.cells #[.func (Fn.func 75) #[] #[]] 105 (0, 0)))
      (h6 : w.heap[b6]? = some (.cells #[.func (Fn.func 76) #[] #[ptv b5, ptv b, ptv b4]] 58 (0, 0))) :
      Own n w k ⟨nmK k, 2, 1, 68, (78, #[ptv b5]), (76, #[ptv b5, ptv b, ptv b4]), (80, #[ptv b, ptv b4, ptv b6]), (82, #[ptv b5, ptv b, ptv b4])⟩ :=
  fun w2 h2 => .xoro k hk b b4 b5 b6 ((h2 b hb (lt_of_block h)).trans h) ((h2 b4 hb4 (lt_of_block h4)).trans h4) ((h2 b5 hb5 (lt_of_block h5)).trans h5) ((h2 b6 hb6 (lt_of_block h6)).trans h6)
theorem IsGen.has {w : World} {k : Int} {g : Gn} (h : IsGen w k g) : g.nm = nmK k ∧ g.sz = szK k ∧ g.cs = csK k ∧ 1 ≤ k ∧ k ≤ 8 := by
  cases h with
  | split b h => exact ⟨rfl, rfl, rfl, by omega, by omega⟩
  | xosh k hk b h => refine ⟨rfl, ?_, ?_, by omega, by omega⟩ <;> rcases hk with rfl | rfl | rfl <;> rfl
  | xoro k hk b b4 b5 b6 h h4 h5 h6 => refine ⟨rfl, ?_, ?_, by omega, by omega⟩ <;> rcases hk with rfl | rfl <;> rfl
  | pcg32 => exact ⟨rfl, rfl, rfl, by omega, by omega⟩
  | pcg64 => exact ⟨rfl, rfl, rfl, by omega, by omega⟩
theorem last_block (w : World) (A : Obj) : (w.alloc A).heap[w.heap.size]? = some A := heap_alloc_new w A
theorem first_block (w : World) (A B : Obj) : ((w.alloc A).alloc B).heap[w.heap.size + 1]? = some B := by
  have e : (w.alloc A).heap.size = w.heap.size + 1 := by simp
  rw [← e]; exact heap_alloc_new _ _
set_option maxHeartbeats 400000 in
theorem of_split (w : World) : Calls Tryz.prog 45 #[] w fun e w' => (∃ g : Gn, e = .returned (.agg g.cells) ∧ Own w.heap.size w' 1 g) ∧ New w w' := by
  go_enter Tryz.func45, Tryz.ntmps45
  go_wp2_with fail
  go_returns
  refine ⟨⟨_, rfl, Own.split (w.heap.size + 1) (by omega) (first_block _ _ _)⟩, ?_⟩
  exact ((New.refl w).alloc _).alloc _
set_option maxHeartbeats 400000 in
theorem of_xoshiro (k : Int) (hk : k = 2 ∨ k = 3 ∨ k = 4) (w : World) : Calls Tryz.prog 46 #[.int .i64 k] w fun e w' => (∃ g : Gn, e = .returned (.agg g.cells) ∧ Own w.heap.size w' k g) ∧ New w w' := by
  rcases hk with rfl | rfl | rfl
  all_goals
    go_enter Tryz.func46, Tryz.ntmps46
    go_wp2_with fail
    go_returns
    refine ⟨⟨_, rfl, Own.xosh _ (by simp) (w.heap.size + 1) (by omega) (first_block _ _ _)⟩, ?_⟩
    exact ((New.refl w).alloc _).alloc _
set_option maxHeartbeats 400000 in
theorem of_pcg32 (w : World) : Calls Tryz.prog 48 #[] w fun e w' => (∃ g : Gn, e = .returned (.agg g.cells) ∧ Own w.heap.size w' 7 g) ∧ New w w' := by
  go_enter Tryz.func48, Tryz.ntmps48
  go_wp2_with fail
  go_returns
  refine ⟨⟨_, rfl, fun _ _ => IsGen.pcg32⟩, ?_⟩
  exact (New.refl w).alloc _
set_option maxHeartbeats 400000 in
theorem of_pcg64 (w : World) : Calls Tryz.prog 49 #[] w fun e w' => (∃ g : Gn, e = .returned (.agg g.cells) ∧ Own w.heap.size w' 8 g) ∧ New w w' := by
  go_enter Tryz.func49, Tryz.ntmps49
  go_wp2_with fail
  go_returns
  refine ⟨⟨_, rfl, fun _ _ => IsGen.pcg64⟩, ?_⟩
  exact (New.refl w).alloc _
theorem six_blocks (w : World) (A B C D E : Obj) : ((((((w.alloc A).alloc B).alloc C).alloc D).alloc E)).heap[w.heap.size]? = some A ∧ ((((((w.alloc A).alloc B).alloc C).alloc D).alloc E)).heap[w.heap.size + 1]? = some B ∧ ((((((w.alloc A).alloc B).alloc C).alloc D).alloc E)).heap[w.heap.size + 2]? = some C ∧ ((((((w.alloc A).alloc B).alloc C).alloc D).alloc E)).heap[w.heap.size + 3]? = some D ∧ ((((((w.alloc A).alloc B).alloc C).alloc D).alloc E)).heap[w.heap.size + 4]? = some E ∧ New w ((((((w.alloc A).alloc B).alloc C).alloc D).alloc E)) := by
  have eA : (w.alloc A).heap.size = w.heap.size + 1 := by simp
  have eB : ((w.alloc A).alloc B).heap.size = w.heap.size + 2 := by simp
  have eC : (((w.alloc A).alloc B).alloc C).heap.size = w.heap.size + 3 := by simp
  have eD : ((((w.alloc A).alloc B).alloc C).alloc D).heap.size = w.heap.size + 4 := by simp
  have hA := heap_alloc_new w A
  have hB := heap_alloc_new (w.alloc A) B
  have hC := heap_alloc_new ((w.alloc A).alloc B) C
  have hD := heap_alloc_new (((w.alloc A).alloc B).alloc C) D
  have hE := heap_alloc_new ((((w.alloc A).alloc B).alloc C).alloc D) E
  rw [eA] at hB
  rw [eB] at hC
  rw [eC] at hD
  rw [eD] at hE
  have nD := (New.refl ((((w.alloc A).alloc B).alloc C).alloc D)).alloc E
  have nC := ((New.refl (((w.alloc A).alloc B).alloc C)).alloc D).alloc E
  have nB := (((New.refl ((w.alloc A).alloc B)).alloc C).alloc D).alloc E
  have nA := ((((New.refl (w.alloc A)).alloc B).alloc C).alloc D).alloc E
  exact ⟨(nA.block _ (lt_of_block hA)).trans hA, (nB.block _ (lt_of_block hB)).trans hB, (nC.block _ (lt_of_block hC)).trans hC, (nD.block _ (lt_of_block hD)).trans hD, hE, ((((((New.refl w).alloc A).alloc B).alloc C).alloc D).alloc E)⟩
set_option maxHeartbeats 800000 in
theorem of_xoroshiro (k : Int) (hk : k = 5 ∨ k = 6) (w : World) : Calls Tryz.prog 47 #[.int .i64 k] w fun e w' => (∃ g : Gn, e = .returned (.agg g.cells) ∧ Own w.heap.size w' k g) ∧ New w w' := by
  rcases hk with rfl | rfl
  all_goals
    go_enter Tryz.func47, Tryz.ntmps47
    go_wp2_with fail
    go_returns
    exact ⟨⟨_, rfl, Own.xoro _ (by simp) w.heap.size (w.heap.size + 1 + 1) (w.heap.size + 1 + 1 + 1) (w.heap.size + 1 + 1 + 1 + 1) (by omega) (by omega) (by omega) (by omega) (six_blocks w _ _ _ _ _).1 (six_blocks w _ _ _ _ _).2.2.1 (six_blocks w _ _ _ _ _).2.2.2.1 (six_blocks w _ _ _ _ _).2.2.2.2.1⟩, (six_blocks w _ _ _ _ _).2.2.2.2.2⟩
def okK (k : Int) : Bool := decide (1 ≤ k ∧ k ≤ 8)
/-- the value of a kind, if it is one -/
def GenV (n : Nat) (w : World) (k : Int) (cs : Array Value) : Prop := (okK k = true ∧ ∃ g : Gn, cs = g.cells ∧ Own n w k g) ∨ (okK k = false ∧ cs = gzc)
abbrev put8 (w : World) (q : Nat) (v0 v1 v2 v3 v4 v5 v6 v7 : Value) : World := ((((((((w.setCell ⟨q, 0, none⟩ v0).setCell ⟨q, 1, none⟩ v1).setCell ⟨q, 2, none⟩ v2).setCell ⟨q, 3, none⟩ v3).setCell ⟨q, 4, none⟩ v4).setCell ⟨q, 5, none⟩ v5).setCell ⟨q, 6, none⟩ v6).setCell ⟨q, 7, none⟩ v7)
set_option maxHeartbeats 2000000 in
theorem put8_facts {w : World} {q : Nat} {u0 u1 u2 u3 u4 u5 u6 u7 : Value} {T : TypeId} (v0 v1 v2 v3 v4 v5 v6 v7 : Value) (h : w.heap[q]? = some (.cells #[u0, u1, u2, u3, u4, u5, u6, u7] T (0, 0))) :
    (put8 w q v0 v1 v2 v3 v4 v5 v6 v7).heap[q]? = some (.cells #[v0, v1, v2, v3, v4, v5, v6, v7] T (0, 0)) ∧ (∀ j, j ≠ q → (put8 w q v0 v1 v2 v3 v4 v5 v6 v7).heap[j]? = w.heap[j]?) ∧ (∀ W : World, New W w → W.heap.size ≤ q → New W (put8 w q v0 v1 v2 v3 v4 v5 v6 v7)) ∧ (put8 w q v0 v1 v2 v3 v4 v5 v6 v7).heap.size = w.heap.size := by
  refine ⟨?_, fun j hj => ?_, fun W hn hq => ?_, ?_⟩
  · have h0 : (w.setCell ⟨q, 0, none⟩ v0).heap[q]? = some (.cells #[v0, u1, u2, u3, u4, u5, u6, u7] T (0, 0)) := heap_setCell_same _ q 0 _ _ v0 h
    have h1 : ((w.setCell ⟨q, 0, none⟩ v0).setCell ⟨q, 1, none⟩ v1).heap[q]? = some (.cells #[v0, v1, u2, u3, u4, u5, u6, u7] T (0, 0)) := heap_setCell_same _ q 1 _ _ v1 h0
    have h2 : (((w.setCell ⟨q, 0, none⟩ v0).setCell ⟨q, 1, none⟩ v1).setCell ⟨q, 2, none⟩ v2).heap[q]? = some (.cells #[v0, v1, v2, u3, u4, u5, u6, u7] T (0, 0)) := heap_setCell_same _ q 2 _ _ v2 h1
    have h3 : ((((w.setCell ⟨q, 0, none⟩ v0).setCell ⟨q, 1, none⟩ v1).setCell ⟨q, 2, none⟩ v2).setCell ⟨q, 3, none⟩ v3).heap[q]? = some (.cells #[v0, v1, v2, v3, u4, u5, u6, u7] T (0, 0)) := heap_setCell_same _ q 3 _ _ v3 h2
    have h4 : (((((w.setCell ⟨q, 0, none⟩ v0).setCell ⟨q, 1, none⟩ v1).setCell ⟨q, 2, none⟩ v2).setCell ⟨q, 3, none⟩ v3).setCell ⟨q, 4, none⟩ v4).heap[q]? = some (.cells #[v0, v1, v2, v3, v4, u5, u6, u7] T (0, 0)) := heap_setCell_same _ q 4 _ _ v4 h3
    have h5 : ((((((w.setCell ⟨q, 0, none⟩ v0).setCell ⟨q, 1, none⟩ v1).setCell ⟨q, 2, none⟩ v2).setCell ⟨q, 3, none⟩ v3).setCell ⟨q, 4, none⟩ v4).setCell ⟨q, 5, none⟩ v5).heap[q]? = some (.cells #[v0, v1, v2, v3, v4, v5, u6, u7] T (0, 0)) := heap_setCell_same _ q 5 _ _ v5 h4
    have h6 : (((((((w.setCell ⟨q, 0, none⟩ v0).setCell ⟨q, 1, none⟩ v1).setCell ⟨q, 2, none⟩ v2).setCell ⟨q, 3, none⟩ v3).setCell ⟨q, 4, none⟩ v4).setCell ⟨q, 5, none⟩ v5).setCell ⟨q, 6, none⟩ v6).heap[q]? = some (.cells #[v0, v1, v2, v3, v4, v5, v6, u7] T (0, 0)) := heap_setCell_same _ q 6 _ _ v6 h5
    have h7 : ((((((((w.setCell ⟨q, 0, none⟩ v0).setCell ⟨q, 1, none⟩ v1).setCell ⟨q, 2, none⟩ v2).setCell ⟨q, 3, none⟩ v3).setCell ⟨q, 4, none⟩ v4).setCell ⟨q, 5, none⟩ v5).setCell ⟨q, 6, none⟩ v6).setCell ⟨q, 7, none⟩ v7).heap[q]? = some (.cells #[v0, v1, v2, v3, v4, v5, v6, v7] T (0, 0)) := heap_setCell_same _ q 7 _ _ v7 h6
    exact h7
  · rw [heap_setCell_other _ _ _ _ hj, heap_setCell_other _ _ _ _ hj, heap_setCell_other _ _ _ _ hj, heap_setCell_other _ _ _ _ hj, heap_setCell_other _ _ _ _ hj, heap_setCell_other _ _ _ _ hj, heap_setCell_other _ _ _ _ hj, heap_setCell_other _ _ _ _ hj]
  · exact (((((((hn.setCell (by exact hq) _).setCell (by exact hq) _).setCell (by exact hq) _).setCell (by exact hq) _).setCell (by exact hq) _).setCell (by exact hq) _).setCell (by exact hq) _).setCell (by exact hq) _
  · simp
theorem okK_no {k : Int} (h : ¬ (1 ≤ k ∧ k ≤ 8)) : okK k = false := by unfold okK; simpa using h
end Go.Proofs.YtfaobdmoifnglaaGreat
