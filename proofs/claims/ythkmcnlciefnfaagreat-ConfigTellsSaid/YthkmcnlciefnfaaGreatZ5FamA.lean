import Derived.Test.YthkmcnlciefnfaaGreatProg
import Derived.Test.YthkmcnlciefnfaaGreatZ5Frame
import Derived.Handy
import Derived.Deep.DeepCutAuto
import Derived.Laws.EntriesVeiled
/- Layer 27: what the families of the kinds are. -/
namespace Go.Proofs.YthkmcnlciefnfaaGreat
open Go.RowKit Go.Bv
set_option linter.unusedVariables false
/-- a family's parts -/
structure Fm where
  nm : ByteArray
  ls : Int
  ms : Int
  lb : Int
  mb : Int
  ky : Int
  ck : Value
  tg : Value
  ev : Value
  sh : Value
abbrev Fm.cells (f : Fm) : Array Value := #[.string f.nm, .int .i64 f.ls, .int .i64 f.ms, .int .i64 f.lb, .int .i64 f.mb, .int .i64 f.ky, f.ck, f.tg, f.ev, f.sh]
abbrev fzc : Array Value := #[.string ⟨#[]⟩, .int .i64 0, .int .i64 0, .int .i64 0, .int .i64 0, .int .i64 0, .nilFunc, .nilFunc, .nilFunc, .nilFunc]
def nmF (k : Int) : ByteArray := if k = 1 then ⟨#[112, 111, 108, 121]⟩ else if k = 2 then ⟨#[111, 100, 100]⟩ else if k = 3 then ⟨#[97, 100, 100]⟩ else if k = 4 then ⟨#[119, 105, 100, 101]⟩ else if k = 5 then ⟨#[115, 105, 109, 112, 108, 101]⟩ else if k = 6 then ⟨#[116, 119, 105, 115, 116, 101, 100]⟩ else if k = 7 then ⟨#[109, 105, 120, 101, 100]⟩ else if k = 8 then ⟨#[115, 116, 114, 105, 110, 103]⟩ else ⟨#[]⟩
def lsF (k : Int) : Int := if k = 1 then 1 else if k = 2 then 1 else if k = 3 then 2 else if k = 4 then 4 else if k = 5 then 128 else if k = 6 then 240 else if k = 7 then 320 else if k = 8 then 1 else 0
def msF (k : Int) : Int := if k = 1 then 64 else lsF k
def lbF (k : Int) : Int := if k = 1 then 61 else if k = 2 then 1 else if k = 3 then 1 else if k = 4 then 1 else if k = 5 then 1 else if k = 6 then 1 else if k = 7 then 1 else if k = 8 then 61 else 0
def mbF (k : Int) : Int := if k = 1 then 61 else if k = 2 then 64 else if k = 3 then 32 else if k = 4 then 64 else if k = 5 then 64 else if k = 6 then 64 else if k = 7 then 64 else if k = 8 then 61 else 0
def kyF (k : Int) : Int := if k = 1 then 61 else if k = 2 then 64 else if k = 3 then 32 else if k = 4 then 64 else if k = 5 then 32 else if k = 6 then 32 else if k = 7 then 32 else if k = 8 then 64 else 0
def evF (k : Int) : Nat := if k = 5 then 127 else if k = 6 then 129 else 131
def shFm (k : Int) : Nat := if k = 5 then 128 else if k = 6 then 130 else 132
inductive IsFam (w : World) : Int → Fm → Prop
  | poly : IsFam w 1 ⟨nmF 1, lsF 1, msF 1, lbF 1, mbF 1, kyF 1, (.func (Fn.func 192) #[] #[]), (.func (Fn.func 194) #[] #[]), (.func (Fn.func 195) #[] #[]), (.func (Fn.func 197) #[] #[])⟩
  | odd (b : Nat) (h : w.heap[b]? = some (.cells #[.int .i64 0] 3 (0, 0))) : IsFam w 2 ⟨nmF 2, lsF 2, msF 2, lbF 2, mbF 2, kyF 2, (.func (Fn.func 199) #[] #[]), (.func (Fn.func 319) #[] #[.pointer (some ⟨b, 0, none⟩)]), (.func (Fn.func 202) #[] #[]), .nilFunc⟩
  | sum (k : Int) (hk : k = 3 ∨ k = 4) (b b9 : Nat) (h : w.heap[b]? = some (.cells #[.int .i64 2] 3 (0, 0))) (h9 : w.heap[b9]? = some (.cells #[.string (nmF k), .int .i64 (lsF k), .int .i64 (msF k), .int .i64 (lbF k), .int .i64 (mbF k), .int .i64 (kyF k), (.func (Fn.func 204) #[] #[]), (.func (Fn.func 319) #[] #[.pointer (some ⟨b, 0, none⟩)]), (.func (Fn.func 205) #[] #[]), (.func (Fn.func 208) #[] #[.pointer (some ⟨b9, 0, none⟩)])] 102 (0, 0))) : IsFam w k ⟨nmF k, lsF k, msF k, lbF k, mbF k, kyF k, (.func (Fn.func 204) #[] #[]), (.func (Fn.func 319) #[] #[.pointer (some ⟨b, 0, none⟩)]), (.func (Fn.func 205) #[] #[]), (.func (Fn.func 208) #[] #[.pointer (some ⟨b9, 0, none⟩)])⟩
  | table (k : Int) (hk : k = 5 ∨ k = 6 ∨ k = 7) (b be bs : Nat) (h : w.heap[b]? = some (.cells #[.int .i64 3] 3 (0, 0))) (he : w.heap[be]? = some (.cells #[.func (Fn.func (evF k)) #[] #[]] 218 (0, 0))) (hs : w.heap[bs]? = some (.cells #[.func (Fn.func (shFm k)) #[] #[]] 219 (0, 0))) : IsFam w k ⟨nmF k, lsF k, msF k, lbF k, mbF k, kyF k, (.func (Fn.func 204) #[] #[]), (.func (Fn.func 319) #[] #[.pointer (some ⟨b, 0, none⟩)]), (.func (Fn.func 210) #[] #[.pointer (some ⟨be, 0, none⟩)]), (.func (Fn.func 211) #[] #[.pointer (some ⟨bs, 0, none⟩)])⟩
  | str (b : Nat) (h : w.heap[b]? = some (.cells #[.int .i64 0] 3 (0, 0))) : IsFam w 8 ⟨nmF 8, lsF 8, msF 8, lbF 8, mbF 8, kyF 8, (.func (Fn.func 227) #[] #[]), (.func (Fn.func 319) #[] #[.pointer (some ⟨b, 0, none⟩)]), (.func (Fn.func 228) #[] #[]), .nilFunc⟩
theorem IsFam.stay {w w' : World} {k : Int} {f : Fm} (h : IsFam w k f) (hn : New w w') : IsFam w' k f := by
  cases h with
  | poly => exact .poly
  | odd b h => exact .odd b ((hn.block _ (lt_of_block h)).trans h)
  | sum k hk b b9 h h9 => exact .sum k hk b b9 ((hn.block _ (lt_of_block h)).trans h) ((hn.block _ (lt_of_block h9)).trans h9)
  | table k hk b be bs h he hs => exact .table k hk b be bs ((hn.block _ (lt_of_block h)).trans h) ((hn.block _ (lt_of_block he)).trans he) ((hn.block _ (lt_of_block hs)).trans hs)
  | str b h => exact .str b ((hn.block _ (lt_of_block h)).trans h)
/-- .. and what it holds lies in blocks from n on, that a write elsewhere does not touch -/
def OwnF (n : Nat) (w : World) (k : Int) (f : Fm) : Prop := ∀ w2 : World, (∀ j, n ≤ j → j < w.heap.size → w2.heap[j]? = w.heap[j]?) → IsFam w2 k f
theorem OwnF.now {n : Nat} {w : World} {k : Int} {g : Fm} (h : OwnF n w k g) : IsFam w k g := h w fun _ _ _ => rfl
theorem OwnF.le {n m : Nat} {w : World} {k : Int} {g : Fm} (h : OwnF n w k g) (hm : m ≤ n) : OwnF m w k g := fun w2 h2 => h w2 fun j hj hl => h2 j (Nat.le_trans hm hj) hl
theorem OwnF.kept {n : Nat} {w w' : World} {k : Int} {g : Fm} (h : OwnF n w k g) (hs : w.heap.size ≤ w'.heap.size) (hb : ∀ j, n ≤ j → j < w.heap.size → w'.heap[j]? = w.heap[j]?) : OwnF n w' k g :=
  fun w2 h2 => h w2 fun j hj hl => (h2 j hj (Nat.lt_of_lt_of_le hl hs)).trans (hb j hj hl)
theorem OwnF.stay {n : Nat} {w w' : World} {k : Int} {g : Fm} (h : OwnF n w k g) (hn : New w w') : OwnF n w' k g := h.kept hn.size fun j _ hl => hn.block j hl
theorem IsFam.has {w : World} {k : Int} {f : Fm} (h : IsFam w k f) : f.nm = nmF k ∧ f.ls = lsF k ∧ f.ms = msF k ∧ f.lb = lbF k ∧ f.mb = mbF k ∧ f.ky = kyF k ∧ 1 ≤ k ∧ k ≤ 8 := by
  cases h with
  | poly => exact ⟨rfl, rfl, rfl, rfl, rfl, rfl, by omega, by omega⟩
  | odd b h => exact ⟨rfl, rfl, rfl, rfl, rfl, rfl, by omega, by omega⟩
  | sum k hk b b9 h h9 => exact ⟨rfl, rfl, rfl, rfl, rfl, rfl, by omega, by omega⟩
  | table k hk b be bs h he hs => exact ⟨rfl, rfl, rfl, rfl, rfl, rfl, by omega, by omega⟩
  | str b h => exact ⟨rfl, rfl, rfl, rfl, rfl, rfl, by omega, by omega⟩
theorem IsFam.one {w : World} {k : Int} {f : Fm} (h : IsFam w k f) : f.ck.oneCell' = true ∧ f.tg.oneCell' = true ∧ f.ev.oneCell' = true ∧ f.sh.oneCell' = true := by
  cases h <;> exact ⟨rfl, rfl, rfl, rfl⟩
theorem IsFam.form {w : World} {k : Int} {f : Fm} (h : IsFam w k f) : (∃ a b c d p q r s, f.ck = .func (Fn.func a) #[] p ∧ f.tg = .func (Fn.func b) #[] q ∧ f.ev = .func (Fn.func c) #[] r ∧ f.sh = .func (Fn.func d) #[] s) ∨ (∃ a b c p q r, f.ck = .func (Fn.func a) #[] p ∧ f.tg = .func (Fn.func b) #[] q ∧ f.ev = .func (Fn.func c) #[] r ∧ f.sh = .nilFunc) := by
  cases h with
  | poly => exact .inl ⟨_, _, _, _, _, _, _, _, rfl, rfl, rfl, rfl⟩
  | odd b h => exact .inr ⟨_, _, _, _, _, _, rfl, rfl, rfl, rfl⟩
  | sum k hk b b9 h h9 => exact .inl ⟨_, _, _, _, _, _, _, _, rfl, rfl, rfl, rfl⟩
  | table k hk b be bs h he hs => exact .inl ⟨_, _, _, _, _, _, _, _, rfl, rfl, rfl, rfl⟩
  | str b h => exact .inr ⟨_, _, _, _, _, _, rfl, rfl, rfl, rfl⟩
theorem constant_27 (n : Int) (w : World) : Calls Tryz.prog 201 #[.int .i64 n] w fun e w' => e = .returned (.func (Fn.func 319) #[] #[.pointer (some ⟨w.heap.size, 0, none⟩)]) ∧ w' = w.alloc (.cells #[.int .i64 n] 3) := by
  have hmf : ∀ (fn : Fn) (first cap : Array Value) (w : World), (Instr.makeFunc fn first cap).run Tryz.prog w = .ok (.func fn first cap) w := fun _ _ _ _ => rfl
  go_enter Tryz.func201, Tryz.ntmps201
  go_wp2
  go_ret
  exact ⟨rfl, rfl⟩
theorem of_poly (w : World) : Calls Tryz.prog 123 #[] w fun e w' => (∃ f : Fm, e = .returned (.agg f.cells) ∧ OwnF w.heap.size w' 1 f) ∧ New w w' := by
  go_enter Tryz.func123, Tryz.ntmps123
  go_wp2_with fail
  go_returns
  refine ⟨⟨⟨nmF 1, lsF 1, msF 1, lbF 1, mbF 1, kyF 1, (.func (Fn.func 192) #[] #[]), (.func (Fn.func 194) #[] #[]), (.func (Fn.func 195) #[] #[]), (.func (Fn.func 197) #[] #[])⟩, rfl, fun _ _ => IsFam.poly⟩, ?_⟩
  exact (New.refl w).alloc _
theorem first_blockF (w : World) (A B : Obj) : ((w.alloc A).alloc B).heap[w.heap.size + 1]? = some B := by
  have e : (w.alloc A).heap.size = w.heap.size + 1 := by simp
  rw [← e]; exact heap_alloc_new _ _
theorem four_blocksF (w : World) (A B C D : Obj) : ((((w.alloc A).alloc B).alloc C).alloc D).heap[w.heap.size]? = some A ∧ ((((w.alloc A).alloc B).alloc C).alloc D).heap[w.heap.size + 1]? = some B ∧ ((((w.alloc A).alloc B).alloc C).alloc D).heap[w.heap.size + 1 + 1]? = some C ∧ ((((w.alloc A).alloc B).alloc C).alloc D).heap[w.heap.size + 1 + 1 + 1]? = some D := by
  have eA : (w.alloc A).heap.size = w.heap.size + 1 := by simp
  have eB : ((w.alloc A).alloc B).heap.size = w.heap.size + 1 + 1 := by simp
  have eC : (((w.alloc A).alloc B).alloc C).heap.size = w.heap.size + 1 + 1 + 1 := by simp
  have hA := heap_alloc_new w A
  have hB := heap_alloc_new (w.alloc A) B
  have hC := heap_alloc_new ((w.alloc A).alloc B) C
  have hD := heap_alloc_new (((w.alloc A).alloc B).alloc C) D
  rw [eA] at hB
  rw [eB] at hC
  rw [eC] at hD
  have nC := (New.refl (((w.alloc A).alloc B).alloc C)).alloc D
  have nB := ((New.refl ((w.alloc A).alloc B)).alloc C).alloc D
  have nA := (((New.refl (w.alloc A)).alloc B).alloc C).alloc D
  exact ⟨(nA.block _ (lt_of_block hA)).trans hA, (nB.block _ (lt_of_block hB)).trans hB, (nC.block _ (lt_of_block hC)).trans hC, hD⟩
theorem three_blocksF (w : World) (A B C : Obj) : (((w.alloc A).alloc B).alloc C).heap[w.heap.size + 1]? = some B ∧ (((w.alloc A).alloc B).alloc C).heap[w.heap.size + 1 + 1]? = some C := by
  have eA : (w.alloc A).heap.size = w.heap.size + 1 := by simp
  have eB : ((w.alloc A).alloc B).heap.size = w.heap.size + 1 + 1 := by simp
  have hB := heap_alloc_new (w.alloc A) B
  have hC := heap_alloc_new ((w.alloc A).alloc B) C
  rw [eA] at hB
  rw [eB] at hC
  have nB := (New.refl ((w.alloc A).alloc B)).alloc C
  exact ⟨(nB.block _ (lt_of_block hB)).trans hB, hC⟩
theorem of_odd (w : World) : Calls Tryz.prog 124 #[] w fun e w' => (∃ f : Fm, e = .returned (.agg f.cells) ∧ OwnF w.heap.size w' 2 f) ∧ New w w' := by
  go_enter Tryz.func124, Tryz.ntmps124
  go_wp2_with fail
  refine (constant_27 0 _).mono ?_
  rintro e w9 ⟨rfl, rfl⟩
  go_wp2_with fail
  go_returns
  have B := fun A => first_blockF w A (.cells #[.int .i64 0] 3)
  exact ⟨⟨⟨nmF 2, lsF 2, msF 2, lbF 2, mbF 2, kyF 2, (.func (Fn.func 199) #[] #[]), (.func (Fn.func 319) #[] #[.pointer (some ⟨w.heap.size + 1, 0, none⟩)]), (.func (Fn.func 202) #[] #[]), .nilFunc⟩, rfl, fun w2 h2 => IsFam.odd (w.heap.size + 1) ((h2 _ (Nat.le_succ _) (lt_of_block (B _))).trans (B _))⟩, ((New.refl w).alloc _).alloc _⟩
theorem of_str (w : World) : Calls Tryz.prog 133 #[] w fun e w' => (∃ f : Fm, e = .returned (.agg f.cells) ∧ OwnF w.heap.size w' 8 f) ∧ New w w' := by
  go_enter Tryz.func133, Tryz.ntmps133
  go_wp2_with fail
  refine (constant_27 0 _).mono ?_
  rintro e w9 ⟨rfl, rfl⟩
  go_wp2_with fail
  go_returns
  have B := fun A => first_blockF w A (.cells #[.int .i64 0] 3)
  exact ⟨⟨⟨nmF 8, lsF 8, msF 8, lbF 8, mbF 8, kyF 8, (.func (Fn.func 227) #[] #[]), (.func (Fn.func 319) #[] #[.pointer (some ⟨w.heap.size + 1, 0, none⟩)]), (.func (Fn.func 228) #[] #[]), .nilFunc⟩, rfl, fun w2 h2 => IsFam.str (w.heap.size + 1) ((h2 _ (Nat.le_succ _) (lt_of_block (B _))).trans (B _))⟩, ((New.refl w).alloc _).alloc _⟩
theorem of_sum3 (w : World) : Calls Tryz.prog 125 #[.int .i64 3] w fun e w' => (∃ f : Fm, e = .returned (.agg f.cells) ∧ OwnF w.heap.size w' 3 f) ∧ New w w' := by
  have hmf : ∀ (fn : Fn) (first cap : Array Value) (w : World), (Instr.makeFunc fn first cap).run Tryz.prog w = .ok (.func fn first cap) w := fun _ _ _ _ => rfl
  go_enter Tryz.func125, Tryz.ntmps125
  go_wp2_with fail
  refine (constant_27 2 _).mono ?_
  rintro e w9 ⟨rfl, rfl⟩
  go_wp2_with fail
  go_returns
  have B := fun A => three_blocksF w A (.cells #[.string (nmF 3), .int .i64 (lsF 3), .int .i64 (msF 3), .int .i64 (lbF 3), .int .i64 (mbF 3), .int .i64 (kyF 3), (.func (Fn.func 204) #[] #[]), (.func (Fn.func 319) #[] #[.pointer (some ⟨(w.heap.size + 1 + 1), 0, none⟩)]), (.func (Fn.func 205) #[] #[]), (.func (Fn.func 208) #[] #[.pointer (some ⟨(w.heap.size + 1), 0, none⟩)])] 102 (0, 0)) (.cells #[.int .i64 2] 3)
  exact ⟨⟨⟨nmF 3, lsF 3, msF 3, lbF 3, mbF 3, kyF 3, (.func (Fn.func 204) #[] #[]), (.func (Fn.func 319) #[] #[.pointer (some ⟨(w.heap.size + 1 + 1), 0, none⟩)]), (.func (Fn.func 205) #[] #[]), (.func (Fn.func 208) #[] #[.pointer (some ⟨(w.heap.size + 1), 0, none⟩)])⟩, rfl, fun w2 h2 => IsFam.sum 3 (by omega) (w.heap.size + 1 + 1) (w.heap.size + 1) ((h2 _ (by omega) (lt_of_block (B _).2)).trans (B _).2) ((h2 _ (by omega) (lt_of_block (B _).1)).trans (B _).1)⟩, (((New.refl w).alloc _).alloc _).alloc _⟩
theorem of_sum4 (w : World) : Calls Tryz.prog 125 #[.int .i64 4] w fun e w' => (∃ f : Fm, e = .returned (.agg f.cells) ∧ OwnF w.heap.size w' 4 f) ∧ New w w' := by
  have hmf : ∀ (fn : Fn) (first cap : Array Value) (w : World), (Instr.makeFunc fn first cap).run Tryz.prog w = .ok (.func fn first cap) w := fun _ _ _ _ => rfl
  go_enter Tryz.func125, Tryz.ntmps125
  go_wp2_with fail
  refine (constant_27 2 _).mono ?_
  rintro e w9 ⟨rfl, rfl⟩
  go_wp2_with fail
  go_returns
  have B := fun A => three_blocksF w A (.cells #[.string (nmF 4), .int .i64 (lsF 4), .int .i64 (msF 4), .int .i64 (lbF 4), .int .i64 (mbF 4), .int .i64 (kyF 4), (.func (Fn.func 204) #[] #[]), (.func (Fn.func 319) #[] #[.pointer (some ⟨(w.heap.size + 1 + 1), 0, none⟩)]), (.func (Fn.func 205) #[] #[]), (.func (Fn.func 208) #[] #[.pointer (some ⟨(w.heap.size + 1), 0, none⟩)])] 102 (0, 0)) (.cells #[.int .i64 2] 3)
  exact ⟨⟨⟨nmF 4, lsF 4, msF 4, lbF 4, mbF 4, kyF 4, (.func (Fn.func 204) #[] #[]), (.func (Fn.func 319) #[] #[.pointer (some ⟨(w.heap.size + 1 + 1), 0, none⟩)]), (.func (Fn.func 205) #[] #[]), (.func (Fn.func 208) #[] #[.pointer (some ⟨(w.heap.size + 1), 0, none⟩)])⟩, rfl, fun w2 h2 => IsFam.sum 4 (by omega) (w.heap.size + 1 + 1) (w.heap.size + 1) ((h2 _ (by omega) (lt_of_block (B _).2)).trans (B _).2) ((h2 _ (by omega) (lt_of_block (B _).1)).trans (B _).1)⟩, (((New.refl w).alloc _).alloc _).alloc _⟩
theorem of_tab5 (w : World) : Calls Tryz.prog 126 #[.string ⟨#[115, 105, 109, 112, 108, 101]⟩, .int .i64 128, .func (Fn.func 127) #[] #[], .func (Fn.func 128) #[] #[]] w fun e w' => (∃ f : Fm, e = .returned (.agg f.cells) ∧ OwnF w.heap.size w' 5 f) ∧ New w w' := by
  have hmf : ∀ (fn : Fn) (first cap : Array Value) (w : World), (Instr.makeFunc fn first cap).run Tryz.prog w = .ok (.func fn first cap) w := fun _ _ _ _ => rfl
  go_enter Tryz.func126, Tryz.ntmps126
  go_wp2_with fail
  refine (constant_27 3 _).mono ?_
  rintro e w9 ⟨rfl, rfl⟩
  go_wp2_with fail
  go_returns
  have B := fun C => four_blocksF w (.cells #[.func (Fn.func (evF 5)) #[] #[]] 218 (0, 0)) (.cells #[.func (Fn.func (shFm 5)) #[] #[]] 219 (0, 0)) C (.cells #[.int .i64 3] 3)
  exact ⟨⟨⟨nmF 5, lsF 5, msF 5, lbF 5, mbF 5, kyF 5, (.func (Fn.func 204) #[] #[]), (.func (Fn.func 319) #[] #[.pointer (some ⟨(w.heap.size + 1 + 1 + 1), 0, none⟩)]), (.func (Fn.func 210) #[] #[.pointer (some ⟨w.heap.size, 0, none⟩)]), (.func (Fn.func 211) #[] #[.pointer (some ⟨(w.heap.size + 1), 0, none⟩)])⟩, rfl, fun w2 h2 => IsFam.table 5 (by omega) (w.heap.size + 1 + 1 + 1) w.heap.size (w.heap.size + 1) ((h2 _ (by omega) (lt_of_block (B _).2.2.2)).trans (B _).2.2.2) ((h2 _ (by omega) (lt_of_block (B _).1)).trans (B _).1) ((h2 _ (by omega) (lt_of_block (B _).2.1)).trans (B _).2.1)⟩, ((((New.refl w).alloc _).alloc _).alloc _).alloc _⟩
theorem of_tab6 (w : World) : Calls Tryz.prog 126 #[.string ⟨#[116, 119, 105, 115, 116, 101, 100]⟩, .int .i64 240, .func (Fn.func 129) #[] #[], .func (Fn.func 130) #[] #[]] w fun e w' => (∃ f : Fm, e = .returned (.agg f.cells) ∧ OwnF w.heap.size w' 6 f) ∧ New w w' := by
  have hmf : ∀ (fn : Fn) (first cap : Array Value) (w : World), (Instr.makeFunc fn first cap).run Tryz.prog w = .ok (.func fn first cap) w := fun _ _ _ _ => rfl
  go_enter Tryz.func126, Tryz.ntmps126
  go_wp2_with fail
  refine (constant_27 3 _).mono ?_
  rintro e w9 ⟨rfl, rfl⟩
  go_wp2_with fail
  go_returns
  have B := fun C => four_blocksF w (.cells #[.func (Fn.func (evF 6)) #[] #[]] 218 (0, 0)) (.cells #[.func (Fn.func (shFm 6)) #[] #[]] 219 (0, 0)) C (.cells #[.int .i64 3] 3)
  exact ⟨⟨⟨nmF 6, lsF 6, msF 6, lbF 6, mbF 6, kyF 6, (.func (Fn.func 204) #[] #[]), (.func (Fn.func 319) #[] #[.pointer (some ⟨(w.heap.size + 1 + 1 + 1), 0, none⟩)]), (.func (Fn.func 210) #[] #[.pointer (some ⟨w.heap.size, 0, none⟩)]), (.func (Fn.func 211) #[] #[.pointer (some ⟨(w.heap.size + 1), 0, none⟩)])⟩, rfl, fun w2 h2 => IsFam.table 6 (by omega) (w.heap.size + 1 + 1 + 1) w.heap.size (w.heap.size + 1) ((h2 _ (by omega) (lt_of_block (B _).2.2.2)).trans (B _).2.2.2) ((h2 _ (by omega) (lt_of_block (B _).1)).trans (B _).1) ((h2 _ (by omega) (lt_of_block (B _).2.1)).trans (B _).2.1)⟩, ((((New.refl w).alloc _).alloc _).alloc _).alloc _⟩
theorem of_tab7 (w : World) : Calls Tryz.prog 126 #[.string ⟨#[109, 105, 120, 101, 100]⟩, .int .i64 320, .func (Fn.func 131) #[] #[], .func (Fn.func 132) #[] #[]] w fun e w' => (∃ f : Fm, e = .returned (.agg f.cells) ∧ OwnF w.heap.size w' 7 f) ∧ New w w' := by
  have hmf : ∀ (fn : Fn) (first cap : Array Value) (w : World), (Instr.makeFunc fn first cap).run Tryz.prog w = .ok (.func fn first cap) w := fun _ _ _ _ => rfl
  go_enter Tryz.func126, Tryz.ntmps126
  go_wp2_with fail
  refine (constant_27 3 _).mono ?_
  rintro e w9 ⟨rfl, rfl⟩
  go_wp2_with fail
  go_returns
  have B := fun C => four_blocksF w (.cells #[.func (Fn.func (evF 7)) #[] #[]] 218 (0, 0)) (.cells #[.func (Fn.func (shFm 7)) #[] #[]] 219 (0, 0)) C (.cells #[.int .i64 3] 3)
  exact ⟨⟨⟨nmF 7, lsF 7, msF 7, lbF 7, mbF 7, kyF 7, (.func (Fn.func 204) #[] #[]), (.func (Fn.func 319) #[] #[.pointer (some ⟨(w.heap.size + 1 + 1 + 1), 0, none⟩)]), (.func (Fn.func 210) #[] #[.pointer (some ⟨w.heap.size, 0, none⟩)]), (.func (Fn.func 211) #[] #[.pointer (some ⟨(w.heap.size + 1), 0, none⟩)])⟩, rfl, fun w2 h2 => IsFam.table 7 (by omega) (w.heap.size + 1 + 1 + 1) w.heap.size (w.heap.size + 1) ((h2 _ (by omega) (lt_of_block (B _).2.2.2)).trans (B _).2.2.2) ((h2 _ (by omega) (lt_of_block (B _).1)).trans (B _).1) ((h2 _ (by omega) (lt_of_block (B _).2.1)).trans (B _).2.1)⟩, ((((New.refl w).alloc _).alloc _).alloc _).alloc _⟩
end Go.Proofs.YthkmcnlciefnfaaGreat
