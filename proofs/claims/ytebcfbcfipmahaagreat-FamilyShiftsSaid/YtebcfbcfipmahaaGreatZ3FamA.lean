import Derived.Test.YtebcfbcfipmahaaGreatProg
import Derived.Test.YtebcfbcfipmahaaGreatZ3Frame
import Derived.Handy
import Derived.Deep.DeepCutAuto
import Derived.Laws.EntriesVeiled
import Derived.Test.YtebcfbcfipmahaaGreatZ3PkC
import Derived.Test.YtebcfbcfipmahaaGreatZ3ModC
section
/- Layer 27: what the families of the kinds are. -/
namespace Go.Proofs.YtebcfbcfipmahaaGreat
open Go.RowKit Go.Bv
set_option linter.unusedVariables false
/-- a family's parts -/
structure Fm where
  nm : ByteArray
  ls : Int
  ms : Int
  lb : Int
  mb : Int
  ky : Int
  ck : Value
  tg : Value
  ev : Value
  sh : Value
abbrev Fm.cells (f : Fm) : Array Value := #[.string f.nm, .int .i64 f.ls, .int .i64 f.ms, .int .i64 f.lb, .int .i64 f.mb, .int .i64 f.ky, f.ck, f.tg, f.ev, f.sh]
abbrev fzc : Array Value := #[.string ⟨#[]⟩, .int .i64 0, .int .i64 0, .int .i64 0, .int .i64 0, .int .i64 0, .nilFunc, .nilFunc, .nilFunc, .nilFunc]
def nmF (k : Int) : ByteArray := if k = 1 then ⟨#[112, 111, 108, 121]⟩ else if k = 2 then ⟨#[111, 100, 100]⟩ else if k = 3 then ⟨#[97, 100, 100]⟩ else if k = 4 then ⟨#[119, 105, 100, 101]⟩ else if k = 5 then ⟨#[115, 105, 109, 112, 108, 101]⟩ else if k = 6 then ⟨#[116, 119, 105, 115, 116, 101, 100]⟩ else if k = 7 then ⟨#[109, 105, 120, 101, 100]⟩ else if k = 8 then ⟨#[115, 116, 114, 105, 110, 103]⟩ else ⟨#[]⟩
def lsF (k : Int) : Int := if k = 1 then 1 else if k = 2 then 1 else if k = 3 then 2 else if k = 4 then 4 else if k = 5 then 128 else if k = 6 then 240 else if k = 7 then 320 else if k = 8 then 1 else 0
def msF (k : Int) : Int := if k = 1 then 64 else lsF k
def lbF (k : Int) : Int := if k = 1 then 61 else if k = 2 then 1 else if k = 3 then 1 else if k = 4 then 1 else if k = 5 then 1 else if k = 6 then 1 else if k = 7 then 1 else if k = 8 then 61 else 0
def mbF (k : Int) : Int := if k = 1 then 61 else if k = 2 then 64 else if k = 3 then 32 else if k = 4 then 64 else if k = 5 then 64 else if k = 6 then 64 else if k = 7 then 64 else if k = 8 then 61 else 0
def kyF (k : Int) : Int := if k = 1 then 61 else if k = 2 then 64 else if k = 3 then 32 else if k = 4 then 64 else if k = 5 then 32 else if k = 6 then 32 else if k = 7 then 32 else if k = 8 then 64 else 0
def evF (k : Int) : Nat := if k = 5 then 48 else if k = 6 then 50 else 52
def shFm (k : Int) : Nat := if k = 5 then 49 else if k = 6 then 51 else 53
inductive IsFam (w : World) : Int → Fm → Prop
  | poly : IsFam w 1 ⟨nmF 1, lsF 1, msF 1, lbF 1, mbF 1, kyF 1, (.func (Fn.func 70) #[] #[]), (.func (Fn.func 72) #[] #[]), (.func (Fn.func 73) #[] #[]), (.func (Fn.func 75) #[] #[])⟩
  | odd (b : Nat) (h : w.heap[b]? = some (.cells #[.int .i64 0] 3 (0, 0))) : IsFam w 2 ⟨nmF 2, lsF 2, msF 2, lbF 2, mbF 2, kyF 2, (.func (Fn.func 77) #[] #[]), (.func (Fn.func 124) #[] #[.pointer (some ⟨b, 0, none⟩)]), (.func (Fn.func 80) #[] #[]), .nilFunc⟩
  | sum (k : Int) (hk : k = 3 ∨ k = 4) (b b9 : Nat) (h : w.heap[b]? = some (.cells #[.int .i64 2] 3 (0, 0))) (h9 : w.heap[b9]? = some (.cells #[.string (nmF k), .int .i64 (lsF k), .int .i64 (msF k), .int .i64 (lbF k), .int .i64 (mbF k), .int .i64 (kyF k), (.func (Fn.func 82) #[] #[]), (.func (Fn.func 124) #[] #[.pointer (some ⟨b, 0, none⟩)]), (.func (Fn.func 83) #[] #[]), (.func (Fn.func 86) #[] #[.pointer (some ⟨b9, 0, none⟩)])] 52 (0, 0))) : IsFam w k ⟨nmF k, lsF k, msF k, lbF k, mbF k, kyF k, (.func (Fn.func 82) #[] #[]), (.func (Fn.func 124) #[] #[.pointer (some ⟨b, 0, none⟩)]), (.func (Fn.func 83) #[] #[]), (.func (Fn.func 86) #[] #[.pointer (some ⟨b9, 0, none⟩)])⟩
  | table (k : Int) (hk : k = 5 ∨ k = 6 ∨ k = 7) (b be bs : Nat) (h : w.heap[b]? = some (.cells #[.int .i64 3] 3 (0, 0))) (he : w.heap[be]? = some (.cells #[.func (Fn.func (evF k)) #[] #[]] 101 (0, 0))) (hs : w.heap[bs]? = some (.cells #[.func (Fn.func (shFm k)) #[] #[]] 102 (0, 0))) : IsFam w k ⟨nmF k, lsF k, msF k, lbF k, mbF k, kyF k, (.func (Fn.func 82) #[] #[]), (.func (Fn.func 124) #[] #[.pointer (some ⟨b, 0, none⟩)]), (.func (Fn.func 88) #[] #[.pointer (some ⟨be, 0, none⟩)]), (.func (Fn.func 89) #[] #[.pointer (some ⟨bs, 0, none⟩)])⟩
  | str (b : Nat) (h : w.heap[b]? = some (.cells #[.int .i64 0] 3 (0, 0))) : IsFam w 8 ⟨nmF 8, lsF 8, msF 8, lbF 8, mbF 8, kyF 8, (.func (Fn.func 105) #[] #[]), (.func (Fn.func 124) #[] #[.pointer (some ⟨b, 0, none⟩)]), (.func (Fn.func 106) #[] #[]), .nilFunc⟩
theorem IsFam.stay {w w' : World} {k : Int} {f : Fm} (h : IsFam w k f) (hn : New w w') : IsFam w' k f := by
  cases h with
  | poly => exact .poly
  | odd b h => exact .odd b ((hn.block _ (lt_of_block h)).trans h)
  | sum k hk b b9 h h9 => exact .sum k hk b b9 ((hn.block _ (lt_of_block h)).trans h) ((hn.block _ (lt_of_block h9)).trans h9)
  | table k hk b be bs h he hs => exact .table k hk b be bs ((hn.block _ (lt_of_block h)).trans h) ((hn.block _ (lt_of_block he)).trans he) ((hn.block _ (lt_of_block hs)).trans hs)
  | str b h => exact .str b ((hn.block _ (lt_of_block h)).trans h)
/-- .. and what it holds lies in blocks from n on, that a write elsewhere does not touch -/
def OwnF (n : Nat) (w : World) (k : Int) (f : Fm) : Prop := ∀ w2 : World, (∀ j, n ≤ j → j < w.heap.size → w2.heap[j]? = w.heap[j]?) → IsFam w2 k f
theorem OwnF.now {n : Nat} {w : World} {k : Int} {g : Fm} (h : OwnF n w k g) : IsFam w k g := h w fun _ _ _ => rfl
theorem OwnF.le {n m : Nat} {w : World} {k : Int} {g : Fm} (h : OwnF n w k g) (hm : m ≤ n) : OwnF m w k g := fun w2 h2 => h w2 fun j hj hl => h2 j (Nat.le_trans hm hj) hl
theorem OwnF.kept {n : Nat} {w w' : World} {k : Int} {g : Fm} (h : OwnF n w k g) (hs : w.heap.size ≤ w'.heap.size) (hb : ∀ j, n ≤ j → j < w.heap.size → w'.heap[j]? = w.heap[j]?) : OwnF n w' k g :=
  fun w2 h2 => h w2 fun j hj hl => (h2 j hj (Nat.lt_of_lt_of_le hl hs)).trans (hb j hj hl)
theorem OwnF.stay {n : Nat} {w w' : World} {k : Int} {g : Fm} (h : OwnF n w k g) (hn : New w w') : OwnF n w' k g := h.kept hn.size fun j _ hl => hn.block j hl
theorem IsFam.has {w : World} {k : Int} {f : Fm} (h : IsFam w k f) : f.nm = nmF k ∧ f.ls = lsF k ∧ f.ms = msF k ∧ f.lb = lbF k ∧ f.mb = mbF k ∧ f.ky = kyF k ∧ 1 ≤ k ∧ k ≤ 8 := by
  cases h with
  | poly => exact ⟨rfl, rfl, rfl, rfl, rfl, rfl, by omega, by omega⟩
  | odd b h => exact ⟨rfl, rfl, rfl, rfl, rfl, rfl, by omega, by omega⟩
  | sum k hk b b9 h h9 => exact ⟨rfl, rfl, rfl, rfl, rfl, rfl, by omega, by omega⟩
  | table k hk b be bs h he hs => exact ⟨rfl, rfl, rfl, rfl, rfl, rfl, by omega, by omega⟩
  | str b h => exact ⟨rfl, rfl, rfl, rfl, rfl, rfl, by omega, by omega⟩
theorem IsFam.one {w : World} {k : Int} {f : Fm} (h : IsFam w k f) : f.ck.oneCell' = true ∧ f.tg.oneCell' = true ∧ f.ev.oneCell' = true ∧ f.sh.oneCell' = true := by
  cases h <;> exact ⟨rfl, rfl, rfl, rfl⟩
theorem IsFam.form {w : World} {k : Int} {f : Fm} (h : IsFam w k f) : (∃ a b c d p q r s, f.ck = .func (Fn.func a) #[] p ∧ f.tg = .func (Fn.func b) #[] q ∧ f.ev = .func (Fn.func c) #[] r ∧ f.sh = .func (Fn.func d) #[] s) ∨ (∃ a b c p q r, f.ck = .func (Fn.func a) #[] p ∧ f.tg = .func (Fn.func b) #[] q ∧ f.ev = .func (Fn.func c) #[] r ∧ f.sh = .nilFunc) := by
  cases h with
  | poly => exact .inl ⟨_, _, _, _, _, _, _, _, rfl, rfl, rfl, rfl⟩
  | odd b h => exact .inr ⟨_, _, _, _, _, _, rfl, rfl, rfl, rfl⟩
  | sum k hk b b9 h h9 => exact .inl ⟨_, _, _, _, _, _, _, _, rfl, rfl, rfl, rfl⟩
  | table k hk b be bs h he hs => exact .inl ⟨_, _, _, _, _, _, _, _, rfl, rfl, rfl, rfl⟩
  | str b h => exact .inr ⟨_, _, _, _, _, _, rfl, rfl, rfl, rfl⟩
theorem constant_27 (n : Int) (w : World) : Calls Tryz.prog 79 #[.int .i64 n] w fun e w' => e = .returned (.func (Fn.func 124) #[] #[.pointer (some ⟨w.heap.size, 0, none⟩)]) ∧ w' = w.alloc (.cells #[.int .i64 n] 3) := by
  have hmf : ∀ (fn : Fn) (first cap : Array Value) (w : World), (Instr.makeFunc fn first cap).run Tryz.prog w = .ok (.func fn first cap) w := fun _ _ _ _ => rfl
  go_enter Tryz.func79, Tryz.ntmps79
  go_wp2
  go_ret
  exact ⟨rfl, rfl⟩
theorem of_poly (w : World) : Calls Tryz.prog 44 #[] w fun e w' => (∃ f : Fm, e = .returned (.agg f.cells) ∧ OwnF w.heap.size w' 1 f) ∧ New w w' := by
  go_enter Tryz.func44, Tryz.ntmps44
  go_wp2_with fail
  go_returns
  refine ⟨⟨⟨nmF 1, lsF 1, msF 1, lbF 1, mbF 1, kyF 1, (.func (Fn.func 70) #[] #[]), (.func (Fn.func 72) #[] #[]), (.func (Fn.func 73) #[] #[]), (.func (Fn.func 75) #[] #[])⟩, rfl, fun _ _ => IsFam.poly⟩, ?_⟩
  exact (New.refl w).alloc _
theorem first_blockF (w : World) (A B : Obj) : ((w.alloc A).alloc B).heap[w.heap.size + 1]? = some B := by
  have e : (w.alloc A).heap.size = w.heap.size + 1 := by simp
  rw [← e]; exact heap_alloc_new _ _
theorem four_blocksF (w : World) (A B C D : Obj) : ((((w.alloc A).alloc B).alloc C).alloc D).heap[w.heap.size]? = some A ∧ ((((w.alloc A).alloc B).alloc C).alloc D).heap[w.heap.size + 1]? = some B ∧ ((((w.alloc A).alloc B).alloc C).alloc D).heap[w.heap.size + 1 + 1]? = some C ∧ ((((w.alloc A).alloc B).alloc C).alloc D).heap[w.heap.size + 1 + 1 + 1]? = some D := by
  have eA : (w.alloc A).heap.size = w.heap.size + 1 := by simp
  have eB : ((w.alloc A).alloc B).heap.size = w.heap.size + 1 + 1 := by simp
  have eC : (((w.alloc A).alloc B).alloc C).heap.size = w.heap.size + 1 + 1 + 1 := by simp
  have hA := heap_alloc_new w A
  have hB := heap_alloc_new (w.alloc A) B
  have hC := heap_alloc_new ((w.alloc A).alloc B) C
  have hD := heap_alloc_new (((w.alloc A).alloc B).alloc C) D
  rw [eA] at hB
  rw [eB] at hC
  rw [eC] at hD
  have nC := (New.refl (((w.alloc A).alloc B).alloc C)).alloc D
  have nB := ((New.refl ((w.alloc A).alloc B)).alloc C).alloc D
  have nA := (((New.refl (w.alloc A)).alloc B).alloc C).alloc D
  exact ⟨(nA.block _ (lt_of_block hA)).trans hA, (nB.block _ (lt_of_block hB)).trans hB, (nC.block _ (lt_of_block hC)).trans hC, hD⟩
theorem three_blocksF (w : World) (A B C : Obj) : (((w.alloc A).alloc B).alloc C).heap[w.heap.size + 1]? = some B ∧ (((w.alloc A).alloc B).alloc C).heap[w.heap.size + 1 + 1]? = some C := by
  have eA : (w.alloc A).heap.size = w.heap.size + 1 := by simp
  have eB : ((w.alloc A).alloc B).heap.size = w.heap.size + 1 + 1 := by simp
  have hB := heap_alloc_new (w.alloc A) B
  have hC := heap_alloc_new ((w.alloc A).alloc B) C
  rw [eA] at hB
  rw [eB] at hC
  have nB := (New.refl ((w.alloc A).alloc B)).alloc C
  exact ⟨(nB.block _ (lt_of_block hB)).trans hB, hC⟩
theorem of_odd (w : World) : Calls Tryz.prog 45 #[] w fun e w' => (∃ f : Fm, e = .returned (.agg f.cells) ∧ OwnF w.heap.size w' 2 f) ∧ New w w' := by
  go_enter Tryz.func45, Tryz.ntmps45
  go_wp2_with fail
  refine (constant_27 0 _).mono ?_
  rintro e w9 ⟨rfl, rfl⟩
  go_wp2_with fail
  go_returns
  have B := fun A => first_blockF w A (.cells #[.int .i64 0] 3)
  exact ⟨⟨⟨nmF 2, lsF 2, msF 2, lbF 2, mbF 2, kyF 2, (.func (Fn.func 77) #[] #[]), (.func (Fn.func 124) #[] #[.pointer (some ⟨w.heap.size + 1, 0, none⟩)]), (.func (Fn.func 80) #[] #[]), .nilFunc⟩, rfl, fun w2 h2 => IsFam.odd (w.heap.size + 1) ((h2 _ (Nat.le_succ _) (lt_of_block (B _))).trans (B _))⟩, ((New.refl w).alloc _).alloc _⟩
theorem of_str (w : World) : Calls Tryz.prog 54 #[] w fun e w' => (∃ f : Fm, e = .returned (.agg f.cells) ∧ OwnF w.heap.size w' 8 f) ∧ New w w' := by
  go_enter Tryz.func54, Tryz.ntmps54
  go_wp2_with fail
  refine (constant_27 0 _).mono ?_
  rintro e w9 ⟨rfl, rfl⟩
  go_wp2_with fail
  go_returns
  have B := fun A => first_blockF w A (.cells #[.int .i64 0] 3)
  exact ⟨⟨⟨nmF 8, lsF 8, msF 8, lbF 8, mbF 8, kyF 8, (.func (Fn.func 105) #[] #[]), (.func (Fn.func 124) #[] #[.pointer (some ⟨w.heap.size + 1, 0, none⟩)]), (.func (Fn.func 106) #[] #[]), .nilFunc⟩, rfl, fun w2 h2 => IsFam.str (w.heap.size + 1) ((h2 _ (Nat.le_succ _) (lt_of_block (B _))).trans (B _))⟩, ((New.refl w).alloc _).alloc _⟩
theorem of_sum3 (w : World) : Calls Tryz.prog 46 #[.int .i64 3] w fun e w' => (∃ f : Fm, e = .returned (.agg f.cells) ∧ OwnF w.heap.size w' 3 f) ∧ New w w' := by
  have hmf : ∀ (fn : Fn) (first cap : Array Value) (w : World), (Instr.makeFunc fn first cap).run Tryz.prog w = .ok (.func fn first cap) w := fun _ _ _ _ => rfl
  go_enter Tryz.func46, Tryz.ntmps46
  go_wp2_with fail
  refine (constant_27 2 _).mono ?_
  rintro e w9 ⟨rfl, rfl⟩
  go_wp2_with fail
  go_returns
  have B := fun A => three_blocksF w A (.cells #[.string (nmF 3), .int .i64 (lsF 3), .int .i64 (msF 3), .int .i64 (lbF 3), .int .i64 (mbF 3), .int .i64 (kyF 3), (.func (Fn.func 82) #[] #[]), (.func (Fn.func 124) #[] #[.pointer (some ⟨(w.heap.size + 1 + 1), 0, none⟩)]), (.func (Fn.func 83) #[] #[]), (.func (Fn.func 86) #[] #[.pointer (some ⟨(w.heap.size + 1), 0, none⟩)])] 52 (0, 0)) (.cells #[.int .i64 2] 3)
  exact ⟨⟨⟨nmF 3, lsF 3, msF 3, lbF 3, mbF 3, kyF 3, (.func (Fn.func 82) #[] #[]), (.func (Fn.func 124) #[] #[.pointer (some ⟨(w.heap.size + 1 + 1), 0, none⟩)]), (.func (Fn.func 83) #[] #[]), (.func (Fn.func 86) #[] #[.pointer (some ⟨(w.heap.size + 1), 0, none⟩)])⟩, rfl, fun w2 h2 => IsFam.sum 3 (by omega) (w.heap.size + 1 + 1) (w.heap.size + 1) ((h2 _ (by omega) (lt_of_block (B _).2)).trans (B _).2) ((h2 _ (by omega) (lt_of_block (B _).1)).trans (B _).1)⟩, (((New.refl w).alloc _).alloc _).alloc _⟩
theorem of_sum4 (w : World) : Calls Tryz.prog 46 #[.int .i64 4] w fun e w' => (∃ f : Fm, e = .returned (.agg f.cells) ∧ OwnF w.heap.size w' 4 f) ∧ New w w' := by
  have hmf : ∀ (fn : Fn) (first cap : Array Value) (w : World), (Instr.makeFunc fn first cap).run Tryz.prog w = .ok (.func fn first cap) w := fun _ _ _ _ => rfl
  go_enter Tryz.func46, Tryz.ntmps46
  go_wp2_with fail
  refine (constant_27 2 _).mono ?_
  rintro e w9 ⟨rfl, rfl⟩
  go_wp2_with fail
  go_returns
  have B := fun A => three_blocksF w A (.cells #[.string (nmF 4), .int .i64 (lsF 4), .int .i64 (msF 4), .int .i64 (lbF 4), .int .i64 (mbF 4), .int .i64 (kyF 4), (.func (Fn.func 82) #[] #[]), (.func (Fn.func 124) #[] #[.pointer (some ⟨(w.heap.size + 1 + 1), 0, none⟩)]), (.func (Fn.func 83) #[] #[]), (.func (Fn.func 86) #[] #[.pointer (some ⟨(w.heap.size + 1), 0, none⟩)])] 52 (0, 0)) (.cells #[.int .i64 2] 3)
  exact ⟨⟨⟨nmF 4, lsF 4, msF 4, lbF 4, mbF 4, kyF 4, (.func (Fn.func 82) #[] #[]), (.func (Fn.func 124) #[] #[.pointer (some ⟨(w.heap.size + 1 + 1), 0, none⟩)]), (.func (Fn.func 83) #[] #[]), (.func (Fn.func 86) #[] #[.pointer (some ⟨(w.heap.size + 1), 0, none⟩)])⟩, rfl, fun w2 h2 => IsFam.sum 4 (by omega) (w.heap.size + 1 + 1) (w.heap.size + 1) ((h2 _ (by omega) (lt_of_block (B _).2)).trans (B _).2) ((h2 _ (by omega) (lt_of_block (B _).1)).trans (B _).1)⟩, (((New.refl w).alloc _).alloc _).alloc _⟩
theorem of_tab5 (w : World) : Calls Tryz.prog 47 #[.string ⟨#[115, 105, 109, 112, 108, 101]⟩, .int .i64 128, .func (Fn.func 48) #[] #[], .func (Fn.func 49) #[] #[]] w fun e w' => (∃ f : Fm, e = .returned (.agg f.cells) ∧ OwnF w.heap.size w' 5 f) ∧ New w w' := by
  have hmf : ∀ (fn : Fn) (first cap : Array Value) (w : World), (Instr.makeFunc fn first cap).run Tryz.prog w = .ok (.func fn first cap) w := fun _ _ _ _ => rfl
  go_enter Tryz.func47, Tryz.ntmps47
  go_wp2_with fail
  refine (constant_27 3 _).mono ?_
  rintro e w9 ⟨rfl, rfl⟩
  go_wp2_with fail
  go_returns
  have B := fun C => four_blocksF w (.cells #[.func (Fn.func (evF 5)) #[] #[]] 101 (0, 0)) (.cells #[.func (Fn.func (shFm 5)) #[] #[]] 102 (0, 0)) C (.cells #[.int .i64 3] 3)
  exact ⟨⟨⟨nmF 5, lsF 5, msF 5, lbF 5, mbF 5, kyF 5, (.func (Fn.func 82) #[] #[]), (.func (Fn.func 124) #[] #[.pointer (some ⟨(w.heap.size + 1 + 1 + 1), 0, none⟩)]), (.func (Fn.func 88) #[] #[.pointer (some ⟨w.heap.size, 0, none⟩)]), (.func (Fn.func 89) #[] #[.pointer (some ⟨(w.heap.size + 1), 0, none⟩)])⟩, rfl, fun w2 h2 => IsFam.table 5 (by omega) (w.heap.size + 1 + 1 + 1) w.heap.size (w.heap.size + 1) ((h2 _ (by omega) (lt_of_block (B _).2.2.2)).trans (B _).2.2.2) ((h2 _ (by omega) (lt_of_block (B _).1)).trans (B _).1) ((h2 _ (by omega) (lt_of_block (B _).2.1)).trans (B _).2.1)⟩, ((((New.refl w).alloc _).alloc _).alloc _).alloc _⟩
theorem of_tab6 (w : World) : Calls Tryz.prog 47 #[.string ⟨#[116, 119, 105, 115, 116, 101, 100]⟩, .int .i64 240, .func (Fn.func 50) #[] #[], .func (Fn.func 51) #[] #[]] w fun e w' => (∃ f : Fm, e = .returned (.agg f.cells) ∧ OwnF w.heap.size w' 6 f) ∧ New w w' := by
  have hmf : ∀ (fn : Fn) (first cap : Array Value) (w : World), (Instr.makeFunc fn first cap).run Tryz.prog w = .ok (.func fn first cap) w := fun _ _ _ _ => rfl
  go_enter Tryz.func47, Tryz.ntmps47
  go_wp2_with fail
  refine (constant_27 3 _).mono ?_
  rintro e w9 ⟨rfl, rfl⟩
  go_wp2_with fail
  go_returns
  have B := fun C => four_blocksF w (.cells #[.func (Fn.func (evF 6)) #[] #[]] 101 (0, 0)) (.cells #[.func (Fn.func (shFm 6)) #[] #[]] 102 (0, 0)) C (.cells #[.int .i64 3] 3)
  exact ⟨⟨⟨nmF 6, lsF 6, msF 6, lbF 6, mbF 6, kyF 6, (.func (Fn.func 82) #[] #[]), (.func (Fn.func 124) #[] #[.pointer (some ⟨(w.heap.size + 1 + 1 + 1), 0, none⟩)]), (.func (Fn.func 88) #[] #[.pointer (some ⟨w.heap.size, 0, none⟩)]), (.func (Fn.func 89) #[] #[.pointer (some ⟨(w.heap.size + 1), 0, none⟩)])⟩, rfl, fun w2 h2 => IsFam.table 6 (by omega) (w.heap.size + 1 + 1 + 1) w.heap.size (w.heap.size + 1) ((h2 _ (by omega) (lt_of_block (B _).2.2.2)).trans (B _).2.2.2) ((h2 _ (by omega) (lt_of_block (B _).1)).trans (B _).1) ((h2 _ (by omega) (lt_of_block (B _).2.1)).trans (B _).2.1)⟩, ((((New.refl w).alloc _).alloc _).alloc _).alloc _⟩
theorem of_tab7 (w : World) : Calls Tryz.prog 47 #[.string ⟨#[109, 105, 120, 101, 100]⟩, .int .i64 320, .func (Fn.func 52) #[] #[], .func (Fn.func 53) #[] #[]] w fun e w' => (∃ f : Fm, e = .returned (.agg f.cells) ∧ OwnF w.heap.size w' 7 f) ∧ New w w' := by
  have hmf : ∀ (fn : Fn) (first cap : Array Value) (w : World), (Instr.makeFunc fn first cap).run Tryz.prog w = .ok (.func fn first cap) w := fun _ _ _ _ => rfl
  go_enter Tryz.func47, Tryz.ntmps47
  go_wp2_with fail
  refine (constant_27 3 _).mono ?_
  rintro e w9 ⟨rfl, rfl⟩
  go_wp2_with fail
  go_returns
  have B := fun C => four_blocksF w (.cells #[.func (Fn.func (evF 7)) #[] #[]] 101 (0, 0)) (.cells #[.func (Fn.func (shFm 7)) #[] #[]] 102 (0, 0)) C (.cells #[.int .i64 3] 3)
  exact ⟨⟨⟨nmF 7, lsF 7, msF 7, lbF 7, mbF 7, kyF 7, (.func (Fn.func 82) #[] #[]), (.func (Fn.func 124) #[] #[.pointer (some ⟨(w.heap.size + 1 + 1 + 1), 0, none⟩)]), (.func (Fn.func 88) #[] #[.pointer (some ⟨w.heap.size, 0, none⟩)]), (.func (Fn.func 89) #[] #[.pointer (some ⟨(w.heap.size + 1), 0, none⟩)])⟩, rfl, fun w2 h2 => IsFam.table 7 (by omega) (w.heap.size + 1 + 1 + 1) w.heap.size (w.heap.size + 1) ((h2 _ (by omega) (lt_of_block (B _).2.2.2)).trans (B _).2.2.2) ((h2 _ (by omega) (lt_of_block (B _).1)).trans (B _).1) ((h2 _ (by omega) (lt_of_block (B _).2.1)).trans (B _).2.1)⟩, ((((New.refl w).alloc _).alloc _).alloc _).alloc _⟩
end Go.Proofs.YtebcfbcfipmahaaGreat
end
section
/- Contracts of mers.P, Fold, Add, Sub, Mul and Is, and of the document's own P: for all numbers. -/
namespace Go.Bv
open Go Go.RowKit
set_option linter.unusedVariables false
/-- the prime of so many bits; 0: there is none -/
def pM (k : Int) : BitVec 64 := if k = 31 then 2147483647#64 else if k = 61 then 2305843009213693951#64 else 0#64
theorem pM31 : pM 31 = 2147483647#64 := by unfold pM; rw [if_pos rfl]
theorem pM61 : pM 61 = 2305843009213693951#64 := by unfold pM; rw [if_neg (by omega), if_pos rfl]
theorem pM_no {k : Int} (h1 : ¬ k = 31) (h2 : ¬ k = 61) : pM k = 0#64 := by unfold pM; rw [if_neg h1, if_neg h2]
/-- what holds at the head of a round of Fold -/
def FoldI (m p X : Nat) (j s y : Nat) : Prop := (s + y) % p = X % p ∧ s ≤ j * p ∧ y < 2 ^ (128 - j * m)
theorem fold_next {m p X j s y : Nat} (hm : 31 ≤ m ∧ m ≤ 61) (hp : p = 2 ^ m - 1) (h : FoldI m p X j s y) (hy : y ≠ 0) :
    FoldI m p X (j + 1) (s + y % 2 ^ m) (y / 2 ^ m) ∧ j + 1 ≤ 5 := by
  obtain ⟨h1, h2, h3⟩ := h
  have hpos := Nat.two_pow_pos m
  have hge : 2 ≤ 2 ^ m := by have := Nat.pow_le_pow_right (show 0 < 2 by omega) (show 1 ≤ m by omega); omega
  have hj : j * m < 128 := by
    rcases Nat.lt_or_ge (j * m) 128 with h | h
    · exact h
    · rw [show 128 - j * m = 0 by omega, Nat.pow_zero] at h3; omega
  have hj5 : j ≤ 4 := by
    rcases Nat.lt_or_ge j 5 with h | h
    · omega
    · have : 5 * 31 ≤ j * m := Nat.mul_le_mul h hm.1
      omega
  have he : y = 2 ^ m * (y / 2 ^ m) + y % 2 ^ m := (Nat.div_add_mod y (2 ^ m)).symm
  have hlt := Nat.mod_lt y hpos
  refine ⟨⟨?_, ?_, ?_⟩, by omega⟩
  · rw [← h1]
    have e : s + y = (s + y % 2 ^ m + y / 2 ^ m) + p * (y / 2 ^ m) := by
      conv => lhs; rw [he]
      have : 2 ^ m * (y / 2 ^ m) = p * (y / 2 ^ m) + y / 2 ^ m := by
        rw [show 2 ^ m = p + 1 by omega, Nat.add_mul, Nat.one_mul]
      omega
    rw [e, Nat.add_mul_mod_self_left]
  · rw [Nat.add_mul]; omega
  · have e : 128 - (j + 1) * m = 128 - j * m - m := by rw [Nat.add_mul]; omega
    rw [e]
    by_cases hb : m ≤ 128 - j * m
    · have e2 : 2 ^ (128 - j * m) = 2 ^ m * 2 ^ (128 - j * m - m) := by rw [← Nat.pow_add]; congr 1; omega
      rw [e2] at h3
      exact Nat.div_lt_of_lt_mul h3
    · have h4 : 2 ^ (128 - j * m) ≤ 2 ^ m := Nat.pow_le_pow_right (by omega) (by omega)
      rw [Nat.div_eq_of_lt (by omega)]; exact Nat.two_pow_pos _
theorem fold_sum {m p X j s : Nat} (hm : 31 ≤ m ∧ m ≤ 61) (hp : p = 2 ^ m - 1) (h : FoldI m p X j s 0) (hj : j ≤ 5) :
    (s % 2 ^ m + s / 2 ^ m) % p = X % p ∧ s % 2 ^ m + s / 2 ^ m ≤ p + 4 ∧ s ≤ 5 * p := by
  obtain ⟨h1, h2, _⟩ := h
  have hpos := Nat.two_pow_pos m
  have hlt := Nat.mod_lt s hpos
  have he : s = 2 ^ m * (s / 2 ^ m) + s % 2 ^ m := (Nat.div_add_mod s (2 ^ m)).symm
  have hs : s ≤ 5 * p := Nat.le_trans h2 (Nat.mul_le_mul_right p hj)
  refine ⟨?_, ?_, hs⟩
  · rw [← h1, Nat.add_zero]
    have e : s = (s % 2 ^ m + s / 2 ^ m) + p * (s / 2 ^ m) := by
      conv => lhs; rw [he]
      have : 2 ^ m * (s / 2 ^ m) = p * (s / 2 ^ m) + s / 2 ^ m := by
        rw [show 2 ^ m = p + 1 by omega, Nat.add_mul, Nat.one_mul]
      omega
    conv => rhs; rw [e]
    rw [Nat.add_mul_mod_self_left]
  · have hd : s / 2 ^ m < 5 := by
      apply Nat.div_lt_of_lt_mul
      omega
    omega
theorem and_p (s p : BitVec 64) (m : Nat) (hp : p.toNat = 2 ^ m - 1) : (s &&& p).toNat = s.toNat % 2 ^ m := by
  rw [BitVec.toNat_and, hp, Nat.and_two_pow_sub_one_eq_mod]
theorem lo_toNat (y : BitVec 128) : (lo128 y).toNat = y.toNat % 2 ^ 64 := by unfold lo128; rw [BitVec.toNat_setWidth]
theorem lo_and_p (y : BitVec 128) (p : BitVec 64) (m : Nat) (hm : m ≤ 61) (hp : p.toNat = 2 ^ m - 1) : (lo128 y &&& p).toNat = y.toNat % 2 ^ m := by
  rw [and_p _ _ m hp, lo_toNat]
  exact Nat.mod_mod_of_dvd _ (Nat.pow_dvd_pow 2 (by omega))
end Go.Bv
namespace Go.Proofs.YtebcfbcfipmahaaGreat
open Go.RowKit Go.Bv
set_option linter.unusedVariables false
theorem mp_any (k : Int) (w : World) : Calls Tryz.prog 149 #[.int .i64 k] w fun e w' => e = .returned (.int .u64 (W64 (pM k))) ∧ w' = w := by
  by_cases h1 : k = 31
  · subst h1
    rw [pM31]
    go_enter Tryz.func149, Tryz.ntmps149
    go_wp2
    go_ret
    exact ⟨ret64 (by decide +kernel), rfl⟩
  · by_cases h2 : k = 61
    · subst h2
      rw [pM61]
      go_enter Tryz.func149, Tryz.ntmps149
      go_wp2
      go_ret
      exact ⟨ret64 (by decide +kernel), rfl⟩
    · have hb1 : (k != 31) = true := by rw [bne_iff_ne]; exact h1
      have hb2 : (k != 61) = true := by rw [bne_iff_ne]; exact h2
      rw [pM_no h1 h2, lo_zero]
      go_enter Tryz.func149, Tryz.ntmps149
      go_wp2
      go_ret
      exact ⟨rfl, rfl⟩
set_option maxHeartbeats 1000000 in
theorem fold_k (X : BitVec 128) (m : Nat) (hm : 31 ≤ m ∧ m ≤ 61) (p : BitVec 64) (hp : p.toNat = 2 ^ m - 1)
    (CP : Hid (∀ w, Calls Tryz.prog 149 #[.int .i64 m] w fun e w' => e = .returned (.int .u64 (W64 p)) ∧ w' = w)) (w : World) :
    Calls Tryz.prog 143 #[.int .i64 m, .agg #[.int .u64 (W64 (hi128 X)), .int .u64 (W64 (lo128 X))]] w fun e w' => e = .returned (.int .u64 (W64 (md X.toNat p))) ∧ New w w' := by
  have hpow := Nat.pow_le_pow_right (show 0 < 2 by omega) hm.1
  have hpow2 := Nat.pow_le_pow_right (show 0 < 2 by omega) hm.2
  have hpz : (p == 0#64) = false := by rw [beq_eq_false_iff_ne]; intro h; subst h; rw [show (0#64).toNat = 0 from rfl] at hp; omega
  have hpn : ¬ p = 0#64 := by rw [beq_eq_false_iff_ne] at hpz; exact hpz
  have HPN := Lib.hid hpn
  have HP := Lib.hid hp
  have HM := Lib.hid hm
  have HPOW := Lib.hid hpow
  have HPOW2 := Lib.hid hpow2
  have hm0 : 0 ≤ (m : Int) := by omega
  have HIN : Hid (FoldI m p.toNat X.toNat 0 (0#64).toNat X.toNat) := Lib.hid ⟨by simp, by simp, by rw [Nat.zero_mul]; exact X.isLt⟩
  have h1 := heap_alloc_new w (.cells #[.int .u64 (W64 (hi128 X)), .int .u64 (W64 (lo128 X))] 63)
  have h2 := (New.refl w).alloc (.cells #[.int .u64 (W64 (hi128 X)), .int .u64 (W64 (lo128 X))] 63)
  have H1 := Lib.hid h1
  have H2 := Lib.hid h2
  clear hpow hpow2 hp hm hpn h1 h2
  go_enter Tryz.func143, Tryz.ntmps143
  go_wp2_with fail
  refine (CP.out _).mono ?_
  rintro e w1 ⟨rfl, rfl⟩
  go_wp2_with fail
  generalize w.alloc (.cells #[.int .u64 (W64 (hi128 X)), .int .u64 (W64 (lo128 X))] 63) = w0 at *
  go_loopw [6] (fun S wr => ∃ (j : Nat) (s : BitVec 64) (y : BitVec 128), S = .int .u64 (W64 s) ∧ j ≤ 5 ∧ B2 wr w.heap.size 63 y ∧ New w wr ∧ Hid (FoldI m p.toNat X.toNat j s.toNat y.toNat)) (fun _ wr => num2 wr w.heap.size)
  case atStart => exact ⟨0, 0#64, X, by rw [lo_zero], by omega, H1.out, H2.out, HIN⟩
  case round =>
    clear H1 H2 HIN
    obtain ⟨j, s, y, rfl, hj, hb, hnew, hinv⟩ := hrel
    have HB := Lib.hid hb
    have HN := Lib.hid hnew
    have n0 := hb.c0
    have n1 := hb.c1
    have nf := hb.free
    have hnum := hb.num
    have heq := fun w => equ_x w y 0#128
    rw [show W64 (hi128 0#128) = 0 from by unfold W64; decide +kernel, show W64 (lo128 0#128) = 0 from by unfold W64; decide +kernel] at heq
    clear hb hnew
    by_cases h0 : y = 0#128
    · subst h0
      rw [BEq.rfl] at heq
      obtain ⟨hf1, hf2, hf3⟩ := fold_sum HM.out HP.out hinv.out hj
      have hP := HP.out
      have hP1 := HPOW.out
      have hP2 := HPOW2.out
      obtain ⟨s2, hs2⟩ : ∃ z, (s &&& p) + s >>> m = z := ⟨_, rfl⟩
      have hn2 : s2.toNat = s.toNat % 2 ^ m + s.toNat / 2 ^ m := by
        rw [← hs2, BitVec.toNat_add, and_p _ _ m hP, BitVec.toNat_ushiftRight, Nat.shiftRight_eq_div_pow]
        exact Nat.mod_eq_of_lt (by omega)
      rw [← hn2] at hf1 hf2
      by_cases hc : decide (W64 p ≤ W64 s2) = true
      · have hle : p.toNat ≤ s2.toNat := by have := of_decide_eq_true hc; unfold W64 at this; omega
        have hr : s2 - p = md X.toNat p := md_eq HPN.out (by
          rw [sub_nat hle, ← hf1, Nat.mod_eq_sub_mod hle, Nat.mod_eq_of_lt (by omega)])
        have HR := Lib.hid hr
        clear hf1 hf2 hf3 hP hP1 hP2 hn2 hle hr
        go_wp2
        go_ret
        exact ⟨ret64 HR.out, HN.out⟩
      · have hc := Bool.not_eq_true _ ▸ hc
        have hle : s2.toNat < p.toNat := by have := of_decide_eq_false hc; unfold W64 at this; omega
        have hr : s2 = md X.toNat p := md_eq HPN.out (by rw [← hf1, Nat.mod_eq_of_lt hle])
        have HR := Lib.hid hr
        clear hf1 hf2 hf3 hP hP1 hP2 hn2 hle hr
        go_wp2
        go_ret
        exact ⟨ret64 HR.out, HN.out⟩
    · have h0b : (y == 0#128) = false := beq_false_of_ne h0
      rw [h0b] at heq
      obtain ⟨hx1, hx2⟩ := fold_next HM.out HP.out hinv.out (fun h => h0 (BitVec.eq_of_toNat_eq h))
      have hsum : (s + (lo128 y &&& p)).toNat = s.toNat + y.toNat % 2 ^ m := by
        rw [BitVec.toNat_add, lo_and_p y p m HM.out.2 HP.out]
        apply Nat.mod_eq_of_lt
        have hP := HP.out
        have hP2 := HPOW2.out
        have := hx1.2.1
        have : (j + 1) * p.toNat ≤ 5 * p.toNat := Nat.mul_le_mul_right _ hx2
        omega
      have HX : Hid (FoldI m p.toNat X.toNat (j + 1) (s + (lo128 y &&& p)).toNat (y >>> m).toNat) := Lib.hid (by
        rw [hsum, BitVec.toNat_ushiftRight, Nat.shiftRight_eq_div_pow]; exact hx1)
      have HL : Hid ((y >>> m).toNat < y.toNat) := Lib.hid (by
        rw [BitVec.toNat_ushiftRight, Nat.shiftRight_eq_div_pow]
        have h1 : y.toNat ≠ 0 := fun h => h0 (BitVec.eq_of_toNat_eq (by rw [h]; rfl))
        have : 2 ≤ 2 ^ m := by have := HPOW.out; omega
        exact Nat.div_lt_self (by omega) (by omega))
      have HJ := Lib.hid hx2
      have HSH := Lib.hid (fun w => wshr_x y m (by have := HM.out; omega) m rfl w)
      have HNUM := Lib.hid hnum
      clear h0 h0b hx1 hx2 hsum hinv hnum
      go_wp2_with fail
      refine (HSH.out _).mono ?_
      rintro e w3 ⟨rfl, hn3⟩
      have hb3 := HB.out.stay hn3
      have n0 := hb3.c0
      have n1 := hb3.c1
      have nf := hb3.free
      have HB3 := Lib.hid hb3
      have HN3 := Lib.hid (HN.out.trans hn3)
      clear hb3 hn3
      go_wp2
      refine ⟨⟨j + 1, _, _, rfl, HJ.out, B2.put _ HB3.out, put2_new _ HN3.out (Nat.le_refl _), HX⟩, ?_⟩
      rw [(B2.put (y >>> m) HB3.out).num, HNUM.out]
      exact HL.out
theorem pM_cases (k : Int) : (∃ m : Nat, k = m ∧ (31 ≤ m ∧ m ≤ 61) ∧ (pM k).toNat = 2 ^ m - 1) ∨ (¬ k = 31 ∧ ¬ k = 61 ∧ pM k = 0#64) := by
  by_cases h1 : k = 31
  · subst h1; exact Or.inl ⟨31, rfl, by omega, by rw [pM31]; decide +kernel⟩
  · by_cases h2 : k = 61
    · subst h2; exact Or.inl ⟨61, rfl, by omega, by rw [pM61]; decide +kernel⟩
    · exact Or.inr ⟨h1, h2, pM_no h1 h2⟩
set_option maxHeartbeats 1000000 in
theorem fold_any (X : BitVec 128) (k : Int) (w : World) :
    Calls Tryz.prog 143 #[.int .i64 k, .agg #[.int .u64 (W64 (hi128 X)), .int .u64 (W64 (lo128 X))]] w fun e w' => e = .returned (.int .u64 (W64 (md X.toNat (pM k)))) ∧ New w w' := by
  rcases pM_cases k with ⟨m, rfl, hm, hp⟩ | ⟨h1, h2, h3⟩
  · exact fold_k X m hm (pM m) hp (Lib.hid fun w => mp_any m w) w
  · have HP : Hid (∀ w, Calls Tryz.prog 149 #[.int .i64 k] w fun e w' => e = .returned (.int .u64 0) ∧ w' = w) := Lib.hid fun w => by
      have h := mp_any k w
      rw [h3, lo_zero] at h
      exact h
    rw [h3, md_zero, lo_zero]
    clear h1 h2 h3
    go_enter Tryz.func143, Tryz.ntmps143
    go_wp2_with fail
    refine (HP.out _).mono ?_
    rintro e w1 ⟨rfl, rfl⟩
    go_wp2
    go_ret
    exact ⟨rfl, (New.refl _).alloc _⟩
theorem fold_N (N : Nat) (hN : N < 2 ^ 128) (k : Int) (w : World) :
    Calls Tryz.prog 143 #[.int .i64 k, .agg #[.int .u64 (W64 (hiN N)), .int .u64 (W64 (loN N))]] w fun e w' => e = .returned (.int .u64 (W64 (md N (pM k)))) ∧ New w w' := by
  have h := fold_any (BitVec.ofNat 128 N) k w
  rw [hi_ofNat, lo_ofNat, BitVec.toNat_ofNat, Nat.mod_eq_of_lt hN] at h
  exact h
theorem fold_lo (a : BitVec 64) (k : Int) (w : World) :
    Calls Tryz.prog 143 #[.int .i64 k, .agg #[.int .u64 0, .int .u64 (W64 a)]] w fun e w' => e = .returned (.int .u64 (W64 (md a.toNat (pM k)))) ∧ New w w' := by
  have ha := a.isLt
  have h := fold_N a.toNat (by omega) k w
  rw [show hiN a.toNat = 0#64 from by unfold hiN; rw [Nat.div_eq_of_lt (by omega)], lo_zero, show loN a.toNat = a from by unfold loN; rw [ofNat_self]] at h
  exact h
set_option maxHeartbeats 1000000 in
theorem meradd_any (k : Int) (a b : BitVec 64) (w : World) :
    Calls Tryz.prog 115 #[.int .i64 k, .int .u64 (W64 a), .int .u64 (W64 b)] w fun e w' => e = .returned (.int .u64 (W64 (md (a.toNat + b.toNat) (pM k)))) ∧ New w w' := by
  have ha := a.isLt
  have hb := b.isLt
  have HF := Lib.hid (fun w => fold_N (a.toNat + b.toNat) (by omega) k w)
  have HA := Lib.hid (fun w => wadd_lo a b w)
  clear ha hb
  generalize hiN (a.toNat + b.toNat) = s1 at *
  generalize loN (a.toNat + b.toNat) = s0 at *
  generalize md (a.toNat + b.toNat) (pM k) = r at *
  go_enter Tryz.func115, Tryz.ntmps115
  go_wp2_with fail
  refine (HA.out _).mono ?_
  rintro e w1 ⟨o, rfl, hn1⟩
  go_wp2_with fail
  refine (HF.out _).mono ?_
  rintro e w2 ⟨rfl, hn2⟩
  go_wp2
  go_ret
  exact ⟨rfl, (hn1.alloc _).trans hn2⟩
set_option maxHeartbeats 1000000 in
theorem mermul_any (k : Int) (a b : BitVec 64) (w : World) :
    Calls Tryz.prog 116 #[.int .i64 k, .int .u64 (W64 a), .int .u64 (W64 b)] w fun e w' => e = .returned (.int .u64 (W64 (md (a.toNat * b.toNat) (pM k)))) ∧ New w w' := by
  have HF := Lib.hid (fun w => fold_N (a.toNat * b.toNat) (by have := mul_lt a b; omega) k w)
  have HA := Lib.hid (fun w => wmul_any a b w)
  generalize hiN (a.toNat * b.toNat) = s1 at *
  generalize loN (a.toNat * b.toNat) = s0 at *
  generalize md (a.toNat * b.toNat) (pM k) = r at *
  go_enter Tryz.func116, Tryz.ntmps116
  go_wp2_with fail
  refine (HA.out _).mono ?_
  rintro e w1 ⟨rfl, hn1⟩
  go_wp2_with fail
  refine (HF.out _).mono ?_
  rintro e w2 ⟨rfl, hn2⟩
  go_wp2
  go_ret
  exact ⟨rfl, hn1.trans hn2⟩
set_option maxHeartbeats 1000000 in
theorem mersub_any (k : Int) (a b : BitVec 64) (w : World) :
    Calls Tryz.prog 121 #[.int .i64 k, .int .u64 (W64 a), .int .u64 (W64 b)] w fun e w' => e = .returned (.int .u64 (W64 (md (a.toNat + (pM k - md b.toNat (pM k)).toNat) (pM k)))) ∧ New w w' := by
  have HF := Lib.hid (fun w => fold_lo b k w)
  have HA := Lib.hid (fun w => meradd_any k a (pM k - md b.toNat (pM k)) w)
  have HP := Lib.hid (fun w => mp_any k w)
  generalize md (a.toNat + (pM k - md b.toNat (pM k)).toNat) (pM k) = r at *
  generalize md b.toNat (pM k) = f at *
  generalize pM k = p at *
  go_enter Tryz.func121, Tryz.ntmps121
  go_wp2_with fail
  refine (HP.out _).mono ?_
  rintro e w1 ⟨rfl, rfl⟩
  go_wp2_with fail
  refine (HF.out _).mono ?_
  rintro e w2 ⟨rfl, hn2⟩
  go_wp2_with fail
  refine (HA.out _).mono ?_
  rintro e w3 ⟨rfl, hn3⟩
  go_wp2
  go_ret
  exact ⟨rfl, hn2.trans hn3⟩
end Go.Proofs.YtebcfbcfipmahaaGreat
end
