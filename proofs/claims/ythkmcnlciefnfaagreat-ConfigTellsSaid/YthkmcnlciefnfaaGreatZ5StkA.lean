import Derived.Test.YthkmcnlciefnfaaGreatProg
import Derived.Test.YthkmcnlciefnfaaGreatZ5Frame
import Derived.Handy
import Derived.Deep.DeepCutAuto
import Derived.Laws.EntriesVeiled
import Derived.BigRegion
import Derived.Test.YthkmcnlciefnfaaGreatZ5GroG
/- Layer 35: what the hashes of the kinds are. -/
namespace Go.Proofs.YthkmcnlciefnfaaGreat
open Go.RowKit Go.Bv
set_option linter.unusedVariables false
set_option maxRecDepth 100000
/-- a kind's parts -/
structure Kd where
  nm : ByteArray
  sz : Int
  bl : Int
  hi : Int
  lo : Int
  on : Value
  nw : Value
abbrev Kd.cells (f : Kd) : Array Value := #[.string f.nm, .int .i64 f.sz, .int .i64 f.bl, .int .u64 f.hi, .int .u64 f.lo, f.on, f.nw]
abbrev kzc : Array Value := #[.string ⟨#[]⟩, .int .i64 0, .int .i64 0, .int .u64 0, .int .u64 0, .nilFunc, .nilFunc]
def nmS (k : Int) : ByteArray := if k = 1 then ⟨#[109, 117, 114, 109, 117, 114, 51, 50]⟩ else if k = 2 then ⟨#[109, 117, 114, 109, 117, 114, 56, 54]⟩ else if k = 3 then ⟨#[109, 117, 114, 109, 117, 114, 54, 52]⟩ else if k = 4 then ⟨#[120, 120, 51, 50]⟩ else if k = 5 then ⟨#[120, 120, 54, 52]⟩ else if k = 6 then ⟨#[115, 105, 112, 50, 52]⟩ else if k = 7 then ⟨#[115, 105, 112, 49, 51]⟩ else if k = 8 then ⟨#[115, 105, 112, 49, 50, 56]⟩ else ⟨#[]⟩
def szS (k : Int) : Int := if k = 1 then 4 else if k = 2 then 16 else if k = 3 then 16 else if k = 4 then 4 else if k = 5 then 8 else if k = 6 then 8 else if k = 7 then 8 else if k = 8 then 16 else 0
def blS (k : Int) : Int := if k = 1 then 4 else if k = 2 then 16 else if k = 3 then 16 else if k = 4 then 16 else if k = 5 then 32 else if k = 6 then 8 else if k = 7 then 8 else if k = 8 then 8 else 0
def hiS (k : Int) : Int := if k = 1 then 0 else if k = 2 then 0 else if k = 3 then 0 else if k = 4 then 0 else if k = 5 then 0 else if k = 6 then 18446744073709551615 else if k = 7 then 18446744073709551615 else if k = 8 then 18446744073709551615 else 0
def loS (k : Int) : Int := if k = 1 then 4294967295 else if k = 2 then 4294967295 else if k = 3 then 4294967295 else if k = 4 then 4294967295 else if k = 5 then 18446744073709551615 else if k = 6 then 18446744073709551615 else if k = 7 then 18446744073709551615 else if k = 8 then 18446744073709551615 else 0
def onS (k : Int) : Nat := if k = 1 then 157 else if k = 2 then 163 else if k = 3 then 169 else if k = 4 then 174 else 180
def mkS (k : Int) : Nat := if k = 1 then 160 else if k = 2 then 166 else if k = 3 then 171 else if k = 4 then 176 else 183
inductive IsKd (w : World) : Int → Kd → Prop
  | plain (k : Int) (hk : k = 1 ∨ k = 2 ∨ k = 3 ∨ k = 4 ∨ k = 5) : IsKd w k ⟨nmS k, szS k, blS k, hiS k, loS k, (.func (Fn.func (onS k)) #[] #[]), (.func (Fn.func (mkS k)) #[] #[])⟩
  | sip (k : Int) (hk : k = 6 ∨ k = 7 ∨ k = 8) (b c : Nat) (hb : w.heap[b]? = some (.cells #[.int .i64 k] 3 (0, 0))) (hc : w.heap[c]? = some (.cells #[.int .i64 (szS k)] 3 (0, 0))) : IsKd w k ⟨nmS k, szS k, blS k, hiS k, loS k, (.func (Fn.func 187) #[] #[.pointer (some ⟨b, 0, none⟩), .pointer (some ⟨c, 0, none⟩)]), (.func (Fn.func 189) #[] #[.pointer (some ⟨b, 0, none⟩), .pointer (some ⟨c, 0, none⟩)])⟩
theorem IsKd.stay {w w' : World} {k : Int} {f : Kd} (h : IsKd w k f) (hn : New w w') : IsKd w' k f := by
  cases h with
  | plain hk => exact .plain k hk
  | sip hk b c hb hc => exact .sip k hk b c ((hn.block _ (lt_of_block hb)).trans hb) ((hn.block _ (lt_of_block hc)).trans hc)
/-- .. and what it holds lies in blocks from n on, that a write elsewhere does not touch -/
def OwnK (n : Nat) (w : World) (k : Int) (f : Kd) : Prop := ∀ w2 : World, (∀ j, n ≤ j → j < w.heap.size → w2.heap[j]? = w.heap[j]?) → IsKd w2 k f
theorem OwnK.now {n : Nat} {w : World} {k : Int} {g : Kd} (h : OwnK n w k g) : IsKd w k g := h w fun _ _ _ => rfl
theorem OwnK.le {n m : Nat} {w : World} {k : Int} {g : Kd} (h : OwnK n w k g) (hm : m ≤ n) : OwnK m w k g := fun w2 h2 => h w2 fun j hj hl => h2 j (Nat.le_trans hm hj) hl
theorem OwnK.kept {n : Nat} {w w' : World} {k : Int} {g : Kd} (h : OwnK n w k g) (hs : w.heap.size ≤ w'.heap.size) (hb : ∀ j, n ≤ j → j < w.heap.size → w'.heap[j]? = w.heap[j]?) : OwnK n w' k g :=
  fun w2 h2 => h w2 fun j hj hl => (h2 j hj (Nat.lt_of_lt_of_le hl hs)).trans (hb j hj hl)
theorem OwnK.stay {n : Nat} {w w' : World} {k : Int} {g : Kd} (h : OwnK n w k g) (hn : New w w') : OwnK n w' k g := h.kept hn.size fun j _ hl => hn.block j hl
theorem IsKd.has {w : World} {k : Int} {f : Kd} (h : IsKd w k f) : f.nm = nmS k ∧ f.sz = szS k ∧ f.bl = blS k ∧ f.hi = hiS k ∧ f.lo = loS k ∧ 1 ≤ k ∧ k ≤ 8 := by
  cases h with
  | plain hk => exact ⟨rfl, rfl, rfl, rfl, rfl, by omega, by omega⟩
  | sip hk b c hb hc => exact ⟨rfl, rfl, rfl, rfl, rfl, by omega, by omega⟩
theorem IsKd.form {w : World} {k : Int} {f : Kd} (h : IsKd w k f) : ∃ a p b q, f.on = .func (Fn.func a) #[] p ∧ f.nw = .func (Fn.func b) #[] q := by
  cases h <;> exact ⟨_, _, _, _, rfl, rfl⟩
theorem seed32_35 (w : World) : Calls Tryz.prog 156 #[] w fun e w' => e = .returned (.agg #[.int .u64 0, .int .u64 4294967295]) ∧ New w w' := by
  go_enter Tryz.func156, Tryz.ntmps156
  go_wp2
  go_returns
  exact ⟨rfl, by first | exact (New.refl w).alloc _ | exact New.refl w⟩
theorem seed64_35 (w : World) : Calls Tryz.prog 179 #[] w fun e w' => e = .returned (.agg #[.int .u64 0, .int .u64 18446744073709551615]) ∧ New w w' := by
  go_enter Tryz.func179, Tryz.ntmps179
  go_wp2
  go_returns
  exact ⟨rfl, by first | exact (New.refl w).alloc _ | exact New.refl w⟩
theorem seed128_35 (w : World) : Calls Tryz.prog 186 #[] w fun e w' => e = .returned (.agg #[.int .u64 18446744073709551615, .int .u64 18446744073709551615]) ∧ New w w' := by
  go_enter Tryz.func186, Tryz.ntmps186
  go_wp2
  go_returns
  exact ⟨rfl, by first | exact (New.refl w).alloc _ | exact New.refl w⟩
abbrev put7 (w : World) (q : Nat) (v0 v1 v2 v3 v4 v5 v6 : Value) : World := (((((((w.setCell ⟨q, 0, none⟩ v0).setCell ⟨q, 1, none⟩ v1).setCell ⟨q, 2, none⟩ v2).setCell ⟨q, 3, none⟩ v3).setCell ⟨q, 4, none⟩ v4).setCell ⟨q, 5, none⟩ v5).setCell ⟨q, 6, none⟩ v6)
theorem put7_facts {w : World} {q : Nat} {u0 u1 u2 u3 u4 u5 u6 : Value} {T : TypeId} (v0 v1 v2 v3 v4 v5 v6 : Value) (h : w.heap[q]? = some (.cells #[u0, u1, u2, u3, u4, u5, u6] T (0, 0))) :
    (put7 w q v0 v1 v2 v3 v4 v5 v6).heap[q]? = some (.cells #[v0, v1, v2, v3, v4, v5, v6] T (0, 0)) ∧ (∀ j, j ≠ q → (put7 w q v0 v1 v2 v3 v4 v5 v6).heap[j]? = w.heap[j]?) ∧ (∀ W : World, New W w → W.heap.size ≤ q → New W (put7 w q v0 v1 v2 v3 v4 v5 v6)) ∧ (put7 w q v0 v1 v2 v3 v4 v5 v6).heap.size = w.heap.size := by
  refine ⟨?_, fun j hj => ?_, fun W hn hq => ?_, ?_⟩
  · have h0 : (w.setCell ⟨q, 0, none⟩ v0).heap[q]? = some (.cells #[v0, u1, u2, u3, u4, u5, u6] T (0, 0)) := heap_setCell_same _ q 0 _ _ v0 h
    have h1 : ((w.setCell ⟨q, 0, none⟩ v0).setCell ⟨q, 1, none⟩ v1).heap[q]? = some (.cells #[v0, v1, u2, u3, u4, u5, u6] T (0, 0)) := heap_setCell_same _ q 1 _ _ v1 h0
    have h2 : (((w.setCell ⟨q, 0, none⟩ v0).setCell ⟨q, 1, none⟩ v1).setCell ⟨q, 2, none⟩ v2).heap[q]? = some (.cells #[v0, v1, v2, u3, u4, u5, u6] T (0, 0)) := heap_setCell_same _ q 2 _ _ v2 h1
    have h3 : ((((w.setCell ⟨q, 0, none⟩ v0).setCell ⟨q, 1, none⟩ v1).setCell ⟨q, 2, none⟩ v2).setCell ⟨q, 3, none⟩ v3).heap[q]? = some (.cells #[v0, v1, v2, v3, u4, u5, u6] T (0, 0)) := heap_setCell_same _ q 3 _ _ v3 h2
    have h4 : (((((w.setCell ⟨q, 0, none⟩ v0).setCell ⟨q, 1, none⟩ v1).setCell ⟨q, 2, none⟩ v2).setCell ⟨q, 3, none⟩ v3).setCell ⟨q, 4, none⟩ v4).heap[q]? = some (.cells #[v0, v1, v2, v3, v4, u5, u6] T (0, 0)) := heap_setCell_same _ q 4 _ _ v4 h3
    have h5 : ((((((w.setCell ⟨q, 0, none⟩ v0).setCell ⟨q, 1, none⟩ v1).setCell ⟨q, 2, none⟩ v2).setCell ⟨q, 3, none⟩ v3).setCell ⟨q, 4, none⟩ v4).setCell ⟨q, 5, none⟩ v5).heap[q]? = some (.cells #[v0, v1, v2, v3, v4, v5, u6] T (0, 0)) := heap_setCell_same _ q 5 _ _ v5 h4
    have h6 : (((((((w.setCell ⟨q, 0, none⟩ v0).setCell ⟨q, 1, none⟩ v1).setCell ⟨q, 2, none⟩ v2).setCell ⟨q, 3, none⟩ v3).setCell ⟨q, 4, none⟩ v4).setCell ⟨q, 5, none⟩ v5).setCell ⟨q, 6, none⟩ v6).heap[q]? = some (.cells #[v0, v1, v2, v3, v4, v5, v6] T (0, 0)) := heap_setCell_same _ q 6 _ _ v6 h5
    exact h6
  · rw [heap_setCell_other _ _ _ _ hj, heap_setCell_other _ _ _ _ hj, heap_setCell_other _ _ _ _ hj, heap_setCell_other _ _ _ _ hj, heap_setCell_other _ _ _ _ hj, heap_setCell_other _ _ _ _ hj, heap_setCell_other _ _ _ _ hj]
  · exact (((((((hn.setCell (by exact hq) _).setCell (by exact hq) _).setCell (by exact hq) _).setCell (by exact hq) _).setCell (by exact hq) _).setCell (by exact hq) _).setCell (by exact hq) _)
  · simp
theorem of_s1 (w : World) : Calls Tryz.prog 117 #[] w fun e w' => (∃ f : Kd, e = .returned (.agg f.cells) ∧ OwnK w.heap.size w' 1 f) ∧ New w w' := by
  go_enter Tryz.func117, Tryz.ntmps117
  go_wp2_with fail
  refine (seed32_35 _).mono ?_
  rintro e w9 ⟨rfl, hn⟩
  have HN := Lib.hid hn
  clear hn
  have hb := (HN.out.block _ (lt_of_block (heap_alloc_new w _))).trans (heap_alloc_new w _)
  have k0 := cell_of_row _ _ 0 _ _ _ hb
  have k1 := cell_of_row _ _ 1 _ _ _ hb
  have k2 := cell_of_row _ _ 2 _ _ _ hb
  have k3 := cell_of_row _ _ 3 _ _ _ hb
  have k4 := cell_of_row _ _ 4 _ _ _ hb
  have k5 := cell_of_row _ _ 5 _ _ _ hb
  have k6 := cell_of_row _ _ 6 _ _ _ hb
  have kf := fun i => frozen_of_row _ _ i _ _ hb
  have hp := put7_facts (.string (nmS 1)) (.int .i64 (szS 1)) (.int .i64 (blS 1)) (.int .u64 (hiS 1)) (.int .u64 (loS 1)) (.func (Fn.func (onS 1)) #[] #[]) (.func (Fn.func (mkS 1)) #[] #[]) hb
  go_wp2_with fail
  refine bodyPost_ret (by simp [results, Tryz.results117, go_sem, k0, k1, k2, k3, k4, k5, k6]; try rfl) rfl ?_
  exact ⟨⟨⟨nmS 1, szS 1, blS 1, hiS 1, loS 1, (.func (Fn.func (onS 1)) #[] #[]), (.func (Fn.func (mkS 1)) #[] #[])⟩, rfl, fun _ _ => IsKd.plain 1 (by omega)⟩, hp.2.2.1 _ (((New.refl w).alloc _).trans HN.out) (Nat.le_refl _)⟩
theorem of_s2 (w : World) : Calls Tryz.prog 118 #[] w fun e w' => (∃ f : Kd, e = .returned (.agg f.cells) ∧ OwnK w.heap.size w' 2 f) ∧ New w w' := by
  go_enter Tryz.func118, Tryz.ntmps118
  go_wp2_with fail
  refine (seed32_35 _).mono ?_
  rintro e w9 ⟨rfl, hn⟩
  have HN := Lib.hid hn
  clear hn
  have hb := (HN.out.block _ (lt_of_block (heap_alloc_new w _))).trans (heap_alloc_new w _)
  have k0 := cell_of_row _ _ 0 _ _ _ hb
  have k1 := cell_of_row _ _ 1 _ _ _ hb
  have k2 := cell_of_row _ _ 2 _ _ _ hb
  have k3 := cell_of_row _ _ 3 _ _ _ hb
  have k4 := cell_of_row _ _ 4 _ _ _ hb
  have k5 := cell_of_row _ _ 5 _ _ _ hb
  have k6 := cell_of_row _ _ 6 _ _ _ hb
  have kf := fun i => frozen_of_row _ _ i _ _ hb
  have hp := put7_facts (.string (nmS 2)) (.int .i64 (szS 2)) (.int .i64 (blS 2)) (.int .u64 (hiS 2)) (.int .u64 (loS 2)) (.func (Fn.func (onS 2)) #[] #[]) (.func (Fn.func (mkS 2)) #[] #[]) hb
  go_wp2_with fail
  refine bodyPost_ret (by simp [results, Tryz.results118, go_sem, k0, k1, k2, k3, k4, k5, k6]; try rfl) rfl ?_
  exact ⟨⟨⟨nmS 2, szS 2, blS 2, hiS 2, loS 2, (.func (Fn.func (onS 2)) #[] #[]), (.func (Fn.func (mkS 2)) #[] #[])⟩, rfl, fun _ _ => IsKd.plain 2 (by omega)⟩, hp.2.2.1 _ (((New.refl w).alloc _).trans HN.out) (Nat.le_refl _)⟩
theorem of_s3 (w : World) : Calls Tryz.prog 119 #[] w fun e w' => (∃ f : Kd, e = .returned (.agg f.cells) ∧ OwnK w.heap.size w' 3 f) ∧ New w w' := by
  go_enter Tryz.func119, Tryz.ntmps119
  go_wp2_with fail
  refine (seed32_35 _).mono ?_
  rintro e w9 ⟨rfl, hn⟩
  have HN := Lib.hid hn
  clear hn
  have hb := (HN.out.block _ (lt_of_block (heap_alloc_new w _))).trans (heap_alloc_new w _)
  have k0 := cell_of_row _ _ 0 _ _ _ hb
  have k1 := cell_of_row _ _ 1 _ _ _ hb
  have k2 := cell_of_row _ _ 2 _ _ _ hb
  have k3 := cell_of_row _ _ 3 _ _ _ hb
  have k4 := cell_of_row _ _ 4 _ _ _ hb
  have k5 := cell_of_row _ _ 5 _ _ _ hb
  have k6 := cell_of_row _ _ 6 _ _ _ hb
  have kf := fun i => frozen_of_row _ _ i _ _ hb
  have hp := put7_facts (.string (nmS 3)) (.int .i64 (szS 3)) (.int .i64 (blS 3)) (.int .u64 (hiS 3)) (.int .u64 (loS 3)) (.func (Fn.func (onS 3)) #[] #[]) (.func (Fn.func (mkS 3)) #[] #[]) hb
  go_wp2_with fail
  refine bodyPost_ret (by simp [results, Tryz.results119, go_sem, k0, k1, k2, k3, k4, k5, k6]; try rfl) rfl ?_
  exact ⟨⟨⟨nmS 3, szS 3, blS 3, hiS 3, loS 3, (.func (Fn.func (onS 3)) #[] #[]), (.func (Fn.func (mkS 3)) #[] #[])⟩, rfl, fun _ _ => IsKd.plain 3 (by omega)⟩, hp.2.2.1 _ (((New.refl w).alloc _).trans HN.out) (Nat.le_refl _)⟩
theorem of_s4 (w : World) : Calls Tryz.prog 120 #[] w fun e w' => (∃ f : Kd, e = .returned (.agg f.cells) ∧ OwnK w.heap.size w' 4 f) ∧ New w w' := by
  go_enter Tryz.func120, Tryz.ntmps120
  go_wp2_with fail
  refine (seed32_35 _).mono ?_
  rintro e w9 ⟨rfl, hn⟩
  have HN := Lib.hid hn
  clear hn
  have hb := (HN.out.block _ (lt_of_block (heap_alloc_new w _))).trans (heap_alloc_new w _)
  have k0 := cell_of_row _ _ 0 _ _ _ hb
  have k1 := cell_of_row _ _ 1 _ _ _ hb
  have k2 := cell_of_row _ _ 2 _ _ _ hb
  have k3 := cell_of_row _ _ 3 _ _ _ hb
  have k4 := cell_of_row _ _ 4 _ _ _ hb
  have k5 := cell_of_row _ _ 5 _ _ _ hb
  have k6 := cell_of_row _ _ 6 _ _ _ hb
  have kf := fun i => frozen_of_row _ _ i _ _ hb
  have hp := put7_facts (.string (nmS 4)) (.int .i64 (szS 4)) (.int .i64 (blS 4)) (.int .u64 (hiS 4)) (.int .u64 (loS 4)) (.func (Fn.func (onS 4)) #[] #[]) (.func (Fn.func (mkS 4)) #[] #[]) hb
  go_wp2_with fail
  refine bodyPost_ret (by simp [results, Tryz.results120, go_sem, k0, k1, k2, k3, k4, k5, k6]; try rfl) rfl ?_
  exact ⟨⟨⟨nmS 4, szS 4, blS 4, hiS 4, loS 4, (.func (Fn.func (onS 4)) #[] #[]), (.func (Fn.func (mkS 4)) #[] #[])⟩, rfl, fun _ _ => IsKd.plain 4 (by omega)⟩, hp.2.2.1 _ (((New.refl w).alloc _).trans HN.out) (Nat.le_refl _)⟩
theorem of_s5 (w : World) : Calls Tryz.prog 121 #[] w fun e w' => (∃ f : Kd, e = .returned (.agg f.cells) ∧ OwnK w.heap.size w' 5 f) ∧ New w w' := by
  go_enter Tryz.func121, Tryz.ntmps121
  go_wp2_with fail
  refine (seed64_35 _).mono ?_
  rintro e w9 ⟨rfl, hn⟩
  have HN := Lib.hid hn
  clear hn
  have hb := (HN.out.block _ (lt_of_block (heap_alloc_new w _))).trans (heap_alloc_new w _)
  have k0 := cell_of_row _ _ 0 _ _ _ hb
  have k1 := cell_of_row _ _ 1 _ _ _ hb
  have k2 := cell_of_row _ _ 2 _ _ _ hb
  have k3 := cell_of_row _ _ 3 _ _ _ hb
  have k4 := cell_of_row _ _ 4 _ _ _ hb
  have k5 := cell_of_row _ _ 5 _ _ _ hb
  have k6 := cell_of_row _ _ 6 _ _ _ hb
  have kf := fun i => frozen_of_row _ _ i _ _ hb
  have hp := put7_facts (.string (nmS 5)) (.int .i64 (szS 5)) (.int .i64 (blS 5)) (.int .u64 (hiS 5)) (.int .u64 (loS 5)) (.func (Fn.func (onS 5)) #[] #[]) (.func (Fn.func (mkS 5)) #[] #[]) hb
  go_wp2_with fail
  refine bodyPost_ret (by simp [results, Tryz.results121, go_sem, k0, k1, k2, k3, k4, k5, k6]; try rfl) rfl ?_
  exact ⟨⟨⟨nmS 5, szS 5, blS 5, hiS 5, loS 5, (.func (Fn.func (onS 5)) #[] #[]), (.func (Fn.func (mkS 5)) #[] #[])⟩, rfl, fun _ _ => IsKd.plain 5 (by omega)⟩, hp.2.2.1 _ (((New.refl w).alloc _).trans HN.out) (Nat.le_refl _)⟩
theorem three_blocksK (w : World) (A B C : Obj) : (((w.alloc A).alloc B).alloc C).heap[w.heap.size]? = some A ∧ (((w.alloc A).alloc B).alloc C).heap[w.heap.size + 1]? = some B ∧ (((w.alloc A).alloc B).alloc C).heap[w.heap.size + 1 + 1]? = some C ∧ New w (((w.alloc A).alloc B).alloc C) := by
  have eA : (w.alloc A).heap.size = w.heap.size + 1 := by simp
  have eB : ((w.alloc A).alloc B).heap.size = w.heap.size + 1 + 1 := by simp
  have hA := heap_alloc_new w A
  have hB := heap_alloc_new (w.alloc A) B
  have hC := heap_alloc_new ((w.alloc A).alloc B) C
  rw [eA] at hB
  rw [eB] at hC
  have nB := (New.refl ((w.alloc A).alloc B)).alloc C
  have nA := ((New.refl (w.alloc A)).alloc B).alloc C
  exact ⟨(nA.block _ (lt_of_block hA)).trans hA, (nB.block _ (lt_of_block hB)).trans hB, hC, (((New.refl w).alloc _).alloc _).alloc _⟩
set_option maxHeartbeats 4000000 in
theorem of_sip_any (k : Int) (nm : ByteArray) (sz : Int) (w : World) : Calls Tryz.prog 122 #[.int .i64 k, .string nm, .int .i64 sz] w fun e w' => e = .returned (.agg #[.string nm, .int .i64 sz, .int .i64 8, .int .u64 18446744073709551615, .int .u64 18446744073709551615, (.func (Fn.func 187) #[] #[.pointer (some ⟨w.heap.size, 0, none⟩), .pointer (some ⟨(w.heap.size + 1), 0, none⟩)]), (.func (Fn.func 189) #[] #[.pointer (some ⟨w.heap.size, 0, none⟩), .pointer (some ⟨(w.heap.size + 1), 0, none⟩)])]) ∧ w'.heap[w.heap.size]? = some (.cells #[.int .i64 k] 3 (0, 0)) ∧ w'.heap[w.heap.size + 1]? = some (.cells #[.int .i64 sz] 3 (0, 0)) ∧ New w w' := by
  have hmf : ∀ (fn : Fn) (first cap : Array Value) (w : World), (Instr.makeFunc fn first cap).run Tryz.prog w = .ok (.func fn first cap) w := fun _ _ _ _ => rfl
  obtain ⟨hb1, hb2, hb3, hN⟩ := three_blocksK w (.cells #[.int .i64 k] 3) (.cells #[.int .i64 sz] 3) (.cells kzc 96)
  generalize hW : ((w.alloc (.cells #[.int .i64 k] 3)).alloc (.cells #[.int .i64 sz] 3)).alloc (.cells kzc 96) = w0 at *
  have HB1 := Lib.hid hb1
  have HB2 := Lib.hid hb2
  have HB3 := Lib.hid hb3
  have HN := Lib.hid hN
  have HSD := Lib.hid (fun w => seed128_35 w)
  clear hb1 hb2 hb3 hN
  go_enter Tryz.func122, Tryz.ntmps122
  go_wp2_with fail
  refine GrowG.wp_region_growS (fun w' => (∃ u0 u1 u2 u3 u4 u5 u6, w'.heap[(w.heap.size + 1 + 1)]? = some (.cells #[u0, u1, u2, u3, u4, u5, u6] 96 (0, 0))) ∧ (w'.heap[w.heap.size]? = some (.cells #[.int .i64 k] 3 (0, 0)) ∧ w'.heap[w.heap.size + 1]? = some (.cells #[.int .i64 sz] 3 (0, 0))) ∧ New w w') (fun _ => True) (fun k => [2, 6].contains k) (fun k => [].contains k) (by kernel_rfl) (by kernel_rfl) (by kernel_rfl) ⟨⟨_, _, _, _, _, _, _, HB3.out⟩, ⟨HB1.out, HB2.out⟩, HN.out.drew⟩ trivial ?_
  intro I _ f hall hback
  have HALL := Lib.hid hall
  have HBACK := Lib.hid hback
  have s1 := fun n => cell_of_row _ _ 0 _ _ _ (hall n).2.1.2
  clear hall hback
  refine GrowG.wpGrow_take 2 (by kernel_rfl) ?_
  simp only [List.take, List.drop, List.length]
  repeat (go_big_quiet_step (fail))
  refine wpQuiet_nil ?_
  refine GrowG.wpGrow_turn (fun v => v = .agg #[.int .u64 18446744073709551615, .int .u64 18446744073709551615]) (fun _ _ => True) rfl rfl ⟨_, rfl⟩ (fun w1 hB hG => ?_) (fun v0 A0 hv0 hA => ?_)
  · obtain ⟨n, rfl⟩ := hB
    go_simp
    refine (HSD.out _).mono ?_
    rintro e w2 ⟨rfl, hn⟩
    obtain ⟨⟨u0, u1, u2, u3, u4, u5, u6, h1⟩, ⟨h2, h3⟩, hnw⟩ := HALL.out n
    have hB2 := HBACK.out _ ⟨⟨_, _, _, _, _, _, _, (hn.block _ (lt_of_block h1)).trans h1⟩, ⟨(hn.block _ (lt_of_block h2)).trans h2, (hn.block _ (lt_of_block h3)).trans h3⟩, hnw.trans hn⟩
    first | exact ⟨_, rfl, hB2, rfl, trivial⟩ | exact ⟨rfl, hB2⟩ | exact hB2
  subst hv0
  simp [Act.put] at hA
  subst hA
  refine GrowG.wpGrow_take 3 (by kernel_rfl) ?_
  simp only [List.take, List.drop, List.length]
  repeat (go_big_quiet_step (fail))
  refine wpQuiet_nil ?_
  refine GrowG.wpGrow_turn (fun v => v = undef) (fun _ w9 => w9.heap[(w.heap.size + 1 + 1)]? = some (.cells #[.string nm, .int .i64 sz, .int .i64 8, .int .u64 18446744073709551615, .int .u64 18446744073709551615, (.func (Fn.func 187) #[] #[.pointer (some ⟨w.heap.size, 0, none⟩), .pointer (some ⟨(w.heap.size + 1), 0, none⟩)]), (.func (Fn.func 189) #[] #[.pointer (some ⟨w.heap.size, 0, none⟩), .pointer (some ⟨(w.heap.size + 1), 0, none⟩)])] 96 (0, 0))) rfl rfl ⟨_, rfl⟩ (fun w1 hB hG => ?_) (fun v1 A1 hv1 hA => ?_)
  · obtain ⟨n, rfl⟩ := hB
    obtain ⟨⟨u0, u1, u2, u3, u4, u5, u6, hq⟩, ⟨h2, h3⟩, hnw⟩ := HALL.out n
    have hc0 := cell_of_row _ _ 0 _ _ _ hq
    have hc1 := cell_of_row _ _ 1 _ _ _ hq
    have hc2 := cell_of_row _ _ 2 _ _ _ hq
    have hc3 := cell_of_row _ _ 3 _ _ _ hq
    have hc4 := cell_of_row _ _ 4 _ _ _ hq
    have hc5 := cell_of_row _ _ 5 _ _ _ hq
    have hc6 := cell_of_row _ _ 6 _ _ _ hq
    have hfr := fun i => frozen_of_row _ _ i _ _ hq
    have HQ : Hid ((((((((((f n).setCell ⟨(w.heap.size + 1 + 1), 0, none⟩ (.string nm)).setCell ⟨(w.heap.size + 1 + 1), 1, none⟩ (.int .i64 sz)).setCell ⟨(w.heap.size + 1 + 1), 2, none⟩ (.int .i64 8)).setCell ⟨(w.heap.size + 1 + 1), 3, none⟩ (.int .u64 18446744073709551615)).setCell ⟨(w.heap.size + 1 + 1), 4, none⟩ (.int .u64 18446744073709551615)).setCell ⟨(w.heap.size + 1 + 1), 5, none⟩ (.func (Fn.func 187) #[] #[.pointer (some ⟨w.heap.size, 0, none⟩), .pointer (some ⟨(w.heap.size + 1), 0, none⟩)])).setCell ⟨(w.heap.size + 1 + 1), 6, none⟩ (.func (Fn.func 189) #[] #[.pointer (some ⟨w.heap.size, 0, none⟩), .pointer (some ⟨(w.heap.size + 1), 0, none⟩)]))).heap[(w.heap.size + 1 + 1)]? = some (.cells #[.string nm, .int .i64 sz, .int .i64 8, .int .u64 18446744073709551615, .int .u64 18446744073709551615, (.func (Fn.func 187) #[] #[.pointer (some ⟨w.heap.size, 0, none⟩), .pointer (some ⟨(w.heap.size + 1), 0, none⟩)]), (.func (Fn.func 189) #[] #[.pointer (some ⟨w.heap.size, 0, none⟩), .pointer (some ⟨(w.heap.size + 1), 0, none⟩)])] 96 (0, 0))) := Lib.hid (heap_setCell_same _ (w.heap.size + 1 + 1) 6 _ _ (.func (Fn.func 189) #[] #[.pointer (some ⟨w.heap.size, 0, none⟩), .pointer (some ⟨(w.heap.size + 1), 0, none⟩)]) (heap_setCell_same _ (w.heap.size + 1 + 1) 5 _ _ (.func (Fn.func 187) #[] #[.pointer (some ⟨w.heap.size, 0, none⟩), .pointer (some ⟨(w.heap.size + 1), 0, none⟩)]) (heap_setCell_same _ (w.heap.size + 1 + 1) 4 _ _ (.int .u64 18446744073709551615) (heap_setCell_same _ (w.heap.size + 1 + 1) 3 _ _ (.int .u64 18446744073709551615) (heap_setCell_same _ (w.heap.size + 1 + 1) 2 _ _ (.int .i64 8) (heap_setCell_same _ (w.heap.size + 1 + 1) 1 _ _ (.int .i64 sz) (heap_setCell_same _ (w.heap.size + 1 + 1) 0 _ _ (.string nm) hq)))))))
    have HOT : Hid (∀ j, j ≠ (w.heap.size + 1 + 1) → (((((((((f n).setCell ⟨(w.heap.size + 1 + 1), 0, none⟩ (.string nm)).setCell ⟨(w.heap.size + 1 + 1), 1, none⟩ (.int .i64 sz)).setCell ⟨(w.heap.size + 1 + 1), 2, none⟩ (.int .i64 8)).setCell ⟨(w.heap.size + 1 + 1), 3, none⟩ (.int .u64 18446744073709551615)).setCell ⟨(w.heap.size + 1 + 1), 4, none⟩ (.int .u64 18446744073709551615)).setCell ⟨(w.heap.size + 1 + 1), 5, none⟩ (.func (Fn.func 187) #[] #[.pointer (some ⟨w.heap.size, 0, none⟩), .pointer (some ⟨(w.heap.size + 1), 0, none⟩)])).setCell ⟨(w.heap.size + 1 + 1), 6, none⟩ (.func (Fn.func 189) #[] #[.pointer (some ⟨w.heap.size, 0, none⟩), .pointer (some ⟨(w.heap.size + 1), 0, none⟩)]))).heap[j]? = (f n).heap[j]?) := Lib.hid (fun j hj => by rw [heap_setCell_other _ _ _ _ hj, heap_setCell_other _ _ _ _ hj, heap_setCell_other _ _ _ _ hj, heap_setCell_other _ _ _ _ hj, heap_setCell_other _ _ _ _ hj, heap_setCell_other _ _ _ _ hj, heap_setCell_other _ _ _ _ hj])
    have HNW : Hid (New w (((((((((f n).setCell ⟨(w.heap.size + 1 + 1), 0, none⟩ (.string nm)).setCell ⟨(w.heap.size + 1 + 1), 1, none⟩ (.int .i64 sz)).setCell ⟨(w.heap.size + 1 + 1), 2, none⟩ (.int .i64 8)).setCell ⟨(w.heap.size + 1 + 1), 3, none⟩ (.int .u64 18446744073709551615)).setCell ⟨(w.heap.size + 1 + 1), 4, none⟩ (.int .u64 18446744073709551615)).setCell ⟨(w.heap.size + 1 + 1), 5, none⟩ (.func (Fn.func 187) #[] #[.pointer (some ⟨w.heap.size, 0, none⟩), .pointer (some ⟨(w.heap.size + 1), 0, none⟩)])).setCell ⟨(w.heap.size + 1 + 1), 6, none⟩ (.func (Fn.func 189) #[] #[.pointer (some ⟨w.heap.size, 0, none⟩), .pointer (some ⟨(w.heap.size + 1), 0, none⟩)])))) := Lib.hid (((((((hnw.setCell (p := ⟨(w.heap.size + 1 + 1), 0, none⟩) (by show w.heap.size ≤ w.heap.size + 1 + 1; omega) _).setCell (p := ⟨(w.heap.size + 1 + 1), 1, none⟩) (by show w.heap.size ≤ w.heap.size + 1 + 1; omega) _).setCell (p := ⟨(w.heap.size + 1 + 1), 2, none⟩) (by show w.heap.size ≤ w.heap.size + 1 + 1; omega) _).setCell (p := ⟨(w.heap.size + 1 + 1), 3, none⟩) (by show w.heap.size ≤ w.heap.size + 1 + 1; omega) _).setCell (p := ⟨(w.heap.size + 1 + 1), 4, none⟩) (by show w.heap.size ≤ w.heap.size + 1 + 1; omega) _).setCell (p := ⟨(w.heap.size + 1 + 1), 5, none⟩) (by show w.heap.size ≤ w.heap.size + 1 + 1; omega) _).setCell (p := ⟨(w.heap.size + 1 + 1), 6, none⟩) (by show w.heap.size ≤ w.heap.size + 1 + 1; omega) _)
    have H2 := Lib.hid h2
    have H3 := Lib.hid h3
    clear h2 h3 hnw hq hG s1
    go_simp
    exact ⟨HBACK.out _ ⟨⟨_, _, _, _, _, _, _, HQ.out⟩, ⟨(HOT.out _ (by omega)).trans H2.out, (HOT.out _ (by omega)).trans H3.out⟩, HNW.out⟩, HQ.out⟩
  simp [Act.put] at hA
  subst hA
  refine GrowG.wpGrow_nil ?_
  rintro w9 ⟨n9, rfl⟩ hG
  have HF := Lib.hid (HALL.out n9).2
  have k0 := cell_of_row _ _ 0 _ _ _ hG
  have k1 := cell_of_row _ _ 1 _ _ _ hG
  have k2 := cell_of_row _ _ 2 _ _ _ hG
  have k3 := cell_of_row _ _ 3 _ _ _ hG
  have k4 := cell_of_row _ _ 4 _ _ _ hG
  have k5 := cell_of_row _ _ 5 _ _ _ hG
  have k6 := cell_of_row _ _ 6 _ _ _ hG
  clear HALL HBACK s1 hG
  generalize f n9 = w9 at *
  go_wp2_with fail
  refine bodyPost_ret (by simp [results, Tryz.results122, go_sem, k0, k1, k2, k3, k4, k5, k6]; try rfl) rfl ?_
  exact ⟨rfl, HF.out.1.1, HF.out.1.2, HF.out.2⟩
theorem of_s_sip (k : Int) (hk : k = 6 ∨ k = 7 ∨ k = 8) (w : World) : Calls Tryz.prog 122 #[.int .i64 k, .string (nmS k), .int .i64 (szS k)] w fun e w' => (∃ f : Kd, e = .returned (.agg f.cells) ∧ OwnK w.heap.size w' k f) ∧ New w w' := by
  refine (of_sip_any k (nmS k) (szS k) w).mono ?_
  rintro e w' ⟨rfl, h1, h2, hn⟩
  refine ⟨⟨⟨nmS k, szS k, blS k, hiS k, loS k, (.func (Fn.func 187) #[] #[.pointer (some ⟨w.heap.size, 0, none⟩), .pointer (some ⟨(w.heap.size + 1), 0, none⟩)]), (.func (Fn.func 189) #[] #[.pointer (some ⟨w.heap.size, 0, none⟩), .pointer (some ⟨(w.heap.size + 1), 0, none⟩)])⟩, ?_, fun w2 hh => IsKd.sip k hk w.heap.size (w.heap.size + 1) ((hh _ (Nat.le_refl _) (lt_of_block h1)).trans h1) ((hh _ (Nat.le_succ _) (lt_of_block h2)).trans h2)⟩, hn⟩
  rcases hk with rfl | rfl | rfl <;> rfl
end Go.Proofs.YthkmcnlciefnfaaGreat
