/- Contracts of layer 28: what a stream's box holds; its size, made, State, Tail, Long. -/
import Derived.Test.YtegibnffingciaaBlkB
import Derived.Defers
import Derived.Recover
import Derived.Laws.Pointers
import Derived.Handy
namespace Go.Bv
open Go Go.RowKit
/-- the block holds no byte -/
def NoBytes (w : World) (q : Nat) : Prop := ∃ cs T fz, w.heap[q]? = some (.cells cs T fz) ∧ ∀ v ∈ cs.toList, ∀ i, v ≠ .int .u8 i
theorem BRow.apart {w : World} {q : Nat} {a : Option Addr} {len cap : Nat} {l : List (BitVec 8)} (h : BRow w a len cap l) (hq : NoBytes w q) : ∀ y, a = some y → 0 < len → y.block ≠ q := by
  intro y e h0 hy
  obtain ⟨cs, T, fz, hb, hcs⟩ := hq
  obtain ⟨b, off, e2, hc⟩ := h.addr h0
  rw [e] at e2
  cases e2
  have hc0 := hc 0 h0
  subst hy
  unfold World.cell? at hc0
  simp only [hb] at hc0
  simp only [Nat.add_zero] at hc0
  have hm : cs[off]? = some (.int .u8 (W8 (l.getD 0 0))) := by simpa using hc0
  exact hcs _ (by rw [← Array.getElem?_toList] at hm; exact List.mem_of_getElem? hm) _ rfl
theorem BRow.buts {w w' : World} {q : Nat} {a : Option Addr} {len cap : Nat} {l : List (BitVec 8)} (h : BRow w a len cap l) (hb : But q w w') (hq : NoBytes w q) : BRow w' a len cap l :=
  h.but hb.size (fun y e h0 => hb.block _ (h.old y e h0) (h.apart hq y e h0))
/-- a size that may be -/
def szN (i : Int) : Nat := (min (max i 1) 64).toNat
theorem szN_in (i : Int) : 1 ≤ szN i ∧ szN i ≤ 64 := by unfold szN; omega
theorem puts_28 {w : World} {q : Nat} {c0 c1 c2 c3 c4 c5 c6 c7 : Value} {T : TypeId} (v0 v1 : Value) (h : w.heap[q]? = some (.cells #[c0, c1, c2, c3, c4, c5, c6, c7] T (0, 0))) :
    ((w.setCell ⟨q, 3, none⟩ v0).setCell ⟨q, 4, none⟩ v1).heap[q]? = some (.cells #[c0, c1, c2, v0, v1, c5, c6, c7] T (0, 0)) ∧ (∀ j, j ≠ q → ((w.setCell ⟨q, 3, none⟩ v0).setCell ⟨q, 4, none⟩ v1).heap[j]? = w.heap[j]?) ∧ (∀ u : World, But q u w → But q u ((w.setCell ⟨q, 3, none⟩ v0).setCell ⟨q, 4, none⟩ v1)) := by
  refine ⟨?_, fun j hj => ?_, fun u hu => ?_⟩
  · have h0 := heap_setCell_same w q 3 _ _ v0 h
    have h1 := heap_setCell_same _ q 4 _ _ v1 h0
    exact h1
  · rw [heap_setCell_other _ _ _ _ hj, heap_setCell_other _ _ _ _ hj]
  · exact (hu.setCell rfl _).setCell rfl _
theorem putt_28 {w : World} {q : Nat} {c0 c1 c2 c3 c4 c5 c6 c7 : Value} {T : TypeId} (v0 : Value) (h : w.heap[q]? = some (.cells #[c0, c1, c2, c3, c4, c5, c6, c7] T (0, 0))) :
    (w.setCell ⟨q, 6, none⟩ v0).heap[q]? = some (.cells #[c0, c1, c2, c3, c4, c5, v0, c7] T (0, 0)) ∧ (∀ j, j ≠ q → (w.setCell ⟨q, 6, none⟩ v0).heap[j]? = w.heap[j]?) ∧ (∀ u : World, But q u w → But q u (w.setCell ⟨q, 6, none⟩ v0)) := by
  refine ⟨?_, fun j hj => ?_, fun u hu => ?_⟩
  · have h0 := heap_setCell_same w q 6 _ _ v0 h
    exact h0
  · rw [heap_setCell_other _ _ _ _ hj]
  · exact hu.setCell rfl _
theorem putl_28 {w : World} {q : Nat} {c0 c1 c2 c3 c4 c5 c6 c7 : Value} {T : TypeId} (v0 : Value) (h : w.heap[q]? = some (.cells #[c0, c1, c2, c3, c4, c5, c6, c7] T (0, 0))) :
    (w.setCell ⟨q, 7, none⟩ v0).heap[q]? = some (.cells #[c0, c1, c2, c3, c4, c5, c6, v0] T (0, 0)) ∧ (∀ j, j ≠ q → (w.setCell ⟨q, 7, none⟩ v0).heap[j]? = w.heap[j]?) ∧ (∀ u : World, But q u w → But q u (w.setCell ⟨q, 7, none⟩ v0)) := by
  refine ⟨?_, fun j hj => ?_, fun u hu => ?_⟩
  · have h0 := heap_setCell_same w q 7 _ _ v0 h
    exact h0
  · rw [heap_setCell_other _ _ _ _ hj]
  · exact hu.setCell rfl _
end Go.Bv
namespace Go.Proofs.Ytegibnffingciaa
open Go.RowKit Go.Bv
set_option linter.unusedVariables false
/-- a stream in the box p: what it holds -/
def Strm_28 (w : World) (p n : Nat) (fs st : BitVec 64 × Int) (tl : List (BitVec 8)) (long : BitVec 64) : Prop :=
  ∃ a cap, w.heap[p]? = some (.cells #[.int .i64 (n : Int), .int .u64 (W64 (fs.1)), .int .i64 (fs.2), .int .u64 (W64 (st.1)), .int .i64 (st.2), (.func (Fn.func 20) #[] #[]), .slice a (tl.length : Nat) cap, .int .u64 (W64 long)] 82 (0, 0)) ∧ BRow w a tl.length cap tl
theorem Strm_28.stay {w w' : World} {p n : Nat} {fs st : BitVec 64 × Int} {tl : List (BitVec 8)} {long : BitVec 64} (h : Strm_28 w p n fs st tl long) (hn : New w w') : Strm_28 w' p n fs st tl long := by
  obtain ⟨a, cap, hb, hr⟩ := h
  exact ⟨a, cap, (hn.block _ (lt_of_block hb)).trans hb, hr.stay hn⟩
theorem Strm_28.but {w w' : World} {p n q : Nat} {fs st : BitVec 64 × Int} {tl : List (BitVec 8)} {long : BitVec 64} (h : Strm_28 w p n fs st tl long) (hb : But q w w') (hne : p ≠ q) (hq : NoBytes w q) : Strm_28 w' p n fs st tl long := by
  obtain ⟨a, cap, hbx, hr⟩ := h
  exact ⟨a, cap, hb.keep hne hbx, hr.buts hb hq⟩
theorem Strm_28.noBytes {w : World} {p n : Nat} {fs st : BitVec 64 × Int} {tl : List (BitVec 8)} {long : BitVec 64} (h : Strm_28 w p n fs st tl long) : NoBytes w p := by
  obtain ⟨a, cap, hbx, hr⟩ := h
  exact ⟨_, _, _, hbx, by simp⟩
theorem Strm_28.lt {w : World} {p n : Nat} {fs st : BitVec 64 × Int} {tl : List (BitVec 8)} {long : BitVec 64} (h : Strm_28 w p n fs st tl long) : p < w.heap.size := by
  obtain ⟨a, cap, hbx, hr⟩ := h
  exact lt_of_block hbx
set_option maxHeartbeats 400000 in
theorem size_of (i : Int) (w : World) : Calls Try.prog 80 #[.int .i64 i] w fun e w' => e = .returned (.int .i64 (szN i : Nat)) ∧ w' = w := by
  go_enter Try.func80, Try.ntmps80
  go_wp2
  all_goals (go_ret; refine ⟨retI ?_, rfl⟩; (try split at *) <;> simp only [szN] <;> omega)
theorem size_ref (i : Int) (w : World) : Calls Try.prog 32 #[.int .i64 i] w fun e w' => e = .returned (.int .i64 (szN i : Nat)) ∧ w' = w := by
  by_cases h1 : i < 1
  · go_enter Try.func32, Try.ntmps32
    go_wp2
    go_ret
    exact ⟨retI (by unfold szN; omega), rfl⟩
  · by_cases h2 : 64 < i
    · go_enter Try.func32, Try.ntmps32
      go_wp2
      go_ret
      exact ⟨retI (by unfold szN; omega), rfl⟩
    · go_enter Try.func32, Try.ntmps32
      go_wp2
      go_ret
      exact ⟨retI (by unfold szN; omega), rfl⟩
theorem made_n_28 (w : World) : Calls Try.prog 81 #[.pointer none] w fun e w' => e = .returned (.bool false) ∧ w' = w := by
  go_enter Try.func81, Try.ntmps81
  go_wp2
  go_ret
  exact ⟨rfl, rfl⟩
theorem made_28 (p n : Nat) (fs st : BitVec 64 × Int) (tl : List (BitVec 8)) (long : BitVec 64) (w : World) (hn : 1 ≤ n) (h : Strm_28 w p n fs st tl long) : Calls Try.prog 81 #[.pointer (some ⟨p, 0, none⟩)] w fun e w' => e = .returned (.bool true) ∧ w' = w := by
  obtain ⟨a, cap, hb, hr⟩ := h
  have k0 := cell_of_row _ _ 0 _ _ _ hb
  have h0 : (n : Int) > 0 := by omega
  clear hb hr hn
  go_enter Try.func81, Try.ntmps81
  go_wp2
  go_ret
  first | exact ⟨rfl, rfl⟩ | exact ⟨retB (by simp; omega), rfl⟩ | exact ⟨retB (decide_eq_true h0), rfl⟩
theorem long_n_28 (w : World) : Calls Try.prog 27 #[.pointer none] w fun e w' => e = .returned (.int .u64 0) ∧ w' = w := by
  go_enter Try.func27, Try.ntmps27
  go_wp2_with (refine (made_n_28 _).mono ?_; rintro e w' ⟨rfl, rfl⟩)
  go_ret
  exact ⟨rfl, rfl⟩
theorem long_28 (p n : Nat) (fs st : BitVec 64 × Int) (tl : List (BitVec 8)) (long : BitVec 64) (w : World) (hn : 1 ≤ n) (h : Strm_28 w p n fs st tl long) : Calls Try.prog 27 #[.pointer (some ⟨p, 0, none⟩)] w fun e w' => e = .returned (.int .u64 (W64 long)) ∧ w' = w := by
  have HM := Lib.hid (made_28 p n fs st tl long w hn h)
  obtain ⟨a, cap, hb, hr⟩ := h
  have k0 := cell_of_row _ _ 7 _ _ _ hb
  clear hb hr hn
  go_enter Try.func27, Try.ntmps27
  go_wp2_with fail
  refine HM.out.mono ?_
  rintro e w' ⟨rfl, rfl⟩
  go_wp2
  go_ret
  exact ⟨rfl, rfl⟩
theorem tail_n_28 (w : World) : Calls Try.prog 26 #[.pointer none] w fun e w' => e = .returned (.slice none 0 0) ∧ w' = w := by
  go_enter Try.func26, Try.ntmps26
  go_wp2_with (refine (made_n_28 _).mono ?_; rintro e w' ⟨rfl, rfl⟩)
  go_ret
  exact ⟨rfl, rfl⟩
theorem tail_28 (p n : Nat) (fs st : BitVec 64 × Int) (tl : List (BitVec 8)) (long : BitVec 64) (w : World) (hn : 1 ≤ n) (h : Strm_28 w p n fs st tl long) : Calls Try.prog 26 #[.pointer (some ⟨p, 0, none⟩)] w fun e w' => ∃ a cap, e = .returned (.slice a tl.length cap) ∧ BRow w' a tl.length cap tl ∧ New w w' := by
  have HM := Lib.hid (made_28 p n fs st tl long w hn h)
  obtain ⟨a, cap, hb, hr⟩ := h
  have k0 := cell_of_row _ _ 6 _ _ _ hb
  have HC := Lib.hid (clone_b _ _ _ _ _ hr)
  clear hb hr hn
  go_enter Try.func26, Try.ntmps26
  go_wp2_with fail
  refine HM.out.mono ?_
  rintro e w' ⟨rfl, rfl⟩
  go_wp2_with fail
  refine HC.out.mono ?_
  rintro e w2 ⟨a2, c2, rfl, hr2, _, hn2⟩
  have HR := Lib.hid hr2
  have HN := Lib.hid hn2
  clear hr2 hn2
  go_wp2
  go_ret
  exact ⟨_, _, rfl, HR.out, HN.out⟩
theorem state_n_28 (w : World) : Calls Try.prog 24 #[.pointer none] w fun e w' => e = .returned (.agg #[.int .u64 0, .int .i64 0]) ∧ New w w' := by
  go_enter Try.func24, Try.ntmps24
  go_wp2_with (refine (made_n_28 _).mono ?_; rintro e w' ⟨rfl, rfl⟩)
  go_returns
  first | exact ⟨rfl, ((New.refl w).alloc _).alloc _⟩ | exact ⟨rfl, ((((New.refl w).alloc _).alloc _).setCell (Nat.le_refl _) _).setCell (Nat.le_refl _) _⟩
theorem state_28 (p n : Nat) (fs st : BitVec 64 × Int) (tl : List (BitVec 8)) (long : BitVec 64) (w : World) (hn : 1 ≤ n) (h : Strm_28 w p n fs st tl long) : Calls Try.prog 24 #[.pointer (some ⟨p, 0, none⟩)] w fun e w' => e = .returned (.agg #[.int .u64 (W64 (st.1)), .int .i64 (st.2)]) ∧ New w w' := by
  have HM := Lib.hid (fun w' hn' => made_28 p n fs st tl long w' hn (h.stay (w' := w') hn'))
  obtain ⟨a, cap, hb, hr⟩ := h
  have hb := (((New.refl w).alloc (.cells #[.int .u64 0, .int .i64 0] 27)).block _ (lt_of_block hb)).trans hb
  have hz := heap_alloc_new w (.cells #[.int .u64 0, .int .i64 0] 27)
  have k0 := cell_of_row _ _ 3 _ _ _ hb
  have k1 := cell_of_row _ _ 4 _ _ _ hb
  have r0 := cell_of_row _ _ 0 _ _ _ hz
  have r1 := cell_of_row _ _ 1 _ _ _ hz
  clear hb hr hn
  go_enter Try.func24, Try.ntmps24
  go_wp2_with fail
  refine (HM.out _ ((New.refl w).alloc _)).mono ?_
  rintro e w' ⟨rfl, rfl⟩
  go_wp2
  go_returns
  first | exact ⟨rfl, (New.refl w).alloc _⟩ | exact ⟨rfl, (((New.refl w).alloc _).setCell (Nat.le_refl _) _).setCell (Nat.le_refl _) _⟩
end Go.Proofs.Ytegibnffingciaa
