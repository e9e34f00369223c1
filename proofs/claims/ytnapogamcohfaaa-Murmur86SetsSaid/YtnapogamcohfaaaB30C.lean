/- The block's contracts of layer 30: what a stream holds; New, Write. -/
import Derived.Test.YtnapogamcohfaaaB30A
import Derived.Defers
import Derived.Recover
import Derived.Laws.Pointers
import Derived.Handy
import Derived.Laws.EntriesVeiled
namespace Go.Bv
open Go Go.RowKit
theorem puts_30 {w : World} {q : Nat} {c0 c1 c2 c3 c4 c5 c6 c7 c8 c9 c10 c11 : Value} {T : TypeId} (v0 v1 v2 v3 : Value) (h : w.heap[q]? = some (.cells #[c0, c1, c2, c3, c4, c5, c6, c7, c8, c9, c10, c11] T (0, 0))) :
    ((((w.setCell ⟨q, 5, none⟩ v0).setCell ⟨q, 6, none⟩ v1).setCell ⟨q, 7, none⟩ v2).setCell ⟨q, 8, none⟩ v3).heap[q]? = some (.cells #[c0, c1, c2, c3, c4, v0, v1, v2, v3, c9, c10, c11] T (0, 0)) ∧ (∀ j, j ≠ q → ((((w.setCell ⟨q, 5, none⟩ v0).setCell ⟨q, 6, none⟩ v1).setCell ⟨q, 7, none⟩ v2).setCell ⟨q, 8, none⟩ v3).heap[j]? = w.heap[j]?) ∧ (∀ u : World, But q u w → But q u ((((w.setCell ⟨q, 5, none⟩ v0).setCell ⟨q, 6, none⟩ v1).setCell ⟨q, 7, none⟩ v2).setCell ⟨q, 8, none⟩ v3)) := by
  refine ⟨?_, fun j hj => ?_, fun u hu => ?_⟩
  · have h0 := heap_setCell_same w q 5 _ _ v0 h
    have h1 := heap_setCell_same _ q 6 _ _ v1 h0
    have h2 := heap_setCell_same _ q 7 _ _ v2 h1
    have h3 := heap_setCell_same _ q 8 _ _ v3 h2
    exact h3
  · rw [heap_setCell_other _ _ _ _ hj, heap_setCell_other _ _ _ _ hj, heap_setCell_other _ _ _ _ hj, heap_setCell_other _ _ _ _ hj]
  · exact (((hu.setCell rfl _).setCell rfl _).setCell rfl _).setCell rfl _
theorem putt_30 {w : World} {q : Nat} {c0 c1 c2 c3 c4 c5 c6 c7 c8 c9 c10 c11 : Value} {T : TypeId} (v0 : Value) (h : w.heap[q]? = some (.cells #[c0, c1, c2, c3, c4, c5, c6, c7, c8, c9, c10, c11] T (0, 0))) :
    (w.setCell ⟨q, 10, none⟩ v0).heap[q]? = some (.cells #[c0, c1, c2, c3, c4, c5, c6, c7, c8, c9, v0, c11] T (0, 0)) ∧ (∀ j, j ≠ q → (w.setCell ⟨q, 10, none⟩ v0).heap[j]? = w.heap[j]?) ∧ (∀ u : World, But q u w → But q u (w.setCell ⟨q, 10, none⟩ v0)) := by
  refine ⟨?_, fun j hj => ?_, fun u hu => ?_⟩
  · have h0 := heap_setCell_same w q 10 _ _ v0 h
    exact h0
  · rw [heap_setCell_other _ _ _ _ hj]
  · exact hu.setCell rfl _
theorem putl_30 {w : World} {q : Nat} {c0 c1 c2 c3 c4 c5 c6 c7 c8 c9 c10 c11 : Value} {T : TypeId} (v0 : Value) (h : w.heap[q]? = some (.cells #[c0, c1, c2, c3, c4, c5, c6, c7, c8, c9, c10, c11] T (0, 0))) :
    (w.setCell ⟨q, 11, none⟩ v0).heap[q]? = some (.cells #[c0, c1, c2, c3, c4, c5, c6, c7, c8, c9, c10, v0] T (0, 0)) ∧ (∀ j, j ≠ q → (w.setCell ⟨q, 11, none⟩ v0).heap[j]? = w.heap[j]?) ∧ (∀ u : World, But q u w → But q u (w.setCell ⟨q, 11, none⟩ v0)) := by
  refine ⟨?_, fun j hj => ?_, fun u hu => ?_⟩
  · have h0 := heap_setCell_same w q 11 _ _ v0 h
    exact h0
  · rw [heap_setCell_other _ _ _ _ hj]
  · exact hu.setCell rfl _
end Go.Bv
namespace Go.Proofs.Ytnapogamcohfaaa
open Go.RowKit Go.Bv
set_option linter.unusedVariables false
/-- a stream in the box p: what it holds -/
def Strm_30 (kd : Nat × Nat) (w : World) (p n : Nat) (fs st : BitVec 32 × BitVec 32 × BitVec 32 × BitVec 32) (tl : List (BitVec 8)) (long : BitVec 64) : Prop :=
  ∃ a cap, w.heap[p]? = some (.cells #[.int .i64 (n : Int), .int .u32 (W32 (fs.1)), .int .u32 (W32 (fs.2.1)), .int .u32 (W32 (fs.2.2.1)), .int .u32 (W32 (fs.2.2.2)), .int .u32 (W32 (st.1)), .int .u32 (W32 (st.2.1)), .int .u32 (W32 (st.2.2.1)), .int .u32 (W32 (st.2.2.2)), (.func (Fn.func 45) #[] #[.pointer (some ⟨kd.1, 0, none⟩), .pointer (some ⟨kd.2, 0, none⟩)]), .slice a (tl.length : Nat) cap, .int .u64 (W64 long)] 84 (0, 0)) ∧ BRow w a tl.length cap tl
theorem Strm_30.stay {kd : Nat × Nat} {w w' : World} {p n : Nat} {fs st : BitVec 32 × BitVec 32 × BitVec 32 × BitVec 32} {tl : List (BitVec 8)} {long : BitVec 64} (h : Strm_30 kd w p n fs st tl long) (hn : New w w') : Strm_30 kd w' p n fs st tl long := by
  obtain ⟨a, cap, hb, hr⟩ := h
  exact ⟨a, cap, (hn.block _ (lt_of_block hb)).trans hb, hr.stay hn⟩
theorem Strm_30.but {kd : Nat × Nat} {w w' : World} {p n q : Nat} {fs st : BitVec 32 × BitVec 32 × BitVec 32 × BitVec 32} {tl : List (BitVec 8)} {long : BitVec 64} (h : Strm_30 kd w p n fs st tl long) (hb : But q w w') (hne : p ≠ q) (hq : NoBytes w q) : Strm_30 kd w' p n fs st tl long := by
  obtain ⟨a, cap, hbx, hr⟩ := h
  exact ⟨a, cap, hb.keep hne hbx, hr.buts hb hq⟩
theorem Strm_30.noBytes {kd : Nat × Nat} {w : World} {p n : Nat} {fs st : BitVec 32 × BitVec 32 × BitVec 32 × BitVec 32} {tl : List (BitVec 8)} {long : BitVec 64} (h : Strm_30 kd w p n fs st tl long) : NoBytes w p := by
  obtain ⟨a, cap, hbx, hr⟩ := h
  exact ⟨_, _, _, hbx, by simp⟩
theorem Strm_30.lt {kd : Nat × Nat} {w : World} {p n : Nat} {fs st : BitVec 32 × BitVec 32 × BitVec 32 × BitVec 32} {tl : List (BitVec 8)} {long : BitVec 64} (h : Strm_30 kd w p n fs st tl long) : p < w.heap.size := by
  obtain ⟨a, cap, hbx, hr⟩ := h
  exact lt_of_block hbx
theorem made_n_30 (kd : Nat × Nat) (w : World) : Calls Try.prog 51 #[.pointer none] w fun e w' => e = .returned (.bool false) ∧ w' = w := by
  go_enter Try.func51, Try.ntmps51
  go_wp2
  go_ret
  exact ⟨rfl, rfl⟩
theorem made_30 (kd : Nat × Nat) (p n : Nat) (fs st : BitVec 32 × BitVec 32 × BitVec 32 × BitVec 32) (tl : List (BitVec 8)) (long : BitVec 64) (w : World) (hn : 1 ≤ n) (h : Strm_30 kd w p n fs st tl long) : Calls Try.prog 51 #[.pointer (some ⟨p, 0, none⟩)] w fun e w' => e = .returned (.bool true) ∧ w' = w := by
  obtain ⟨a, cap, hb, hr⟩ := h
  have k0 := cell_of_row _ _ 0 _ _ _ hb
  have h0 : (n : Int) > 0 := by omega
  clear hb hr hn
  go_enter Try.func51, Try.ntmps51
  go_wp2
  go_ret
  first | exact ⟨rfl, rfl⟩ | exact ⟨retB (by simp; omega), rfl⟩ | exact ⟨retB (decide_eq_true h0), rfl⟩
theorem long_n_30 (kd : Nat × Nat) (w : World) : Calls Try.prog 31 #[.pointer none] w fun e w' => e = .returned (.int .u64 0) ∧ w' = w := by
  go_enter Try.func31, Try.ntmps31
  go_wp2_with (refine (made_n_30 kd _).mono ?_; rintro e w' ⟨rfl, rfl⟩)
  go_ret
  exact ⟨rfl, rfl⟩
theorem long_30 (kd : Nat × Nat) (p n : Nat) (fs st : BitVec 32 × BitVec 32 × BitVec 32 × BitVec 32) (tl : List (BitVec 8)) (long : BitVec 64) (w : World) (hn : 1 ≤ n) (h : Strm_30 kd w p n fs st tl long) : Calls Try.prog 31 #[.pointer (some ⟨p, 0, none⟩)] w fun e w' => e = .returned (.int .u64 (W64 long)) ∧ w' = w := by
  have HM := Lib.hid (made_30 kd p n fs st tl long w hn h)
  obtain ⟨a, cap, hb, hr⟩ := h
  have k0 := cell_of_row _ _ 11 _ _ _ hb
  clear hb hr hn
  go_enter Try.func31, Try.ntmps31
  go_wp2_with fail
  refine HM.out.mono ?_
  rintro e w' ⟨rfl, rfl⟩
  go_wp2
  go_ret
  exact ⟨rfl, rfl⟩
theorem tail_n_30 (kd : Nat × Nat) (w : World) : Calls Try.prog 30 #[.pointer none] w fun e w' => e = .returned (.slice none 0 0) ∧ w' = w := by
  go_enter Try.func30, Try.ntmps30
  go_wp2_with (refine (made_n_30 kd _).mono ?_; rintro e w' ⟨rfl, rfl⟩)
  go_ret
  exact ⟨rfl, rfl⟩
theorem tail_30 (kd : Nat × Nat) (p n : Nat) (fs st : BitVec 32 × BitVec 32 × BitVec 32 × BitVec 32) (tl : List (BitVec 8)) (long : BitVec 64) (w : World) (hn : 1 ≤ n) (h : Strm_30 kd w p n fs st tl long) : Calls Try.prog 30 #[.pointer (some ⟨p, 0, none⟩)] w fun e w' => ∃ a cap, e = .returned (.slice a tl.length cap) ∧ BRow w' a tl.length cap tl ∧ New w w' := by
  have HM := Lib.hid (made_30 kd p n fs st tl long w hn h)
  obtain ⟨a, cap, hb, hr⟩ := h
  have k0 := cell_of_row _ _ 10 _ _ _ hb
  have HC := Lib.hid (clone_b _ _ _ _ _ hr)
  clear hb hr hn
  go_enter Try.func30, Try.ntmps30
  go_wp2_with fail
  refine HM.out.mono ?_
  rintro e w' ⟨rfl, rfl⟩
  go_wp2_with fail
  refine HC.out.mono ?_
  rintro e w2 ⟨a2, c2, rfl, hr2, _, hn2⟩
  have HR := Lib.hid hr2
  have HN := Lib.hid hn2
  clear hr2 hn2
  go_wp2
  go_ret
  exact ⟨_, _, rfl, HR.out, HN.out⟩
theorem state_n_30 (kd : Nat × Nat) (w : World) : Calls Try.prog 29 #[.pointer none] w fun e w' => e = .returned (.agg #[.int .u32 0, .int .u32 0, .int .u32 0, .int .u32 0]) ∧ New w w' := by
  go_enter Try.func29, Try.ntmps29
  go_wp2_with (refine (made_n_30 kd _).mono ?_; rintro e w' ⟨rfl, rfl⟩)
  go_returns
  first | exact ⟨rfl, ((New.refl w).alloc _).alloc _⟩ | exact ⟨rfl, ((((((New.refl w).alloc _).alloc _).setCell (Nat.le_refl _) _).setCell (Nat.le_refl _) _).setCell (Nat.le_refl _) _).setCell (Nat.le_refl _) _⟩
theorem state_30 (kd : Nat × Nat) (p n : Nat) (fs st : BitVec 32 × BitVec 32 × BitVec 32 × BitVec 32) (tl : List (BitVec 8)) (long : BitVec 64) (w : World) (hn : 1 ≤ n) (h : Strm_30 kd w p n fs st tl long) : Calls Try.prog 29 #[.pointer (some ⟨p, 0, none⟩)] w fun e w' => e = .returned (.agg #[.int .u32 (W32 (st.1)), .int .u32 (W32 (st.2.1)), .int .u32 (W32 (st.2.2.1)), .int .u32 (W32 (st.2.2.2))]) ∧ New w w' := by
  have HM := Lib.hid (fun w' hn' => made_30 kd p n fs st tl long w' hn (h.stay (w' := w') hn'))
  obtain ⟨a, cap, hb, hr⟩ := h
  have hb := (((New.refl w).alloc (.cells #[.int .u32 0, .int .u32 0, .int .u32 0, .int .u32 0] 52)).block _ (lt_of_block hb)).trans hb
  have hz := heap_alloc_new w (.cells #[.int .u32 0, .int .u32 0, .int .u32 0, .int .u32 0] 52)
  have k0 := cell_of_row _ _ 5 _ _ _ hb
  have k1 := cell_of_row _ _ 6 _ _ _ hb
  have k2 := cell_of_row _ _ 7 _ _ _ hb
  have k3 := cell_of_row _ _ 8 _ _ _ hb
  have r0 := cell_of_row _ _ 0 _ _ _ hz
  have r1 := cell_of_row _ _ 1 _ _ _ hz
  have r2 := cell_of_row _ _ 2 _ _ _ hz
  have r3 := cell_of_row _ _ 3 _ _ _ hz
  clear hb hr hn
  go_enter Try.func29, Try.ntmps29
  go_wp2_with fail
  refine (HM.out _ ((New.refl w).alloc _)).mono ?_
  rintro e w' ⟨rfl, rfl⟩
  go_wp2
  go_returns
  first | exact ⟨rfl, (New.refl w).alloc _⟩ | exact ⟨rfl, (((((New.refl w).alloc _).setCell (Nat.le_refl _) _).setCell (Nat.le_refl _) _).setCell (Nat.le_refl _) _).setCell (Nat.le_refl _) _⟩
set_option maxRecDepth 100000 in
set_option maxHeartbeats 2000000 in
theorem new_30 (kd : Nat × Nat) (fs : BitVec 32 × BitVec 32 × BitVec 32 × BitVec 32) (w : World) : Calls Try.prog 27 #[.int .i64 16, .agg #[.int .u32 (W32 (fs.1)), .int .u32 (W32 (fs.2.1)), .int .u32 (W32 (fs.2.2.1)), .int .u32 (W32 (fs.2.2.2))], (.func (Fn.func 45) #[] #[.pointer (some ⟨kd.1, 0, none⟩), .pointer (some ⟨kd.2, 0, none⟩)])] w fun e w' => ∃ p, e = .returned (.pointer (some ⟨p, 0, none⟩)) ∧ w.heap.size ≤ p ∧ Strm_30 kd w' p 16 fs fs [] 0#64 ∧ New w w' := by
  have HSZ : Hid (∀ w : World, Calls Try.prog 43 #[.int .i64 16] w fun e w' => e = .returned (.int .i64 16) ∧ w' = w) := Lib.hid fun w => size_of 16 w
  have HB0 := Lib.hid (heap_alloc_new w (.cells #[.int .u32 (W32 (fs.1)), .int .u32 (W32 (fs.2.1)), .int .u32 (W32 (fs.2.2.1)), .int .u32 (W32 (fs.2.2.2))] 52))
  go_enter Try.func27, Try.ntmps27
  go_wp2_with fail
  refine Gro2.wp_region_gro2S (fun w' => w'.heap[w.heap.size]? = some (.cells #[.int .u32 (W32 (fs.1)), .int .u32 (W32 (fs.2.1)), .int .u32 (W32 (fs.2.2.1)), .int .u32 (W32 (fs.2.2.2))] 52 (0, 0)) ∧ New w w') (fun w' => w'.heap[w.heap.size]? = some (.cells #[.int .u32 (W32 (fs.1)), .int .u32 (W32 (fs.2.1)), .int .u32 (W32 (fs.2.2.1)), .int .u32 (W32 (fs.2.2.2))] 52 (0, 0)) ∧ New w w') [0,2,1,1,0,0,2,0] (by kernel_rfl) (by kernel_rfl) (by kernel_rfl) (fun w' hw' => hw') (⟨HB0.out, ((New.refl w).alloc _).drew⟩) ?_
  intro I J _ _ f g hfa hba hgb hbb
  have HFA := Lib.hid hfa
  have HBA := Lib.hid hba
  have HGB := Lib.hid hgb
  have HBB := Lib.hid hbb
  have s0 := fun n => cell_of_row _ _ 0 _ _ _ (hgb n).1
  have s1 := fun n => cell_of_row _ _ 1 _ _ _ (hgb n).1
  have s2 := fun n => cell_of_row _ _ 2 _ _ _ (hgb n).1
  have s3 := fun n => cell_of_row _ _ 3 _ _ _ (hgb n).1
  clear hfa hba hgb hbb
  refine Gro2.take0 1 (by kernel_rfl) ?_
  simp only [List.take, List.drop, List.length]
  repeat (go_big_quiet_step (fail))
  refine wpQuiet_nil ?_
  refine Gro2.call (fun v => v = .int .i64 16) (fun _ _ => True) rfl rfl (⟨_, rfl⟩) (fun w1 hB hG => ?_) (fun v1 A1 hv1 hA => ?_)
  · obtain ⟨nq, rfl⟩ := hB
    go_simp
    refine (HSZ.out _).mono ?_
    rintro e w2 ⟨rfl, rfl⟩
    first | exact ⟨_, rfl, ⟨nq, rfl⟩, rfl, trivial, trivial⟩ | exact ⟨⟨nq, rfl⟩, rfl⟩ | exact ⟨rfl, ⟨nq, rfl⟩⟩ | exact ⟨nq, rfl⟩
  simp [Act.put] at hA
  subst hA
  obtain rfl := hv1
  refine Gro2.take1 2 (by kernel_rfl) ?_
  simp only [List.take, List.drop, List.length]
  repeat (go_big_quiet_step (fail))
  refine wpQuiet_nil ?_
  refine Gro2.take0 2 (by kernel_rfl) ?_
  simp only [List.take, List.drop, List.length]
  repeat (go_big_quiet_step (fail))
  refine wpQuiet_nil ?_
  refine Gro2.call (fun v => ∃ p, v = .pointer (some ⟨p, 0, none⟩)) (fun v w' => ∃ p, v = .pointer (some ⟨p, 0, none⟩) ∧ w.heap.size ≤ p ∧ Lies w' p (.cells #[.int .i64 16, .int .u32 (W32 (fs.1)), .int .u32 (W32 (fs.2.1)), .int .u32 (W32 (fs.2.2.1)), .int .u32 (W32 (fs.2.2.2)), .int .u32 (W32 (fs.1)), .int .u32 (W32 (fs.2.1)), .int .u32 (W32 (fs.2.2.1)), .int .u32 (W32 (fs.2.2.2)), (.func (Fn.func 45) #[] #[.pointer (some ⟨kd.1, 0, none⟩), .pointer (some ⟨kd.2, 0, none⟩)]), .slice none 0 0, .int .u64 0] 84)) rfl rfl (⟨_, 0, rfl⟩) (fun w1 hB hG => ?_) (fun v2 A2 hv2 hA => ?_)
  · obtain ⟨nq, rfl⟩ := hB
    have hz := heap_alloc_new (g nq) (.cells #[.int .i64 16, .int .u32 (W32 (fs.1)), .int .u32 (W32 (fs.2.1)), .int .u32 (W32 (fs.2.2.1)), .int .u32 (W32 (fs.2.2.2)), .int .u32 (W32 (fs.1)), .int .u32 (W32 (fs.2.1)), .int .u32 (W32 (fs.2.2.1)), .int .u32 (W32 (fs.2.2.2)), (.func (Fn.func 45) #[] #[.pointer (some ⟨kd.1, 0, none⟩), .pointer (some ⟨kd.2, 0, none⟩)]), .slice none 0 0, .int .u64 0] 84)
    have hal := (New.refl (g nq)).alloc (.cells #[.int .i64 16, .int .u32 (W32 (fs.1)), .int .u32 (W32 (fs.2.1)), .int .u32 (W32 (fs.2.2.1)), .int .u32 (W32 (fs.2.2.2)), .int .u32 (W32 (fs.1)), .int .u32 (W32 (fs.2.1)), .int .u32 (W32 (fs.2.2.1)), .int .u32 (W32 (fs.2.2.2)), (.func (Fn.func 45) #[] #[.pointer (some ⟨kd.1, 0, none⟩), .pointer (some ⟨kd.2, 0, none⟩)]), .slice none 0 0, .int .u64 0] 84)
    have HX := Lib.hid (HBB.out _ ⟨(hal.block _ (lt_of_block (HGB.out nq).1)).trans (HGB.out nq).1, (HGB.out nq).2.trans hal⟩)
    have HLE := Lib.hid ((HGB.out nq).2.le)
    have HZ := Lib.hid (show Lies _ _ _ from hz)
    clear hz hal
    go_simp
    first | exact ⟨HX.out, ⟨_, rfl, HLE.out, HZ.out⟩⟩ | exact ⟨HX.out, HLE.out, HZ.out⟩ | exact ⟨HX.out, ⟨_, rfl⟩, trivial, ⟨_, rfl, HLE.out, HZ.out⟩⟩
  simp [Act.put] at hA
  subst hA
  obtain ⟨p, rfl⟩ := hv2
  refine Gro2.take0 1 (by kernel_rfl) ?_
  simp only [List.take, List.drop, List.length]
  repeat (go_big_quiet_step (fail))
  refine wpQuiet_nil ?_
  refine Gro2.nil ?_
  rintro w9 ⟨n9, rfl⟩ hG
  have HN := Lib.hid (HGB.out n9).2
  obtain ⟨_, p2, e2, hle, hbx⟩ := hG
  cases e2
  have HX := Lib.hid hbx
  have HLE := Lib.hid hle
  clear HFA HBA HGB HBB hbx hle s0 s1 s2 s3
  generalize g n9 = w9 at *
  go_wp2
  go_ret
  exact ⟨p, rfl, HLE.out, ⟨none, 0, HX.out, brow_none _⟩, HN.out⟩
set_option maxRecDepth 100000 in
set_option maxHeartbeats 4000000 in
theorem write_30 (kd : Nat × Nat) (p : Nat) (fs st : BitVec 32 × BitVec 32 × BitVec 32 × BitVec 32) (tl : List (BitVec 8)) (long : BitVec 64) (b : Option Addr) (lb cb : Nat) (m : List (BitVec 8)) (w : World) (hs : Strm_30 kd w p 16 fs st tl long) (hm : BRow w b lb cb m) (hsum : tl.length + lb ≤ 140737488355328) (hf : Fun30 w kd) :
    Calls Try.prog 32 #[.pointer (some ⟨p, 0, none⟩), .slice b lb cb] w fun e w' => e = .returned (.tuple #[]) ∧ Strm_30 kd w' p 16 fs (bState 16 stp30 st (tl ++ m)) (bTail 16 (tl ++ m)) (long + BitVec.ofNat 64 lb) ∧ But p w w' := by
  have HM := Lib.hid (made_30 kd p 16 fs st tl long w (by omega) hs)
  have hlb := hm.len_eq
  have hlbm := hm.most
  obtain ⟨a, cap, hbx, hr⟩ := hs
  obtain ⟨L, hL⟩ : ∃ L, tl.length = L := ⟨_, rfl⟩
  rw [hL] at hbx hr hsum
  have HB := Lib.hid hbx
  have HR := Lib.hid hr
  have HMR := Lib.hid hm
  have HSUM := Lib.hid hsum
  have HNL : Hid ((bTail 16 (tl ++ m)).length = (L + lb) % 16) := Lib.hid (by rw [bTail_len, List.length_append, hL, hlb])
  have HPS := Lib.hid (fun (w' : World) r c (hrw : BRow w' r (L + lb) c (tl ++ m)) (hn : New w w') => pass_30 kd st r (L + lb) c (tl ++ m) w' hrw (hf.stay hn))
  clear hbx hr hm hsum hlb hL hf
  generalize (bState 16 stp30 st (tl ++ m)) = nst at *
  generalize (bTail 16 (tl ++ m)) = ntl at *
  go_enter Try.func32, Try.ntmps32
  go_wp2_with fail
  refine HM.out.mono ?_
  rintro e w9 ⟨rfl, rfl⟩
  clear HM
  go_wp2_with fail
  refine Gro2.wp_region_gro2S (fun w' => (∃ (u0 u1 u2 u3 ta lo : Value), w'.heap[p]? = some (.cells #[.int .i64 16, .int .u32 (W32 (fs.1)), .int .u32 (W32 (fs.2.1)), .int .u32 (W32 (fs.2.2.1)), .int .u32 (W32 (fs.2.2.2)), u0, u1, u2, u3, (.func (Fn.func 45) #[] #[.pointer (some ⟨kd.1, 0, none⟩), .pointer (some ⟨kd.2, 0, none⟩)]), ta, lo] 84 (0, 0))) ∧ But p w9 w') (fun w' => w'.heap[p]? = some (.cells #[.int .i64 16, .int .u32 (W32 (fs.1)), .int .u32 (W32 (fs.2.1)), .int .u32 (W32 (fs.2.2.1)), .int .u32 (W32 (fs.2.2.2)), .int .u32 (W32 (st.1)), .int .u32 (W32 (st.2.1)), .int .u32 (W32 (st.2.2.1)), .int .u32 (W32 (st.2.2.2)), (.func (Fn.func 45) #[] #[.pointer (some ⟨kd.1, 0, none⟩), .pointer (some ⟨kd.2, 0, none⟩)]), .slice a (L : Nat) cap, .int .u64 (W64 long)] 84 (0, 0)) ∧ New w9 w') [0,0,0,0,0,1, 0,0,0,1, 0,0,0,1, 0,0,0,1, 0,2,2,2, 0,0,0, 0,0,3, 0,0,3] (by kernel_rfl) (by kernel_rfl) (by kernel_rfl) (fun w' hw' => ⟨⟨_, _, _, _, _, _, hw'.1⟩, But.of_new hw'.2⟩) (⟨HB.out, (New.refl _).drew⟩) ?_
  intro I J _ _ f g hfa hba hgb hbb
  have HFA := Lib.hid hfa
  have HBA := Lib.hid hba
  have HGB := Lib.hid hgb
  have HBB := Lib.hid hbb
  have s0 := fun n => cell_of_row _ _ 0 _ _ _ (hgb n).1
  have s5 := fun n => cell_of_row _ _ 5 _ _ _ (hgb n).1
  have s6 := fun n => cell_of_row _ _ 6 _ _ _ (hgb n).1
  have s7 := fun n => cell_of_row _ _ 7 _ _ _ (hgb n).1
  have s8 := fun n => cell_of_row _ _ 8 _ _ _ (hgb n).1
  have s9 := fun n => cell_of_row _ _ 9 _ _ _ (hgb n).1
  have s10 := fun n => cell_of_row _ _ 10 _ _ _ (hgb n).1
  clear hfa hba hgb hbb
  refine Gro2.take0 3 (by kernel_rfl) ?_
  simp only [List.take, List.drop, List.length]
  repeat (go_big_quiet_step (fail))
  refine wpQuiet_nil ?_
  refine Gro2.check (.tmp 10) (⟨p, 0, none⟩) rfl rfl rfl rfl (fun A1 hA => ?_)
  simp [Act.put] at hA
  subst hA
  refine Gro2.take0 1 (by kernel_rfl) ?_
  simp only [List.take, List.drop, List.length]
  repeat (go_big_quiet_step (fail))
  refine wpQuiet_nil ?_
  refine Gro2.take1 1 (by kernel_rfl) ?_
  simp only [List.take, List.drop, List.length]
  repeat (go_big_quiet_step (fail))
  refine wpQuiet_nil ?_
  refine Gro2.take0 1 (by kernel_rfl) ?_
  simp only [List.take, List.drop, List.length]
  repeat (go_big_quiet_step (fail))
  refine wpQuiet_nil ?_
  refine Gro2.check (.tmp 14) (⟨p, 0, none⟩) rfl rfl rfl rfl (fun A2 hA => ?_)
  simp [Act.put] at hA
  subst hA
  refine Gro2.take0 1 (by kernel_rfl) ?_
  simp only [List.take, List.drop, List.length]
  repeat (go_big_quiet_step (fail))
  refine wpQuiet_nil ?_
  refine Gro2.take1 1 (by kernel_rfl) ?_
  simp only [List.take, List.drop, List.length]
  repeat (go_big_quiet_step (fail))
  refine wpQuiet_nil ?_
  refine Gro2.take0 1 (by kernel_rfl) ?_
  simp only [List.take, List.drop, List.length]
  repeat (go_big_quiet_step (fail))
  refine wpQuiet_nil ?_
  refine Gro2.check (.tmp 18) (⟨p, 0, none⟩) rfl rfl rfl rfl (fun A3 hA => ?_)
  simp [Act.put] at hA
  subst hA
  refine Gro2.take0 1 (by kernel_rfl) ?_
  simp only [List.take, List.drop, List.length]
  repeat (go_big_quiet_step (fail))
  refine wpQuiet_nil ?_
  refine Gro2.take1 1 (by kernel_rfl) ?_
  simp only [List.take, List.drop, List.length]
  repeat (go_big_quiet_step (fail))
  refine wpQuiet_nil ?_
  refine Gro2.take0 1 (by kernel_rfl) ?_
  simp only [List.take, List.drop, List.length]
  repeat (go_big_quiet_step (fail))
  refine wpQuiet_nil ?_
  refine Gro2.check (.tmp 22) (⟨p, 0, none⟩) rfl rfl rfl rfl (fun A4 hA => ?_)
  simp [Act.put] at hA
  subst hA
  refine Gro2.take0 1 (by kernel_rfl) ?_
  simp only [List.take, List.drop, List.length]
  repeat (go_big_quiet_step (fail))
  refine wpQuiet_nil ?_
  refine Gro2.take1 1 (by kernel_rfl) ?_
  simp only [List.take, List.drop, List.length]
  repeat (go_big_quiet_step (fail))
  refine wpQuiet_nil ?_
  refine Gro2.take0 1 (by kernel_rfl) ?_
  simp only [List.take, List.drop, List.length]
  repeat (go_big_quiet_step (fail))
  refine wpQuiet_nil ?_
  refine Gro2.callt (fun v => ∃ q, v = .slice (some ⟨q, 0, none⟩) 2 2) (fun v w' => ∃ q, v = .slice (some ⟨q, 0, none⟩) 2 2 ∧ Lies w' q (.cells #[.slice a (L : Nat) cap, .slice b lb cb] 23 (0, 0))) rfl rfl (⟨_, 0, rfl⟩) (fun w1 hB hG => ?_) (fun v5 A5 hv5 hA => ?_)
  · obtain ⟨nq, rfl⟩ := hB
    have hal := (New.refl (g nq)).alloc (.cells #[.slice a (L : Nat) cap, .slice b lb cb] 23)
    have HX := Lib.hid (HBB.out _ ⟨(hal.block _ (lt_of_block (HGB.out nq).1)).trans (HGB.out nq).1, (HGB.out nq).2.trans hal⟩)
    have HZ := Lib.hid (show Lies _ _ _ from heap_alloc_new (g nq) (.cells #[.slice a (L : Nat) cap, .slice b lb cb] 23))
    clear hal s0 s5 s6 s7 s8 s9 s10
    go_simp
    first | exact ⟨HX.out, HZ.out⟩ | exact ⟨HX.out, ⟨_, rfl, HZ.out⟩⟩ | exact ⟨HX.out, ⟨_, rfl⟩, ⟨_, rfl, HZ.out⟩⟩
  simp [Act.put] at hA
  subst hA
  obtain ⟨q1, rfl⟩ := hv5
  refine Gro2.callt (fun v => ∃ r c, v = .slice r (L + lb : Nat) c) (fun v w' => ∃ r c, v = .slice r (L + lb : Nat) c ∧ BRow w' r (L + lb) c (tl ++ m)) rfl rfl (⟨_, none, 0, rfl⟩) (fun w1 hB hG => ?_) (fun v6 A6 hv6 hA => ?_)
  · obtain ⟨nq, rfl⟩ := hB
    obtain ⟨q2, e2, hz⟩ := hG
    cases e2
    have HZ := Lib.hid hz
    clear hz s0 s5 s6 s7 s8 s9 s10
    go_simp
    refine (concat_b q1 _ _ _ _ _ _ _ _ _ HZ.out (HR.out.stay (HGB.out nq).2) (HMR.out.stay (HGB.out nq).2) HSUM.out).mono ?_
    rintro e w2 ⟨r, c, rfl, hrow, hfr, hn⟩
    have HX := HBB.out _ ⟨(hn.block _ (lt_of_block (HGB.out nq).1)).trans (HGB.out nq).1, (HGB.out nq).2.trans hn⟩
    exact ⟨_, rfl, HX, ⟨_, _, rfl⟩, ⟨_, _, rfl, hrow⟩⟩
  simp [Act.put] at hA
  subst hA
  obtain ⟨r2, c2, rfl⟩ := hv6
  refine Gro2.callt (fun v => ∃ r c, v = .tuple #[.agg #[.int .u32 (W32 (nst.1)), .int .u32 (W32 (nst.2.1)), .int .u32 (W32 (nst.2.2.1)), .int .u32 (W32 (nst.2.2.2))], .slice r ((L + lb) % 16 : Nat) c]) (fun v w' => ∃ r c, v = .tuple #[.agg #[.int .u32 (W32 (nst.1)), .int .u32 (W32 (nst.2.1)), .int .u32 (W32 (nst.2.2.1)), .int .u32 (W32 (nst.2.2.2))], .slice r ((L + lb) % 16 : Nat) c] ∧ BRow w' r ((L + lb) % 16) c ntl ∧ ∀ y, r = some y → p < y.block) rfl rfl (⟨_, none, 0, rfl⟩) (fun w1 hB hG => ?_) (fun v7 A7 hv7 hA => ?_)
  · obtain ⟨nq, rfl⟩ := hB
    obtain ⟨r3, c3, e2, hz⟩ := hG
    cases e2
    have HZ := Lib.hid hz
    clear hz s0 s5 s6 s7 s8 s9 s10
    go_simp
    refine (HPS.out _ _ _ HZ.out (HGB.out nq).2).mono ?_
    rintro e w2 ⟨r, c, rfl, hrow, hfr, hn⟩
    have HX := HBB.out _ ⟨(hn.block _ (lt_of_block (HGB.out nq).1)).trans (HGB.out nq).1, (HGB.out nq).2.trans hn⟩
    have hlt := lt_of_block (HGB.out nq).1
    have HR2 : ∀ y, r = some y → p < y.block := fun y e => by have := hfr y e; omega
    exact ⟨_, rfl, HX, ⟨_, _, rfl⟩, ⟨_, _, rfl, hrow, HR2⟩⟩
  simp [Act.put] at hA
  subst hA
  obtain ⟨r3, c3, rfl⟩ := hv7
  refine Gro2.take0 3 (by kernel_rfl) ?_
  simp only [List.take, List.drop, List.length]
  repeat (go_big_quiet_step (fail))
  refine wpQuiet_nil ?_
  refine Gro2.check (.tmp 8) (⟨p, 0, none⟩) rfl rfl rfl rfl (fun A8 hA => ?_)
  simp [Act.put] at hA
  subst hA
  refine Gro2.take0 1 (by kernel_rfl) ?_
  simp only [List.take, List.drop, List.length]
  repeat (go_big_quiet_step (fail))
  refine wpQuiet_nil ?_
  refine Gro2.turn (fun v => v = undef) (fun _ w9 => Lies w9 p (.cells #[.int .i64 16, .int .u32 (W32 (fs.1)), .int .u32 (W32 (fs.2.1)), .int .u32 (W32 (fs.2.2.1)), .int .u32 (W32 (fs.2.2.2)), .int .u32 (W32 (nst.1)), .int .u32 (W32 (nst.2.1)), .int .u32 (W32 (nst.2.2.1)), .int .u32 (W32 (nst.2.2.2)), (.func (Fn.func 45) #[] #[.pointer (some ⟨kd.1, 0, none⟩), .pointer (some ⟨kd.2, 0, none⟩)]), .slice a (L : Nat) cap, .int .u64 (W64 long)] 84 (0, 0)) ∧ BRow w9 r3 ((L + lb) % 16) c3 ntl ∧ ∀ y, r3 = some y → p < y.block) rfl rfl ⟨_, rfl⟩ (fun w1 hB hG => ?_) (fun v9 A9 hv9 hA => ?_)
  · obtain ⟨nq, rfl⟩ : ∃ nq, w1 = g nq := hB
    obtain ⟨r4, c4, e2, hrow, hfr⟩ := hG
    cases e2
    have HX := Lib.hid (HGB.out nq)
    have c5 := cell_of_row _ _ 5 _ _ _ HX.out.1
    have c6 := cell_of_row _ _ 6 _ _ _ HX.out.1
    have c7 := cell_of_row _ _ 7 _ _ _ HX.out.1
    have c8 := cell_of_row _ _ 8 _ _ _ HX.out.1
    have cf := fun i => frozen_of_row _ _ i _ _ HX.out.1
    have HP := Lib.hid (puts_30 (.int .u32 (W32 (nst.1))) (.int .u32 (W32 (nst.2.1))) (.int .u32 (W32 (nst.2.2.1))) (.int .u32 (W32 (nst.2.2.2))) HX.out.1)
    have HROW := Lib.hid (hrow.but (by simp) (fun y e _ => HP.out.2.1 _ (by have := hfr y e; omega)))
    have HFR := Lib.hid hfr
    have HLI := Lib.hid (show Lies _ _ _ from HP.out.1)
    clear hrow hfr s0 s5 s6 s7 s8 s9 s10
    go_simp
    exact ⟨HBA.out _ ⟨⟨_, _, _, _, _, _, HP.out.1⟩, HP.out.2.2 _ (But.of_new HX.out.2)⟩, HLI.out, HROW.out, HFR.out⟩
  simp [Act.put] at hA
  subst hA
  refine Gro2.check (.tmp 9) (⟨p, 0, none⟩) rfl rfl rfl rfl (fun A10 hA => ?_)
  simp [Act.put] at hA
  subst hA
  refine Gro2.take0 1 (by kernel_rfl) ?_
  simp only [List.take, List.drop, List.length]
  repeat (go_big_quiet_step (fail))
  refine wpQuiet_nil ?_
  refine Gro2.turn (fun v => v = undef) (fun _ w9 => Lies w9 p (.cells #[.int .i64 16, .int .u32 (W32 (fs.1)), .int .u32 (W32 (fs.2.1)), .int .u32 (W32 (fs.2.2.1)), .int .u32 (W32 (fs.2.2.2)), .int .u32 (W32 (nst.1)), .int .u32 (W32 (nst.2.1)), .int .u32 (W32 (nst.2.2.1)), .int .u32 (W32 (nst.2.2.2)), (.func (Fn.func 45) #[] #[.pointer (some ⟨kd.1, 0, none⟩), .pointer (some ⟨kd.2, 0, none⟩)]), .slice r3 ((L + lb) % 16 : Nat) c3, .int .u64 (W64 long)] 84 (0, 0)) ∧ BRow w9 r3 ((L + lb) % 16) c3 ntl) rfl rfl ⟨_, rfl⟩ (fun w1 hB hG => ?_) (fun v11 A11 hv11 hA => ?_)
  · obtain ⟨nq, rfl⟩ : ∃ nq, w1 = f nq := hB
    obtain ⟨hli, hrow, hfr⟩ := hG
    have HX := Lib.hid (HFA.out nq)
    have HLI0 := Lib.hid hli
    have c0 := cell_of_row _ _ 10 _ _ _ HLI0.out
    have cf := fun i => frozen_of_row _ _ i _ _ HLI0.out
    have HP := Lib.hid (putt_30 (.slice r3 ((L + lb) % 16 : Nat) c3) HLI0.out)
    have HROW := Lib.hid (hrow.but (by simp) (fun y e _ => HP.out.2.1 _ (by have := hfr y e; omega)))
    have HLI := Lib.hid (show Lies _ _ _ from HP.out.1)
    clear hrow hfr hli s0 s5 s6 s7 s8 s9 s10
    go_simp
    exact ⟨HBA.out _ ⟨⟨_, _, _, _, _, _, HP.out.1⟩, HP.out.2.2 _ HX.out.2⟩, HLI.out, HROW.out⟩
  simp [Act.put] at hA
  subst hA
  refine Gro2.nil ?_
  rintro w9 ⟨n9, rfl⟩ hG
  obtain ⟨hli, hrow⟩ := hG
  have HBUT := Lib.hid (HFA.out n9).2
  have HLI := Lib.hid hli
  have HROW := Lib.hid hrow
  have c0 := cell_of_row _ _ 11 _ _ _ hli
  have cf := fun i => frozen_of_row _ _ i _ _ hli
  clear HFA HBA HGB HBB hli hrow s0 s5 s6 s7 s8 s9 s10
  generalize f n9 = w9 at *
  have HP := Lib.hid (putl_30 (.int .u64 (W64 (long + BitVec.ofNat 64 lb))) HLI.out)
  go_wp2
  go_end0
  refine ⟨rfl, ⟨r3, c3, ?_, ?_⟩, HP.out.2.2 _ HBUT.out⟩
  · rw [HNL.out]; exact HP.out.1
  · rw [HNL.out]; exact HROW.out.but (by simp) (fun y e h0 => HP.out.2.1 _ (HROW.out.apart ⟨_, _, _, HLI.out, by simp⟩ y e h0))
end Go.Proofs.Ytnapogamcohfaaa
