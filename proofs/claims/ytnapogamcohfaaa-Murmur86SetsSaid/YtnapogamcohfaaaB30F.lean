/- The block's contracts of layer 30: Reset, Clone, Set, Fold. -/
import Derived.Test.YtnapogamcohfaaaB30C
import Derived.Defers
import Derived.Recover
import Derived.Laws.Pointers
import Derived.Handy
import Derived.Laws.EntriesVeiled
namespace Go.Bv
open Go Go.RowKit
theorem putr_30 {w : World} {q : Nat} {c0 c1 c2 c3 c4 c5 c6 c7 c8 c9 c10 c11 : Value} {T : TypeId} (v0 v1 v2 v3 v4 v5 : Value) (h : w.heap[q]? = some (.cells #[c0, c1, c2, c3, c4, c5, c6, c7, c8, c9, c10, c11] T (0, 0))) :
    ((((((w.setCell ⟨q, 5, none⟩ v0).setCell ⟨q, 6, none⟩ v1).setCell ⟨q, 7, none⟩ v2).setCell ⟨q, 8, none⟩ v3).setCell ⟨q, 10, none⟩ v4).setCell ⟨q, 11, none⟩ v5).heap[q]? = some (.cells #[c0, c1, c2, c3, c4, v0, v1, v2, v3, c9, v4, v5] T (0, 0)) ∧ (∀ u : World, But q u w → But q u ((((((w.setCell ⟨q, 5, none⟩ v0).setCell ⟨q, 6, none⟩ v1).setCell ⟨q, 7, none⟩ v2).setCell ⟨q, 8, none⟩ v3).setCell ⟨q, 10, none⟩ v4).setCell ⟨q, 11, none⟩ v5)) := by
  refine ⟨?_, fun u hu => ?_⟩
  · have h0 := heap_setCell_same w q 5 _ _ v0 h
    have h1 := heap_setCell_same _ q 6 _ _ v1 h0
    have h2 := heap_setCell_same _ q 7 _ _ v2 h1
    have h3 := heap_setCell_same _ q 8 _ _ v3 h2
    have h4 := heap_setCell_same _ q 10 _ _ v4 h3
    have h5 := heap_setCell_same _ q 11 _ _ v5 h4
    exact h5
  · exact (((((hu.setCell rfl _).setCell rfl _).setCell rfl _).setCell rfl _).setCell rfl _).setCell rfl _
end Go.Bv
namespace Go.Proofs.Ytnapogamcohfaaa
open Go.RowKit Go.Bv
set_option linter.unusedVariables false
theorem reset_n_30 (kd : Nat × Nat) (w : World) : Calls Try.prog 33 #[.pointer none] w fun e w' => e = .returned (.tuple #[]) ∧ w' = w := by
  go_enter Try.func33, Try.ntmps33
  go_wp2_with (refine (made_n_30 kd _).mono ?_; rintro e w' ⟨rfl, rfl⟩)
  go_end0
  exact ⟨rfl, rfl⟩
theorem write_n_30 (kd : Nat × Nat) (v : Value) (w : World) : Calls Try.prog 32 #[.pointer none, v] w fun e w' => e = .returned (.tuple #[]) ∧ w' = w := by
  go_enter Try.func32, Try.ntmps32
  go_wp2_with (refine (made_n_30 kd _).mono ?_; rintro e w' ⟨rfl, rfl⟩)
  first | go_end0 | refine bodyPost_ret (results_none rfl _ _ _) rfl ?_
  exact ⟨rfl, rfl⟩
theorem clone_n_30 (kd : Nat × Nat) (w : World) : Calls Try.prog 38 #[.pointer none] w fun e w' => e = .returned (.pointer none) ∧ w' = w := by
  go_enter Try.func38, Try.ntmps38
  go_wp2_with (refine (made_n_30 kd _).mono ?_; rintro e w' ⟨rfl, rfl⟩)
  go_ret
  exact ⟨rfl, rfl⟩
set_option maxHeartbeats 1000000 in
theorem reset_30 (kd : Nat × Nat) (p : Nat) (fs st : BitVec 32 × BitVec 32 × BitVec 32 × BitVec 32) (tl : List (BitVec 8)) (long : BitVec 64) (w : World) (hs : Strm_30 kd w p 16 fs st tl long) :
    Calls Try.prog 33 #[.pointer (some ⟨p, 0, none⟩)] w fun e w' => e = .returned (.tuple #[]) ∧ Strm_30 kd w' p 16 fs fs [] 0#64 ∧ But p w w' := by
  have HM := Lib.hid (made_30 kd p 16 fs st tl long w (by omega) hs)
  obtain ⟨a, cap, hbx, hr⟩ := hs
  have c1 := cell_of_row _ _ 1 _ _ _ hbx
  have c2 := cell_of_row _ _ 2 _ _ _ hbx
  have c3 := cell_of_row _ _ 3 _ _ _ hbx
  have c4 := cell_of_row _ _ 4 _ _ _ hbx
  have c5 := cell_of_row _ _ 5 _ _ _ hbx
  have c6 := cell_of_row _ _ 6 _ _ _ hbx
  have c7 := cell_of_row _ _ 7 _ _ _ hbx
  have c8 := cell_of_row _ _ 8 _ _ _ hbx
  have c10 := cell_of_row _ _ 10 _ _ _ hbx
  have c11 := cell_of_row _ _ 11 _ _ _ hbx
  have cf := fun i => frozen_of_row _ _ i _ _ hbx
  have HP := Lib.hid (putr_30 (.int .u32 (W32 (fs.1))) (.int .u32 (W32 (fs.2.1))) (.int .u32 (W32 (fs.2.2.1))) (.int .u32 (W32 (fs.2.2.2))) (.slice none 0 0) (.int .u64 0) hbx)
  clear hbx hr
  go_enter Try.func33, Try.ntmps33
  go_wp2_with fail
  refine HM.out.mono ?_
  rintro e w9 ⟨rfl, rfl⟩
  go_wp2
  go_end0
  exact ⟨rfl, ⟨none, 0, HP.out.1, brow_none _⟩, HP.out.2 _ (But.refl _ _)⟩
set_option maxRecDepth 100000 in
set_option maxHeartbeats 1000000 in
theorem sclone_30 (kd : Nat × Nat) (p : Nat) (fs st : BitVec 32 × BitVec 32 × BitVec 32 × BitVec 32) (tl : List (BitVec 8)) (long : BitVec 64) (w : World) (hs : Strm_30 kd w p 16 fs st tl long) :
    Calls Try.prog 38 #[.pointer (some ⟨p, 0, none⟩)] w fun e w' => ∃ q, e = .returned (.pointer (some ⟨q, 0, none⟩)) ∧ w.heap.size ≤ q ∧ Strm_30 kd w' q 16 fs st tl long ∧ New w w' := by
  have HM := Lib.hid (made_30 kd p 16 fs st tl long w (by omega) hs)
  obtain ⟨a, cap, hbx, hr⟩ := hs
  have c0 := cell_of_row _ _ 0 _ _ _ hbx
  have c1 := cell_of_row _ _ 1 _ _ _ hbx
  have c2 := cell_of_row _ _ 2 _ _ _ hbx
  have c3 := cell_of_row _ _ 3 _ _ _ hbx
  have c4 := cell_of_row _ _ 4 _ _ _ hbx
  have c5 := cell_of_row _ _ 5 _ _ _ hbx
  have c6 := cell_of_row _ _ 6 _ _ _ hbx
  have c7 := cell_of_row _ _ 7 _ _ _ hbx
  have c8 := cell_of_row _ _ 8 _ _ _ hbx
  have c9 := cell_of_row _ _ 9 _ _ _ hbx
  have c10 := cell_of_row _ _ 10 _ _ _ hbx
  have c11 := cell_of_row _ _ 11 _ _ _ hbx
  have HBX := Lib.hid hbx
  have HAL := Lib.hid (heap_alloc_new w (.cells #[.int .i64 16, .int .u32 (W32 (fs.1)), .int .u32 (W32 (fs.2.1)), .int .u32 (W32 (fs.2.2.1)), .int .u32 (W32 (fs.2.2.2)), .int .u32 (W32 (st.1)), .int .u32 (W32 (st.2.1)), .int .u32 (W32 (st.2.2.1)), .int .u32 (W32 (st.2.2.2)), (.func (Fn.func 45) #[] #[.pointer (some ⟨kd.1, 0, none⟩), .pointer (some ⟨kd.2, 0, none⟩)]), .slice a (tl.length : Nat) cap, .int .u64 (W64 long)] 84 (0, 0)))
  have hal := (New.refl w).alloc (.cells #[.int .i64 16, .int .u32 (W32 (fs.1)), .int .u32 (W32 (fs.2.1)), .int .u32 (W32 (fs.2.2.1)), .int .u32 (W32 (fs.2.2.2)), .int .u32 (W32 (st.1)), .int .u32 (W32 (st.2.1)), .int .u32 (W32 (st.2.2.1)), .int .u32 (W32 (st.2.2.2)), (.func (Fn.func 45) #[] #[.pointer (some ⟨kd.1, 0, none⟩), .pointer (some ⟨kd.2, 0, none⟩)]), .slice a (tl.length : Nat) cap, .int .u64 (W64 long)] 84 (0, 0))
  have HCL := Lib.hid (fun w' (hn : New w w') => clone_b _ _ _ _ w' (hr.stay hn))
  have c10a := cell_of_row _ _ 10 _ _ _ ((hal.block _ (lt_of_block hbx)).trans hbx)
  have HNA := Lib.hid hal
  clear hbx hr hal
  go_enter Try.func38, Try.ntmps38
  go_wp2_with fail
  refine HM.out.mono ?_
  rintro e w9 ⟨rfl, rfl⟩
  go_wp2_with fail
  refine (HCL.out _ HNA.out).mono ?_
  rintro e w3 ⟨a2, c2, rfl, hrow, hfr, hn⟩
  have hb2 := (hn.block _ (lt_of_block HAL.out)).trans HAL.out
  have k0 := cell_of_row _ _ 10 _ _ _ hb2
  have kf := fun i => frozen_of_row _ _ i _ _ hb2
  have HP := Lib.hid (putt_30 (.slice a2 (tl.length : Nat) c2) hb2)
  have HROW := Lib.hid (hrow.but (w' := w3.setCell ⟨w9.heap.size, 10, none⟩ (.slice a2 (tl.length : Nat) c2)) (by simp) (fun y e _ => HP.out.2.1 _ (by have := hfr y e; have := lt_of_block HAL.out; omega)))
  have HN := Lib.hid (HNA.out.trans hn)
  clear hb2 hrow hfr hn
  go_wp2
  go_ret
  exact ⟨_, rfl, Nat.le_refl _, ⟨a2, c2, HP.out.1, HROW.out⟩, HN.out.setCell (Nat.le_refl _) _⟩
set_option maxRecDepth 100000 in
set_option maxHeartbeats 4000000 in
theorem setn_30 (kd : Nat × Nat) (p : Nat) (fs st : BitVec 32 × BitVec 32 × BitVec 32 × BitVec 32) (tl : List (BitVec 8)) (long : BitVec 64) (s2 : BitVec 32 × BitVec 32 × BitVec 32 × BitVec 32) (long2 : BitVec 64) (b : Option Addr) (lb cb : Nat) (m : List (BitVec 8)) (w : World) (hs : Strm_30 kd w p 16 fs st tl long) (hm : BRow w b lb cb m)
    (hfit : (BitVec.ofNat 64 lb != long2 % 16#64) = true) :
    Calls Try.prog 37 #[.pointer (some ⟨p, 0, none⟩), .agg #[.int .u32 (W32 (s2.1)), .int .u32 (W32 (s2.2.1)), .int .u32 (W32 (s2.2.2.1)), .int .u32 (W32 (s2.2.2.2))], .int .u64 (W64 long2), .slice b lb cb] w fun e w' => e = .returned (.bool false) ∧ New w w' := by
  have hn1 : 1 ≤ 16 := by omega
  have HM := Lib.hid (fun w' hn' => made_30 kd p 16 fs st tl long w' hn1 (hs.stay (w' := w') hn'))
  obtain ⟨a, cap, hbx, hr⟩ := hs
  have hlt := lt_of_block hbx
  have hal := (New.refl w).alloc (.cells #[.int .u32 (W32 (s2.1)), .int .u32 (W32 (s2.2.1)), .int .u32 (W32 (s2.2.2.1)), .int .u32 (W32 (s2.2.2.2))] 52)
  have HB0 := Lib.hid (heap_alloc_new w (.cells #[.int .u32 (W32 (s2.1)), .int .u32 (W32 (s2.2.1)), .int .u32 (W32 (s2.2.2.1)), .int .u32 (W32 (s2.2.2.2))] 52))
  have hb2 := (hal.block _ hlt).trans hbx
  have k0 := cell_of_row _ _ 0 _ _ _ hb2
  have HB := Lib.hid hb2
  have HAL := Lib.hid hal
  have HML := Lib.hid hm.len_eq
  clear hbx hr hb2 hal hm hlt
  go_enter Try.func37, Try.ntmps37
  go_wp2_with fail
  refine (HM.out _ HAL.out).mono ?_
  rintro e w9 ⟨rfl, rfl⟩
  go_wp2
  go_ret
  exact ⟨rfl, HAL.out⟩
set_option maxRecDepth 100000 in
set_option maxHeartbeats 4000000 in
theorem sety_30 (kd : Nat × Nat) (p : Nat) (fs st : BitVec 32 × BitVec 32 × BitVec 32 × BitVec 32) (tl : List (BitVec 8)) (long : BitVec 64) (s2 : BitVec 32 × BitVec 32 × BitVec 32 × BitVec 32) (long2 : BitVec 64) (b : Option Addr) (lb cb : Nat) (m : List (BitVec 8)) (w : World) (hs : Strm_30 kd w p 16 fs st tl long) (hm : BRow w b lb cb m)
    (hfit : (BitVec.ofNat 64 lb != long2 % 16#64) = false) :
    Calls Try.prog 37 #[.pointer (some ⟨p, 0, none⟩), .agg #[.int .u32 (W32 (s2.1)), .int .u32 (W32 (s2.2.1)), .int .u32 (W32 (s2.2.2.1)), .int .u32 (W32 (s2.2.2.2))], .int .u64 (W64 long2), .slice b lb cb] w fun e w' => e = .returned (.bool true) ∧ Strm_30 kd w' p 16 fs s2 m long2 ∧ But p w w' := by
  have hn1 : 1 ≤ 16 := by omega
  have HM := Lib.hid (fun w' hn' => made_30 kd p 16 fs st tl long w' hn1 (hs.stay (w' := w') hn'))
  obtain ⟨a, cap, hbx, hr⟩ := hs
  have hlt := lt_of_block hbx
  have hal := (New.refl w).alloc (.cells #[.int .u32 (W32 (s2.1)), .int .u32 (W32 (s2.2.1)), .int .u32 (W32 (s2.2.2.1)), .int .u32 (W32 (s2.2.2.2))] 52)
  have HB0 := Lib.hid (heap_alloc_new w (.cells #[.int .u32 (W32 (s2.1)), .int .u32 (W32 (s2.2.1)), .int .u32 (W32 (s2.2.2.1)), .int .u32 (W32 (s2.2.2.2))] 52))
  have hb2 := (hal.block _ hlt).trans hbx
  have k0 := cell_of_row _ _ 0 _ _ _ hb2
  have HB := Lib.hid hb2
  have HAL := Lib.hid hal
  have HML := Lib.hid hm.len_eq
  obtain ⟨T, hT⟩ : ∃ T, tl.length = T := ⟨_, rfl⟩
  rw [hT] at HB
  have HMR := Lib.hid (hm.stay hal)
  have HPL := Lib.hid (show p < w.heap.size from hlt)
  clear hbx hr hb2 hal hm hlt hT
  go_enter Try.func37, Try.ntmps37
  go_wp2_with fail
  refine (HM.out _ HAL.out).mono ?_
  rintro e w9 ⟨rfl, rfl⟩
  go_wp2_with fail
  refine Gro2.wp_region_gro2S (fun w' => (∃ (u0 u1 u2 u3 ta lo : Value), w'.heap[p]? = some (.cells #[.int .i64 16, .int .u32 (W32 (fs.1)), .int .u32 (W32 (fs.2.1)), .int .u32 (W32 (fs.2.2.1)), .int .u32 (W32 (fs.2.2.2)), u0, u1, u2, u3, (.func (Fn.func 45) #[] #[.pointer (some ⟨kd.1, 0, none⟩), .pointer (some ⟨kd.2, 0, none⟩)]), ta, lo] 84 (0, 0))) ∧ But p (w.alloc (.cells #[.int .u32 (W32 (s2.1)), .int .u32 (W32 (s2.2.1)), .int .u32 (W32 (s2.2.2.1)), .int .u32 (W32 (s2.2.2.2))] 52)) w') (fun w' => w'.heap[p]? = some (.cells #[.int .i64 16, .int .u32 (W32 (fs.1)), .int .u32 (W32 (fs.2.1)), .int .u32 (W32 (fs.2.2.1)), .int .u32 (W32 (fs.2.2.2)), .int .u32 (W32 (st.1)), .int .u32 (W32 (st.2.1)), .int .u32 (W32 (st.2.2.1)), .int .u32 (W32 (st.2.2.2)), (.func (Fn.func 45) #[] #[.pointer (some ⟨kd.1, 0, none⟩), .pointer (some ⟨kd.2, 0, none⟩)]), .slice a (T : Nat) cap, .int .u64 (W64 long)] 84 (0, 0)) ∧ w'.heap[w.heap.size]? = some (.cells #[.int .u32 (W32 (s2.1)), .int .u32 (W32 (s2.2.1)), .int .u32 (W32 (s2.2.2.1)), .int .u32 (W32 (s2.2.2.2))] 52 (0, 0)) ∧ New (w.alloc (.cells #[.int .u32 (W32 (s2.1)), .int .u32 (W32 (s2.2.1)), .int .u32 (W32 (s2.2.2.1)), .int .u32 (W32 (s2.2.2.2))] 52)) w') [0,0,0,1,0,0,2,0,0,3,0,0,3,0,0,3] (by kernel_rfl) (by kernel_rfl) (by kernel_rfl) (fun w' hw' => ⟨⟨_, _, _, _, _, _, hw'.1⟩, But.of_new hw'.2.2⟩) (⟨HB.out, HB0.out, (New.refl _).drew⟩) ?_
  intro I J _ _ f g hfa hba hgb hbb
  have HFA := Lib.hid hfa
  have HBA := Lib.hid hba
  have HGB := Lib.hid hgb
  have HBB := Lib.hid hbb
  have sf0 := fun n => cell_of_row _ _ 0 _ _ _ (hgb n).2.1
  have sf1 := fun n => cell_of_row _ _ 1 _ _ _ (hgb n).2.1
  have sf2 := fun n => cell_of_row _ _ 2 _ _ _ (hgb n).2.1
  have sf3 := fun n => cell_of_row _ _ 3 _ _ _ (hgb n).2.1
  clear hfa hba hgb hbb
  refine Gro2.take0 3 (by kernel_rfl) ?_
  simp only [List.take, List.drop, List.length]
  repeat (go_big_quiet_step (fail))
  refine wpQuiet_nil ?_
  refine Gro2.take1 1 (by kernel_rfl) ?_
  simp only [List.take, List.drop, List.length]
  repeat (go_big_quiet_step (fail))
  refine wpQuiet_nil ?_
  refine Gro2.take0 2 (by kernel_rfl) ?_
  simp only [List.take, List.drop, List.length]
  repeat (go_big_quiet_step (fail))
  refine wpQuiet_nil ?_
  refine Gro2.callt (fun v => ∃ r c, v = .slice r (lb : Nat) c) (fun v w' => ∃ r c, v = .slice r (lb : Nat) c ∧ BRow w' r lb c m ∧ ∀ y, r = some y → p < y.block) rfl rfl (⟨_, none, 0, rfl⟩) (fun w1 hB hG => ?_) (fun v1 A1 hv1 hA => ?_)
  · obtain ⟨nq, rfl⟩ := hB
    clear sf0 sf1 sf2 sf3
    go_simp
    refine (clone_b _ _ _ _ _ (HMR.out.stay (HGB.out nq).2.2)).mono ?_
    rintro e w2 ⟨r, c, rfl, hrow, hfr, hn⟩
    have HX := HBB.out _ ⟨(hn.block _ (lt_of_block (HGB.out nq).1)).trans (HGB.out nq).1, (hn.block _ (lt_of_block (HGB.out nq).2.1)).trans (HGB.out nq).2.1, (HGB.out nq).2.2.trans hn⟩
    have hlt := lt_of_block (HGB.out nq).1
    have HR2 : ∀ y, r = some y → p < y.block := fun y e => by have := hfr y e; omega
    exact ⟨_, rfl, HX, ⟨_, _, rfl⟩, ⟨_, _, rfl, hrow, HR2⟩⟩
  simp [Act.put] at hA
  subst hA
  obtain ⟨r3, c3, rfl⟩ := hv1
  refine Gro2.check (.tmp 25) (⟨p, 0, none⟩) rfl rfl rfl rfl (fun A2 hA => ?_)
  simp [Act.put] at hA
  subst hA
  refine Gro2.take0 1 (by kernel_rfl) ?_
  simp only [List.take, List.drop, List.length]
  repeat (go_big_quiet_step (fail))
  refine wpQuiet_nil ?_
  refine Gro2.turn (fun v => v = undef) (fun _ w9 => Lies w9 p (.cells #[.int .i64 16, .int .u32 (W32 (fs.1)), .int .u32 (W32 (fs.2.1)), .int .u32 (W32 (fs.2.2.1)), .int .u32 (W32 (fs.2.2.2)), .int .u32 (W32 (s2.1)), .int .u32 (W32 (s2.2.1)), .int .u32 (W32 (s2.2.2.1)), .int .u32 (W32 (s2.2.2.2)), (.func (Fn.func 45) #[] #[.pointer (some ⟨kd.1, 0, none⟩), .pointer (some ⟨kd.2, 0, none⟩)]), .slice a (T : Nat) cap, .int .u64 (W64 long)] 84 (0, 0)) ∧ BRow w9 r3 lb c3 m ∧ ∀ y, r3 = some y → p < y.block) rfl rfl ⟨_, rfl⟩ (fun w1 hB hG => ?_) (fun v3 A3 hv3 hA => ?_)
  · obtain ⟨nq, rfl⟩ : ∃ nq, w1 = g nq := hB
    obtain ⟨r4, c4, e2, hrow, hfr⟩ := hG
    cases e2
    have HX := Lib.hid (HGB.out nq)
    have c5 := cell_of_row _ _ 5 _ _ _ HX.out.1
    have c6 := cell_of_row _ _ 6 _ _ _ HX.out.1
    have c7 := cell_of_row _ _ 7 _ _ _ HX.out.1
    have c8 := cell_of_row _ _ 8 _ _ _ HX.out.1
    have cf := fun i => frozen_of_row _ _ i _ _ HX.out.1
    have HP := Lib.hid (puts_30 (.int .u32 (W32 (s2.1))) (.int .u32 (W32 (s2.2.1))) (.int .u32 (W32 (s2.2.2.1))) (.int .u32 (W32 (s2.2.2.2))) HX.out.1)
    have HROW := Lib.hid (hrow.but (by simp) (fun y e _ => HP.out.2.1 _ (by have := hfr y e; omega)))
    have HFR := Lib.hid hfr
    have HLI := Lib.hid (show Lies _ _ _ from HP.out.1)
    clear hrow hfr sf0 sf1 sf2 sf3
    go_simp
    exact ⟨HBA.out _ ⟨⟨_, _, _, _, _, _, HP.out.1⟩, HP.out.2.2 _ (But.of_new HX.out.2.2)⟩, HLI.out, HROW.out, HFR.out⟩
  simp [Act.put] at hA
  subst hA
  refine Gro2.check (.tmp 26) (⟨p, 0, none⟩) rfl rfl rfl rfl (fun A4 hA => ?_)
  simp [Act.put] at hA
  subst hA
  refine Gro2.take0 1 (by kernel_rfl) ?_
  simp only [List.take, List.drop, List.length]
  repeat (go_big_quiet_step (fail))
  refine wpQuiet_nil ?_
  refine Gro2.turn (fun v => v = undef) (fun _ w9 => Lies w9 p (.cells #[.int .i64 16, .int .u32 (W32 (fs.1)), .int .u32 (W32 (fs.2.1)), .int .u32 (W32 (fs.2.2.1)), .int .u32 (W32 (fs.2.2.2)), .int .u32 (W32 (s2.1)), .int .u32 (W32 (s2.2.1)), .int .u32 (W32 (s2.2.2.1)), .int .u32 (W32 (s2.2.2.2)), (.func (Fn.func 45) #[] #[.pointer (some ⟨kd.1, 0, none⟩), .pointer (some ⟨kd.2, 0, none⟩)]), .slice a (T : Nat) cap, .int .u64 (W64 long2)] 84 (0, 0)) ∧ BRow w9 r3 lb c3 m ∧ ∀ y, r3 = some y → p < y.block) rfl rfl ⟨_, rfl⟩ (fun w1 hB hG => ?_) (fun v5 A5 hv5 hA => ?_)
  · obtain ⟨nq, rfl⟩ : ∃ nq, w1 = f nq := hB
    obtain ⟨hli, hrow, hfr⟩ := hG
    have HX := Lib.hid (HFA.out nq)
    have HLI0 := Lib.hid hli
    have HFR := Lib.hid hfr
    have c0 := cell_of_row _ _ 11 _ _ _ HLI0.out
    have cf := fun i => frozen_of_row _ _ i _ _ HLI0.out
    have HP := Lib.hid (putl_30 (.int .u64 (W64 long2)) HLI0.out)
    have HROW := Lib.hid (hrow.but (by simp) (fun y e _ => HP.out.2.1 _ (by have := hfr y e; omega)))
    have HLI := Lib.hid (show Lies _ _ _ from HP.out.1)
    clear hrow hfr hli sf0 sf1 sf2 sf3
    go_simp
    exact ⟨HBA.out _ ⟨⟨_, _, _, _, _, _, HP.out.1⟩, HP.out.2.2 _ HX.out.2⟩, HLI.out, HROW.out, HFR.out⟩
  simp [Act.put] at hA
  subst hA
  refine Gro2.check (.tmp 27) (⟨p, 0, none⟩) rfl rfl rfl rfl (fun A6 hA => ?_)
  simp [Act.put] at hA
  subst hA
  refine Gro2.take0 1 (by kernel_rfl) ?_
  simp only [List.take, List.drop, List.length]
  repeat (go_big_quiet_step (fail))
  refine wpQuiet_nil ?_
  refine Gro2.turn (fun v => v = undef) (fun _ w9 => Lies w9 p (.cells #[.int .i64 16, .int .u32 (W32 (fs.1)), .int .u32 (W32 (fs.2.1)), .int .u32 (W32 (fs.2.2.1)), .int .u32 (W32 (fs.2.2.2)), .int .u32 (W32 (s2.1)), .int .u32 (W32 (s2.2.1)), .int .u32 (W32 (s2.2.2.1)), .int .u32 (W32 (s2.2.2.2)), (.func (Fn.func 45) #[] #[.pointer (some ⟨kd.1, 0, none⟩), .pointer (some ⟨kd.2, 0, none⟩)]), .slice r3 (lb : Nat) c3, .int .u64 (W64 long2)] 84 (0, 0)) ∧ BRow w9 r3 lb c3 m ∧ ∀ y, r3 = some y → p < y.block) rfl rfl ⟨_, rfl⟩ (fun w1 hB hG => ?_) (fun v7 A7 hv7 hA => ?_)
  · obtain ⟨nq, rfl⟩ : ∃ nq, w1 = f nq := hB
    obtain ⟨hli, hrow, hfr⟩ := hG
    have HX := Lib.hid (HFA.out nq)
    have HLI0 := Lib.hid hli
    have HFR := Lib.hid hfr
    have c0 := cell_of_row _ _ 10 _ _ _ HLI0.out
    have cf := fun i => frozen_of_row _ _ i _ _ HLI0.out
    have HP := Lib.hid (putt_30 (.slice r3 (lb : Nat) c3) HLI0.out)
    have HROW := Lib.hid (hrow.but (by simp) (fun y e _ => HP.out.2.1 _ (by have := hfr y e; omega)))
    have HLI := Lib.hid (show Lies _ _ _ from HP.out.1)
    clear hrow hfr hli sf0 sf1 sf2 sf3
    go_simp
    exact ⟨HBA.out _ ⟨⟨_, _, _, _, _, _, HP.out.1⟩, HP.out.2.2 _ HX.out.2⟩, HLI.out, HROW.out, HFR.out⟩
  simp [Act.put] at hA
  subst hA
  refine Gro2.nil ?_
  rintro w9 ⟨n9, rfl⟩ hG
  obtain ⟨hli, hrow, _⟩ := hG
  have HBUT := Lib.hid ((But.of_new HAL.out).trans (HFA.out n9).2)
  have HLI := Lib.hid hli
  have HROW := Lib.hid hrow
  clear HFA HBA HGB HBB hli hrow sf0 sf1 sf2 sf3
  generalize f n9 = w9 at *
  go_wp2
  go_ret
  refine ⟨rfl, ⟨r3, c3, ?_, ?_⟩, HBUT.out⟩
  · rw [HML.out]; exact HLI.out
  · rw [HML.out]; exact HROW.out
theorem set_n_30 (kd : Nat × Nat) (s2 : BitVec 32 × BitVec 32 × BitVec 32 × BitVec 32) (l v : Value) (w : World) : Calls Try.prog 37 #[.pointer none, .agg #[.int .u32 (W32 (s2.1)), .int .u32 (W32 (s2.2.1)), .int .u32 (W32 (s2.2.2.1)), .int .u32 (W32 (s2.2.2.2))], l, v] w fun e w' => e = .returned (.bool false) ∧ New w w' := by
  go_enter Try.func37, Try.ntmps37
  go_wp2_with (refine (made_n_30 kd _).mono ?_; rintro e w' ⟨rfl, rfl⟩)
  go_ret
  exact ⟨rfl, (New.refl w).alloc _⟩
set_option maxRecDepth 100000 in
set_option maxHeartbeats 4000000 in
theorem fold_30 (kd : Nat × Nat) (st : BitVec 32 × BitVec 32 × BitVec 32 × BitVec 32) (b : Option Addr) (lb cb : Nat) (l : List (BitVec 8)) (w : World) (hm : BRow w b lb cb l) (hf : Fun30 w kd) :
    Calls Try.prog 23 #[.int .i64 16, .agg #[.int .u32 (W32 (st.1)), .int .u32 (W32 (st.2.1)), .int .u32 (W32 (st.2.2.1)), .int .u32 (W32 (st.2.2.2))], (.func (Fn.func 45) #[] #[.pointer (some ⟨kd.1, 0, none⟩), .pointer (some ⟨kd.2, 0, none⟩)]), .slice b lb cb] w fun e w' => ∃ a c, e = .returned (.tuple #[.agg #[.int .u32 (W32 ((bState 16 stp30 st l).1)), .int .u32 (W32 ((bState 16 stp30 st l).2.1)), .int .u32 (W32 ((bState 16 stp30 st l).2.2.1)), .int .u32 (W32 ((bState 16 stp30 st l).2.2.2))], .slice a (lb % 16 : Nat) c]) ∧ BRow w' a (lb % 16) c (bTail 16 l) ∧ New w w' := by
  have HSZ : Hid (∀ w : World, Calls Try.prog 43 #[.int .i64 16] w fun e w' => e = .returned (.int .i64 16) ∧ w' = w) := Lib.hid fun w => size_of 16 w
  have HMR := Lib.hid hm
  have HPS := Lib.hid (fun (w' : World) r c (hrw : BRow w' r lb c l) (hn : New w w') => pass_30 kd st r lb c l w' hrw (hf.stay hn))
  have HZ := Lib.hid (two_blocks w (.cells #[.int .u32 (W32 (st.1)), .int .u32 (W32 (st.2.1)), .int .u32 (W32 (st.2.2.1)), .int .u32 (W32 (st.2.2.2))] 52) (.cells #[.int .u32 0, .int .u32 0, .int .u32 0, .int .u32 0] 52))
  clear hm hf
  generalize (bState 16 stp30 st l) = nst at *
  generalize (bTail 16 l) = ntl at *
  go_enter Try.func23, Try.ntmps23
  go_wp2_with fail
  refine Gro2.wp_region_gro2S (fun w' => (∃ u0 u1 u2 u3 : Value, w'.heap[w.heap.size + 1]? = some (.cells #[u0, u1, u2, u3] 52 (0, 0))) ∧ New w w') (fun w' => w'.heap[w.heap.size]? = some (.cells #[.int .u32 (W32 (st.1)), .int .u32 (W32 (st.2.1)), .int .u32 (W32 (st.2.2.1)), .int .u32 (W32 (st.2.2.2))] 52 (0, 0)) ∧ w'.heap[w.heap.size + 1]? = some (.cells #[.int .u32 0, .int .u32 0, .int .u32 0, .int .u32 0] 52 (0, 0)) ∧ New w w') [0,2,1,0,0,2,2,0,0,3,0] (by kernel_rfl) (by kernel_rfl) (by kernel_rfl) (fun w' hw' => ⟨⟨_, _, _, _, hw'.2.1⟩, hw'.2.2⟩) (⟨HZ.out.1, HZ.out.2.1, HZ.out.2.2.drew⟩) ?_
  intro I J _ _ f g hfa hba hgb hbb
  have HFA := Lib.hid hfa
  have HBA := Lib.hid hba
  have HGB := Lib.hid hgb
  have HBB := Lib.hid hbb
  have s0 := fun n => cell_of_row _ _ 0 _ _ _ (hgb n).1
  have s1 := fun n => cell_of_row _ _ 1 _ _ _ (hgb n).1
  have s2 := fun n => cell_of_row _ _ 2 _ _ _ (hgb n).1
  have s3 := fun n => cell_of_row _ _ 3 _ _ _ (hgb n).1
  clear hfa hba hgb hbb
  refine Gro2.take0 1 (by kernel_rfl) ?_
  simp only [List.take, List.drop, List.length]
  repeat (go_big_quiet_step (fail))
  refine wpQuiet_nil ?_
  refine Gro2.callt (fun v => v = .int .i64 16) (fun _ _ => True) rfl rfl (⟨_, rfl⟩) (fun w1 hB hG => ?_) (fun v1 A1 hv1 hA => ?_)
  · obtain ⟨nq, rfl⟩ := hB
    go_simp
    refine (HSZ.out _).mono ?_
    rintro e w2 ⟨rfl, rfl⟩
    first | exact ⟨_, rfl, ⟨nq, rfl⟩, rfl, trivial⟩ | exact ⟨⟨nq, rfl⟩, rfl⟩ | exact ⟨rfl, ⟨nq, rfl⟩⟩ | exact ⟨nq, rfl⟩
  simp [Act.put] at hA
  subst hA
  obtain rfl := hv1
  refine Gro2.take1 1 (by kernel_rfl) ?_
  simp only [List.take, List.drop, List.length]
  repeat (go_big_quiet_step (fail))
  refine wpQuiet_nil ?_
  refine Gro2.take0 2 (by kernel_rfl) ?_
  simp only [List.take, List.drop, List.length]
  repeat (go_big_quiet_step (fail))
  refine wpQuiet_nil ?_
  refine Gro2.callt (fun v => ∃ r c, v = .slice r (lb : Nat) c) (fun v w' => ∃ r c, v = .slice r (lb : Nat) c ∧ BRow w' r lb c l) rfl rfl (⟨_, none, 0, rfl⟩) (fun w1 hB hG => ?_) (fun v2 A2 hv2 hA => ?_)
  · obtain ⟨nq, rfl⟩ := hB
    clear s0 s1 s2 s3
    go_simp
    refine (clone_b _ _ _ _ _ (HMR.out.stay (HGB.out nq).2.2)).mono ?_
    rintro e w2 ⟨r, c, rfl, hrow, hfr, hn⟩
    have HX := HBB.out _ ⟨(hn.block _ (lt_of_block (HGB.out nq).1)).trans (HGB.out nq).1, (hn.block _ (lt_of_block (HGB.out nq).2.1)).trans (HGB.out nq).2.1, (HGB.out nq).2.2.trans hn⟩
    exact ⟨_, rfl, HX, ⟨_, _, rfl⟩, ⟨_, _, rfl, hrow⟩⟩
  simp [Act.put] at hA
  subst hA
  obtain ⟨r2, c2, rfl⟩ := hv2
  refine Gro2.callt (fun v => ∃ r c, v = .tuple #[.agg #[.int .u32 (W32 (nst.1)), .int .u32 (W32 (nst.2.1)), .int .u32 (W32 (nst.2.2.1)), .int .u32 (W32 (nst.2.2.2))], .slice r (lb % 16 : Nat) c]) (fun v w' => ∃ r c, v = .tuple #[.agg #[.int .u32 (W32 (nst.1)), .int .u32 (W32 (nst.2.1)), .int .u32 (W32 (nst.2.2.1)), .int .u32 (W32 (nst.2.2.2))], .slice r (lb % 16 : Nat) c] ∧ BRow w' r (lb % 16) c ntl ∧ ∀ y, r = some y → w.heap.size + 1 < y.block) rfl rfl (⟨_, none, 0, rfl⟩) (fun w1 hB hG => ?_) (fun v3 A3 hv3 hA => ?_)
  · obtain ⟨nq, rfl⟩ := hB
    obtain ⟨r3, c3, e2, hz⟩ := hG
    cases e2
    have HZ2 := Lib.hid hz
    clear hz s0 s1 s2 s3
    go_simp
    refine (HPS.out _ _ _ HZ2.out (HGB.out nq).2.2).mono ?_
    rintro e w2 ⟨r, c, rfl, hrow, hfr, hn⟩
    have HX := HBB.out _ ⟨(hn.block _ (lt_of_block (HGB.out nq).1)).trans (HGB.out nq).1, (hn.block _ (lt_of_block (HGB.out nq).2.1)).trans (HGB.out nq).2.1, (HGB.out nq).2.2.trans hn⟩
    have hlt := lt_of_block (HGB.out nq).2.1
    have HR2 : ∀ y, r = some y → w.heap.size + 1 < y.block := fun y e => by have := hfr y e; omega
    exact ⟨_, rfl, HX, ⟨_, _, rfl⟩, ⟨_, _, rfl, hrow, HR2⟩⟩
  simp [Act.put] at hA
  subst hA
  obtain ⟨r3, c3, rfl⟩ := hv3
  refine Gro2.take0 2 (by kernel_rfl) ?_
  simp only [List.take, List.drop, List.length]
  repeat (go_big_quiet_step (fail))
  refine wpQuiet_nil ?_
  refine Gro2.turn (fun v => v = undef) (fun _ w9 => Lies w9 (w.heap.size + 1) (.cells #[.int .u32 (W32 (nst.1)), .int .u32 (W32 (nst.2.1)), .int .u32 (W32 (nst.2.2.1)), .int .u32 (W32 (nst.2.2.2))] 52 (0, 0)) ∧ BRow w9 r3 (lb % 16) c3 ntl) rfl rfl ⟨_, rfl⟩ (fun w1 hB hG => ?_) (fun v4 A4 hv4 hA => ?_)
  · obtain ⟨nq, rfl⟩ : ∃ nq, w1 = g nq := hB
    obtain ⟨r4, c4, e2, hrow, hfr⟩ := hG
    cases e2
    have HX := Lib.hid (HGB.out nq)
    have c0 := cell_of_row _ _ 0 _ _ _ HX.out.2.1
    have c1 := cell_of_row _ _ 1 _ _ _ HX.out.2.1
    have c2 := cell_of_row _ _ 2 _ _ _ HX.out.2.1
    have c3 := cell_of_row _ _ 3 _ _ _ HX.out.2.1
    have cf := fun i => frozen_of_row _ _ i _ _ HX.out.2.1
    have HP := Lib.hid (put_30 (.int .u32 (W32 (nst.1))) (.int .u32 (W32 (nst.2.1))) (.int .u32 (W32 (nst.2.2.1))) (.int .u32 (W32 (nst.2.2.2))) HX.out.2.1)
    have HROW := Lib.hid (hrow.but (by simp) (fun y e _ => HP.out.2.1 _ (by have := hfr y e; omega)))
    have HLI := Lib.hid (show Lies _ _ _ from HP.out.1)
    clear hrow hfr s0 s1 s2 s3
    go_simp
    exact ⟨HBA.out _ ⟨⟨_, _, _, _, HP.out.1⟩, HP.out.2.2 _ HX.out.2.2 (by omega)⟩, HLI.out, HROW.out⟩
  simp [Act.put] at hA
  subst hA
  refine Gro2.take0 1 (by kernel_rfl) ?_
  simp only [List.take, List.drop, List.length]
  repeat (go_big_quiet_step (fail))
  refine wpQuiet_nil ?_
  refine Gro2.nil ?_
  rintro w9 ⟨n9, rfl⟩ hG
  obtain ⟨hli, hrow⟩ := hG
  have HN := Lib.hid (HFA.out n9).2
  have HROW := Lib.hid hrow
  have k0 := cell_of_row _ _ 0 _ _ _ hli
  have k1 := cell_of_row _ _ 1 _ _ _ hli
  have k2 := cell_of_row _ _ 2 _ _ _ hli
  have k3 := cell_of_row _ _ 3 _ _ _ hli
  clear HFA HBA HGB HBB hli hrow s0 s1 s2 s3
  generalize f n9 = w9 at *
  go_wp2
  refine bodyPost_ret (by simp [results, Try.results23, go_sem, k0, k1, k2, k3]; try rfl) rfl ?_
  exact ⟨r3, c3, rfl, HROW.out, HN.out⟩
end Go.Proofs.Ytnapogamcohfaaa
