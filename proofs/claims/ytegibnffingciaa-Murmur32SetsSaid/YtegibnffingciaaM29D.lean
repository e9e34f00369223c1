/- Layer 29: the document's own Blocks, End, One. -/
import Derived.Test.YtegibnffingciaaM29C
import Derived.Defers
import Derived.Recover
import Derived.Laws.Pointers
import Derived.Handy
import Derived.Laws.EntriesVeiled
namespace Go.Proofs.Ytegibnffingciaa
open Go.RowKit Go.Bv
set_option linter.unusedVariables false
set_option maxRecDepth 100000 in
set_option maxHeartbeats 1000000 in
theorem blocks_ref29 (sd : BitVec 32) (a : Option Addr) (n c : Nat) (l : List (BitVec 8)) (w : World) (h : BRow w a n c l) :
    Calls Try.prog 49 #[.int .u32 (W32 sd), .slice a n c] w fun e w' => ∃ a' c', e = .returned (.tuple #[.agg #[.int .u64 (W64 ((bState 4 stp29 sd l).setWidth 64)), .int .u64 0, .int .u64 0, .int .u64 0], .slice a' (n % 4 : Nat) c']) ∧ BRow w' a' (n % 4) c' (bTail 4 l) ∧ New w w' := by
  have HF := Lib.hid (fun w' (hn : New w w') => from_ref29 sd (.int .u64 0) (.int .u64 0) (.int .u64 0) a n c l w' (h.stay hn))
  have HZ := Lib.hid (heap_alloc_new w (.cells #[.int .u64 0, .int .u64 0, .int .u64 0, .int .u64 0] 59))
  obtain ⟨st, h1⟩ : ∃ z, bState 4 stp29 sd l = z := ⟨_, rfl⟩
  obtain ⟨tl, h2⟩ : ∃ z, bTail 4 l = z := ⟨_, rfl⟩
  rw [h1, h2] at HF
  rw [h1, h2]
  clear h h1 h2
  go_enter Try.func49, Try.ntmps49
  go_wp2_with fail
  refine (HF.out _ ((New.refl w).alloc _)).mono ?_
  rintro e w9 ⟨a2, c2, rfl, hr, hn⟩
  have HR := Lib.hid hr
  have HO := Lib.hid ((hn.block _ (lt_of_block HZ.out)).trans HZ.out)
  have HN := Lib.hid (((New.refl w).alloc _).trans hn)
  clear hr hn HF HZ
  have z0 := cell_of_row _ _ 0 _ _ _ HO.out
  have z1 := cell_of_row _ _ 1 _ _ _ HO.out
  have z2 := cell_of_row _ _ 2 _ _ _ HO.out
  have z3 := cell_of_row _ _ 3 _ _ _ HO.out
  have zf := fun i => frozen_of_row _ _ i _ _ HO.out
  go_wp2
  refine bodyPost_ret (by simp [results, Try.results49, go_sem, z0, z1, z2, z3]; try rfl) rfl ?_
  have hq : ∀ i, w.heap.size ≤ (⟨w.heap.size, i, none⟩ : Addr).block := fun i => Nat.le_refl _
  have hnb : NoBytes w9 w.heap.size := ⟨_, _, _, HO.out, by simp⟩
  refine ⟨a2, c2, rfl, HR.out.buts (((((But.refl w.heap.size w9).setCell (p := ⟨w.heap.size, 0, none⟩) rfl _).setCell (p := ⟨w.heap.size, 1, none⟩) rfl _).setCell (p := ⟨w.heap.size, 2, none⟩) rfl _).setCell (p := ⟨w.heap.size, 3, none⟩) rfl _) hnb, ?_⟩
  exact (((HN.out.setCell (hq 0) _).setCell (hq 1) _).setCell (hq 2) _).setCell (hq 3) _
set_option maxRecDepth 100000 in
set_option maxHeartbeats 2000000 in
theorem end_ref29 (sd x1 x2 x3 : Value) (s : BitVec 32) (a : Option Addr) (n c : Nat) (tl : List (BitVec 8)) (lg : BitVec 64) (w : World) (h : BRow w a n c tl) :
    Calls Try.prog 53 #[sd, .agg #[.int .u64 (W64 (s.setWidth 64)), x1, x2, x3], .slice a n c, .int .u64 (W64 lg)] w fun e w' => e = .returned (.int .u32 (W32 (end29 s tl lg))) ∧ New w w' := by
  have HK := Lib.hid (fun w' (hn : New w w') => num_ref a n c tl 0 4 w' (h.stay hn) (by omega) (by omega))
  have hsw : (s.setWidth 64).setWidth 32 = s := by
    apply BitVec.eq_of_toNat_eq
    rw [BitVec.toNat_setWidth, BitVec.toNat_setWidth]
    have := s.isLt
    omega
  have hlg : (lg % 4294967296#64).setWidth 32 = lg.setWidth 32 := by
    apply BitVec.eq_of_toNat_eq
    rw [BitVec.toNat_setWidth, BitVec.toNat_setWidth, BitVec.toNat_umod]
    have : (4294967296#64 : BitVec 64).toNat = 4294967296 := by decide
    rw [this]
    omega
  unfold end29 in29
  obtain ⟨kk, hk⟩ : ∃ z, rd tl 0 4 = z := ⟨_, rfl⟩
  rw [hk] at HK ⊢
  clear hk h
  have HO := Lib.hid (word_ref29 (kk.setWidth 32))
  obtain ⟨oo, ho⟩ : ∃ z, word29 (kk.setWidth 32) = z := ⟨_, rfl⟩
  rw [ho] at HO ⊢
  clear ho
  have HF := Lib.hid (fmix32r_n (s ^^^ oo ^^^ lg.setWidth 32))
  obtain ⟨ff, hf⟩ : ∃ z, fmix32 (s ^^^ oo ^^^ lg.setWidth 32) = z := ⟨_, rfl⟩
  rw [hf] at HF ⊢
  clear hf
  have HZ := Lib.hid (heap_alloc_new w (.cells #[.int .u64 (W64 (s.setWidth 64)), x1, x2, x3] 59))
  go_enter Try.func53, Try.ntmps53
  go_wp2_with fail
  refine Gro3.wp_region_gro3S (fun w' => w'.heap[w.heap.size]? = some (.cells #[.int .u64 (W64 (s.setWidth 64)), x1, x2, x3] 59 (0, 0)) ∧ New (w.alloc (.cells #[.int .u64 (W64 (s.setWidth 64)), x1, x2, x3] 59)) w') (fun w' => w'.heap[w.heap.size]? = some (.cells #[.int .u64 (W64 (s.setWidth 64)), x1, x2, x3] 59 (0, 0)) ∧ New (w.alloc (.cells #[.int .u64 (W64 (s.setWidth 64)), x1, x2, x3] 59)) w') [0, 1, 0, 0, 2, 0, 2, 0, 0] New (fun _ _ _ => True) (by kernel_rfl) (by kernel_rfl) (by kernel_rfl) (fun _ _ _ _ _ _ => trivial) (fun w' hw' => hw') (⟨HZ.out, (New.refl _).drew⟩) ?_
  intro I J _ _ f g hfa hba hgb hbb
  have HFA := Lib.hid hfa
  have HBA := Lib.hid hba
  have HGB := Lib.hid hgb
  have HBB := Lib.hid hbb
  have s0 := fun n => cell_of_row _ _ 0 _ _ _ (hgb n).1
  have s1 := fun n => cell_of_row _ _ 1 _ _ _ (hgb n).1
  have s2 := fun n => cell_of_row _ _ 2 _ _ _ (hgb n).1
  have s3 := fun n => cell_of_row _ _ 3 _ _ _ (hgb n).1
  clear hfa hba hgb hbb
  refine Gro3.take0 1 (by kernel_rfl) ?_
  simp only [List.take, List.drop, List.length]
  repeat (go_big_quiet_step (fail))
  refine wpQuiet_nil ?_
  refine Gro3.take1 1 (by kernel_rfl) ?_
  simp only [List.take, List.drop, List.length]
  repeat (go_big_quiet_step (fail))
  refine wpQuiet_nil ?_
  refine Gro3.take0 2 (by kernel_rfl) ?_
  simp only [List.take, List.drop, List.length]
  repeat (go_big_quiet_step (fail))
  refine wpQuiet_nil ?_
  refine Gro3.callt (fun v => v = .int .u64 (W64 kk)) (fun _ _ => True) rfl rfl (⟨_, rfl⟩) (fun _ _ _ _ _ => trivial) (fun w1 hB hG => ?_) (fun v1 A1 hv1 hA => ?_)
  · obtain ⟨nq, rfl⟩ := hB
    clear s0 s1 s2 s3
    go_simp
    refine (HK.out _ (((New.refl w).alloc _).trans (HGB.out nq).2)).mono ?_
    rintro e w2 ⟨rfl, rfl⟩
    have hn := New.refl (g nq)
    have HX := HBB.out _ ⟨(hn.block _ (lt_of_block (HGB.out nq).1)).trans (HGB.out nq).1, (HGB.out nq).2.trans hn⟩
    first | exact ⟨_, rfl, HX, hn, rfl⟩ | exact ⟨_, rfl, HX, hn, rfl, trivial⟩ | exact ⟨rfl, HX, hn⟩ | exact ⟨HX, hn, rfl⟩ | exact ⟨HX, hn⟩
  simp [Act.put] at hA
  subst hA
  obtain rfl := hv1
  refine Gro3.take0 1 (by kernel_rfl) ?_
  simp only [List.take, List.drop, List.length]
  repeat (go_big_quiet_step (fail))
  refine wpQuiet_nil ?_
  refine Gro3.callt (fun v => v = .int .u32 (W32 oo)) (fun _ _ => True) rfl rfl (⟨_, rfl⟩) (fun _ _ _ _ _ => trivial) (fun w1 hB hG => ?_) (fun v2 A2 hv2 hA => ?_)
  · obtain ⟨nq, rfl⟩ := hB
    clear s0 s1 s2 s3
    go_simp
    refine (HO.out _).mono ?_
    rintro e w2 ⟨rfl, rfl⟩
    have hn := New.refl (g nq)
    have HX := HBB.out _ ⟨(hn.block _ (lt_of_block (HGB.out nq).1)).trans (HGB.out nq).1, (HGB.out nq).2.trans hn⟩
    first | exact ⟨_, rfl, HX, hn, rfl⟩ | exact ⟨_, rfl, HX, hn, rfl, trivial⟩ | exact ⟨rfl, HX, hn⟩ | exact ⟨HX, hn, rfl⟩ | exact ⟨HX, hn⟩
  simp [Act.put] at hA
  subst hA
  obtain rfl := hv2
  refine Gro3.take0 2 (by kernel_rfl) ?_
  simp only [List.take, List.drop, List.length]
  repeat (go_big_quiet_step (fail))
  refine wpQuiet_nil ?_
  refine Gro3.nil ?_
  rintro w9 ⟨n9, rfl⟩ hG
  have hn := (HGB.out n9).2
  clear HFA HBA HGB HBB s0 s1 s2 s3
  have HN := Lib.hid (((New.refl w).alloc _).trans hn)
  clear hn hG
  generalize g n9 = w9 at *
  go_wp2_with fail
  refine (HF.out _).mono ?_
  rintro e w10 ⟨rfl, rfl⟩
  go_wp2
  go_ret
  exact ⟨rfl, HN.out⟩
set_option maxRecDepth 100000 in
set_option maxHeartbeats 1000000 in
theorem hash_ref29 (sd : BitVec 32) (a : Option Addr) (n c : Nat) (l : List (BitVec 8)) (w : World) (h : BRow w a n c l) :
    Calls Try.prog 43 #[.int .u32 (W32 sd), .slice a n c] w fun e w' => e = .returned (.int .u32 (W32 (hash29 sd l))) ∧ New w w' := by
  have HB := Lib.hid (blocks_ref29 sd a n c l w h)
  have hlen := h.len_eq
  unfold hash29
  rw [hlen]
  clear h hlen
  obtain ⟨st, h1⟩ : ∃ z, bState 4 stp29 sd l = z := ⟨_, rfl⟩
  obtain ⟨tl, h2⟩ : ∃ z, bTail 4 l = z := ⟨_, rfl⟩
  rw [h1, h2] at HB
  rw [h1, h2]
  clear h1 h2
  have HEN := Lib.hid (fun (w' : World) a' c' (hr : BRow w' a' (n % 4) c' tl) => end_ref29 (.int .u32 (W32 sd)) (.int .u64 0) (.int .u64 0) (.int .u64 0) st a' (n % 4) c' tl (BitVec.ofNat 64 n) w' hr)
  obtain ⟨hh, hhe⟩ : ∃ z, end29 st tl (BitVec.ofNat 64 n) = z := ⟨_, rfl⟩
  rw [hhe] at HEN
  rw [hhe]
  clear hhe
  go_enter Try.func43, Try.ntmps43
  go_wp2_with fail
  refine (HB.out).mono ?_
  rintro e w9 ⟨a2, c2, rfl, hr, hn⟩
  have HN := Lib.hid hn
  have HR := Lib.hid hr
  clear hr hn HB
  have hx := heap_alloc_new w9 (.cells #[.int .u64 (W64 ((st).setWidth 64)), .int .u64 0, .int .u64 0, .int .u64 0] 59)
  have hn2 := (New.refl w9).alloc (.cells #[.int .u64 (W64 ((st).setWidth 64)), .int .u64 0, .int .u64 0, .int .u64 0] 59)
  obtain ⟨qHM, hq⟩ : ∃ q, w9.heap.size = q := ⟨_, rfl⟩
  have hle := HN.out.le
  rw [hq] at hx hle
  have hw0 := And.intro (rfl : w9.alloc (.cells #[.int .u64 (W64 ((st).setWidth 64)), .int .u64 0, .int .u64 0, .int .u64 0] 59) = w9.alloc (.cells #[.int .u64 (W64 ((st).setWidth 64)), .int .u64 0, .int .u64 0, .int .u64 0] 59)) hq
  generalize hw2 : w9.alloc (.cells #[.int .u64 (W64 ((st).setWidth 64)), .int .u64 0, .int .u64 0, .int .u64 0] 59) = w10 at hx hn2 hw0
  have HE := Lib.hid (show w9.alloc (.cells #[.int .u64 (W64 ((st).setWidth 64)), .int .u64 0, .int .u64 0, .int .u64 0] 59) = w10 ∧ w9.heap.size = qHM from ⟨hw2, hq⟩)
  clear hw0 hw2
  replace HR := Lib.hid (HR.out.stay hn2)
  replace HN := Lib.hid (HN.out.trans hn2)
  have HM := Lib.hid hx
  have HLHM := Lib.hid hle
  clear hx hn2 hq hle
  have x0 := cell_of_row _ _ 0 _ _ _ HM.out
  have x1 := cell_of_row _ _ 1 _ _ _ HM.out
  have x2 := cell_of_row _ _ 2 _ _ _ HM.out
  have x3 := cell_of_row _ _ 3 _ _ _ HM.out
  go_wp2_with (rw [HE.out.1, HE.out.2])
  refine (HEN.out _ _ _ HR.out).mono ?_
  rintro e w9 ⟨rfl, hn⟩
  replace HR := Lib.hid (HR.out.stay hn)
  replace HM := Lib.hid ((hn.block _ (lt_of_block HM.out)).trans HM.out)
  replace HN := Lib.hid (HN.out.trans hn)
  clear hn HE x0 x1 x2 x3
  go_wp2
  go_ret
  exact ⟨rfl, HN.out⟩
end Go.Proofs.Ytegibnffingciaa
