/- Layer 34: a hash behind bytes; the chapter's example; the law One. -/
import Derived.Test.YtbikekjcbfhoaaaM34H
import Derived.Test.YtbikekjcbfhoaaaM34I
import Derived.Defers
import Derived.Recover
import Derived.Laws.Pointers
import Derived.Handy
import Derived.Laws.EntriesVeiled
namespace Go.Proofs.Ytbikekjcbfhoaaa
open Go.RowKit Go.Bv
set_option linter.unusedVariables false
/-- the stream of a hash in the box p: behind the bytes l -/
def HStr_34 (sd : Sd34) (w : World) (p : Nat)  (l : List (BitVec 8)) : Prop := Strm_34 sd.kd w p 8 (start34 sd.kd sd.key ) (bState 8 (stp34 sd.kd) (start34 sd.kd sd.key ) l) (bTail 8 l) (BitVec.ofNat 64 l.length)
theorem HStr_34.stay {sd : Sd34} {w w' : World} {p : Nat}  {l : List (BitVec 8)} (h : HStr_34 sd w p  l) (hn : New w w') : HStr_34 sd w' p  l := Strm_34.stay h hn
theorem HStr_34.but {sd : Sd34} {w w' : World} {p : Nat}  {l : List (BitVec 8)} {q : Nat} (h : HStr_34 sd w p  l) (hb : But q w w') (hne : p ≠ q) (hq : NoBytes w q) : HStr_34 sd w' p  l := Strm_34.but h hb hne hq
theorem HStr_34.noBytes {sd : Sd34} {w : World} {p : Nat}  {l : List (BitVec 8)} (h : HStr_34 sd w p  l) : NoBytes w p := Strm_34.noBytes h
theorem HStr_34.lt {sd : Sd34} {w : World} {p : Nat}  {l : List (BitVec 8)} (h : HStr_34 sd w p  l) : p < w.heap.size := Strm_34.lt h
theorem HStr_34.nil {sd : Sd34} {w : World} {p : Nat}  (h : Strm_34 sd.kd w p 8 (start34 sd.kd sd.key ) (start34 sd.kd sd.key ) [] 0#64) : HStr_34 sd w p  [] := by
  unfold HStr_34; rw [bState_nil, bTail_nil]; exact h
theorem lnew_34 (sd : Sd34)  (w : World) : Calls Try.prog 11 #[.int .i64 sd.kind, .agg #[.int .u64 (W64 sd.key.1), .int .u64 (W64 sd.key.2)]] w fun e w' => ∃ q g, e = .returned (.pointer (some ⟨g, 0, none⟩)) ∧ w.heap.size ≤ q ∧ q < g ∧ w'.heap[g]? = some (.cells #[.int .i64 (sd.kd.1 : Nat), .int .i64 (sd.kd.2.1 : Nat), .bool sd.kd.2.2, .pointer (some ⟨q, 0, none⟩)] 64 (0, 0)) ∧ HStr_34 sd w' q  [] ∧ New w w' := by
  refine (hnew_34 sd  w).mono ?_
  rintro e w' ⟨q, g, h1, h2, h3, h4, h5, h6⟩
  exact ⟨q, g, h1, h2, h3, h4, HStr_34.nil h5, h6⟩
theorem lwrite_34 (sd : Sd34) (p h : Nat)  (l : List (BitVec 8)) (b : Option Addr) (lb cb : Nat) (m : List (BitVec 8)) (w : World) (hx : w.heap[h]? = some (.cells #[.int .i64 (sd.kd.1 : Nat), .int .i64 (sd.kd.2.1 : Nat), .bool sd.kd.2.2, .pointer (some ⟨p, 0, none⟩)] 64 (0, 0))) (hs : HStr_34 sd w p  l) (hm : BRow w b lb cb m) (hsum : l.length + lb ≤ 140737488355328) :
    Calls Try.prog 14 #[.pointer (some ⟨h, 0, none⟩), .slice b lb cb] w fun e w' => e = .returned (.tuple #[]) ∧ HStr_34 sd w' p  (l ++ m) ∧ But p w w' := by
  have h1 : (bTail 8 l).length + lb ≤ 140737488355328 := by
    have := Nat.mod_le l.length 8
    rw [bTail_len]; omega
  refine (hwrite_34 sd p h _ _ _ _ b lb cb m w hx hs hm h1).mono ?_
  rintro e w' ⟨h2, h3, h4⟩
  refine ⟨h2, ?_, h4⟩
  rw [bState_join 8 (by decide), bTail_join 8 (by decide)] at h3
  unfold HStr_34
  rw [List.length_append, BitVec.ofNat_add, hm.len_eq]
  exact h3
theorem lreset_34 (sd : Sd34) (p h : Nat)  (l : List (BitVec 8)) (w : World) (hx : w.heap[h]? = some (.cells #[.int .i64 (sd.kd.1 : Nat), .int .i64 (sd.kd.2.1 : Nat), .bool sd.kd.2.2, .pointer (some ⟨p, 0, none⟩)] 64 (0, 0))) (hs : HStr_34 sd w p  l) :
    Calls Try.prog 15 #[.pointer (some ⟨h, 0, none⟩)] w fun e w' => e = .returned (.tuple #[]) ∧ HStr_34 sd w' p  [] ∧ But p w w' := by
  refine (hreset_34 sd p h _ _ _ _ w hx hs).mono ?_
  rintro e w' ⟨h2, h3, h4⟩
  exact ⟨h2, HStr_34.nil h3, h4⟩
theorem lclone_34 (sd : Sd34) (p h : Nat)  (l : List (BitVec 8)) (w : World) (hx : w.heap[h]? = some (.cells #[.int .i64 (sd.kd.1 : Nat), .int .i64 (sd.kd.2.1 : Nat), .bool sd.kd.2.2, .pointer (some ⟨p, 0, none⟩)] 64 (0, 0))) (hs : HStr_34 sd w p  l) :
    Calls Try.prog 20 #[.pointer (some ⟨h, 0, none⟩)] w fun e w' => ∃ q g, e = .returned (.pointer (some ⟨g, 0, none⟩)) ∧ w.heap.size ≤ q ∧ q < g ∧ w'.heap[g]? = some (.cells #[.int .i64 (sd.kd.1 : Nat), .int .i64 (sd.kd.2.1 : Nat), .bool sd.kd.2.2, .pointer (some ⟨q, 0, none⟩)] 64 (0, 0)) ∧ HStr_34 sd w' q  l ∧ New w w' := hclone_34 sd p h _ _ _ _ w hx hs
theorem lsum_34 (sd : Sd34) (p h : Nat)  (l : List (BitVec 8)) (w : World) (hx : w.heap[h]? = some (.cells #[.int .i64 (sd.kd.1 : Nat), .int .i64 (sd.kd.2.1 : Nat), .bool sd.kd.2.2, .pointer (some ⟨p, 0, none⟩)] 64 (0, 0))) (hs : HStr_34 sd w p  l) :
    Calls Try.prog 12 #[.pointer (some ⟨h, 0, none⟩)] w fun e w' => e = .returned (.agg #[.int .u64 (W64 (hash34 sd.kd sd.key  l).2), .int .u64 (W64 (hash34 sd.kd sd.key  l).1)]) ∧ New w w' := hsum_34 sd p h _ _ _ _ w hx hs
def sd0 : Sd34 := ⟨6, (2, 4, false), Or.inl ⟨rfl, rfl⟩, (1084818905618843912#64, 506097522914230528#64)⟩
theorem sd0_h1 : W64 sd0.key.1 = 1084818905618843912 := by decide
theorem sd0_h2 : W64 sd0.key.2 = 506097522914230528 := by decide
theorem sd0_hash : hash34 sd0.kd sd0.key [] = (8246050544436514353#64, 0#64) := by
  unfold hash34
  rw [bState_nil]
  decide +kernel
set_option maxRecDepth 100000 in
set_option maxHeartbeats 2000000 in
theorem awake34 (w : World) : Calls Try.prog 7 #[] w fun e w' => e = .returned (.bool true) ∧ New w w' := by
  have HNW : Hid (∀ w, Calls Try.prog 11 #[.int .i64 6, .agg #[.int .u64 1084818905618843912, .int .u64 506097522914230528]] w fun e w' => ∃ g, e = .returned (.pointer (some ⟨g, 0, none⟩)) ∧ New w w') := Lib.hid (fun w => by
    rw [← sd0_h1, ← sd0_h2]
    refine (lnew_34 sd0 w).mono ?_
    rintro e w' ⟨q, g, h1, _, _, _, _, h2⟩
    exact ⟨g, h1, h2⟩)
  have HON : Hid (∀ w, Calls Try.prog 8 #[.int .i64 6, .agg #[.int .u64 1084818905618843912, .int .u64 506097522914230528], .slice none 0 0] w fun e w' => e = .returned (.agg #[.int .u64 0, .int .u64 8246050544436514353]) ∧ New w w') := Lib.hid (fun w => by
    have h := hone_34 sd0 none 0 0 [] w (brow_none w)
    rw [sd0_hash, sd0_h1, sd0_h2, show W64 (8246050544436514353#64, 0#64).2 = 0 by decide, show W64 (8246050544436514353#64, 0#64).1 = 8246050544436514353 by decide] at h
    exact h)
  have HNN : Hid (∀ w, Calls Try.prog 11 #[.int .i64 0, .agg #[.int .u64 1084818905618843912, .int .u64 506097522914230528]] w fun e w' => e = .returned (.pointer none) ∧ New w w') := Lib.hid (fun w => by
    rw [← sd0_h1, ← sd0_h2]
    exact hnew_no34 0 (by decide) _ _ w)
  have heq := fun w => eqUs w 0#64 8246050544436514353#64
  rw [show W64 0#64 = 0 by decide, show W64 8246050544436514353#64 = 8246050544436514353 by decide] at heq
  have HKY := Lib.hid (heap_alloc_new w (.cells #[.int .u64 1084818905618843912, .int .u64 506097522914230528] 24))
  have HN := Lib.hid ((New.refl w).alloc (.cells #[.int .u64 1084818905618843912, .int .u64 506097522914230528] 24))
  have k0 := cell_of_row _ _ 0 _ _ _ HKY.out
  have k1 := cell_of_row _ _ 1 _ _ _ HKY.out
  go_enter Try.func7, Try.ntmps7
  go_wp2_with fail
  refine (HNW.out _).mono ?_
  rintro e w9 ⟨g, rfl, hn⟩
  replace HKY := Lib.hid ((hn.block _ (lt_of_block HKY.out)).trans HKY.out)
  replace HN := Lib.hid (HN.out.trans hn)
  clear hn k0 k1 HNW
  have k0 := cell_of_row _ _ 0 _ _ _ HKY.out
  have k1 := cell_of_row _ _ 1 _ _ _ HKY.out
  go_wp2_with fail
  refine (HON.out _).mono ?_
  rintro e w9 ⟨rfl, hn⟩
  replace HKY := Lib.hid ((hn.block _ (lt_of_block HKY.out)).trans HKY.out)
  replace HN := Lib.hid (HN.out.trans hn)
  clear hn k0 k1 HON
  have k0 := cell_of_row _ _ 0 _ _ _ HKY.out
  have k1 := cell_of_row _ _ 1 _ _ _ HKY.out
  go_wp2_with fail
  refine (HNN.out _).mono ?_
  rintro e w9 ⟨rfl, hn⟩
  replace HKY := Lib.hid ((hn.block _ (lt_of_block HKY.out)).trans HKY.out)
  replace HN := Lib.hid (HN.out.trans hn)
  clear hn k0 k1 HNN
  go_wp2
  go_ret
  exact ⟨rfl, HN.out⟩
set_option maxRecDepth 100000 in
set_option maxHeartbeats 2000000 in
theorem one_y_34 (sd : Sd34) (W : World) (a2 : Option Addr) (n2 m2 : Nat) (z2 : List Int) (w2 : IRow .u8 W a2 n2 m2 z2) (r2 : m2 * 1 ≤ 140737488351232) :
    Calls Try.prog 3 #[.int .i64 sd.kind, .agg #[.int .u64 (W64 sd.key.1), .int .u64 (W64 sd.key.2)], .slice a2 n2 m2] W fun e w' => e = .returned (.bool true) ∧ Below W.heap.size W w' := by
  obtain ⟨l, hl⟩ := w2.bytes r2
  have HB := Lib.hid hl
  have HA := Lib.hid awake34
  clear w2 r2 hl
  have HKY := Lib.hid (heap_alloc_new W (.cells #[.int .u64 (W64 sd.key.1), .int .u64 (W64 sd.key.2)] 24))
  have HN := Lib.hid ((New.refl W).alloc (.cells #[.int .u64 (W64 sd.key.1), .int .u64 (W64 sd.key.2)] 24))
  go_enter Try.func3, Try.ntmps3
  go_wp2_with fail
  refine (HA.out _).mono ?_
  rintro e w9 ⟨rfl, hn⟩
  replace HKY := Lib.hid ((hn.block _ (lt_of_block HKY.out)).trans HKY.out)
  replace HN := Lib.hid (HN.out.trans hn)
  clear hn HA
  by_cases hs : (2000 : Int) < (n2 : Int)
  · go_wp2
    go_ret
    exact ⟨rfl, HN.out⟩
  have HON := Lib.hid (fun w (hn : New W w) => hone_34 sd _ _ _ _ w (HB.out.stay hn))
  have HRF := Lib.hid (fun w (hn : New W w) => hash_ref34 sd _ _ _ _ w (HB.out.stay hn))
  obtain ⟨hh, hhe⟩ : ∃ r, hash34 sd.kd sd.key l = r := ⟨_, rfl⟩
  rw [hhe] at HON HRF
  clear hhe
  have heq := fun w => eqUs w hh.2 hh.1
  go_wp2_with fail
  refine Gro3.wp_region_gro3S (fun w' => w'.heap[W.heap.size]? = some (.cells #[.int .u64 (W64 sd.key.1), .int .u64 (W64 sd.key.2)] 24 (0, 0)) ∧ New w9 w') (fun w' => w'.heap[W.heap.size]? = some (.cells #[.int .u64 (W64 sd.key.1), .int .u64 (W64 sd.key.2)] 24 (0, 0)) ∧ New w9 w') [0, 1, 0, 2, 0, 1, 0, 2, 0, 0] New (fun _ _ _ => True) (by kernel_rfl) (by kernel_rfl) (by kernel_rfl) (fun _ _ _ _ _ _ => trivial) (fun w' hw' => hw') (⟨HKY.out, (New.refl _).drew⟩) ?_
  intro I J _ _ f g hfa hba hgb hbb
  have HFA := Lib.hid hfa
  have HBA := Lib.hid hba
  have HGB := Lib.hid hgb
  have HBB := Lib.hid hbb
  have s0 := fun n => cell_of_row _ _ 0 _ _ _ (hgb n).1
  have s1 := fun n => cell_of_row _ _ 1 _ _ _ (hgb n).1
  clear hfa hba hgb hbb
  refine Gro3.take0 1 (by kernel_rfl) ?_
  simp only [List.take, List.drop, List.length]
  repeat (go_big_quiet_step (fail))
  refine wpQuiet_nil ?_
  refine Gro3.take1 1 (by kernel_rfl) ?_
  simp only [List.take, List.drop, List.length]
  repeat (go_big_quiet_step (fail))
  refine wpQuiet_nil ?_
  refine Gro3.take0 1 (by kernel_rfl) ?_
  simp only [List.take, List.drop, List.length]
  repeat (go_big_quiet_step (fail))
  refine wpQuiet_nil ?_
  refine Gro3.callt (fun v => v = .agg #[.int .u64 (W64 (hh).2), .int .u64 (W64 (hh).1)]) (fun _ _ => True) rfl rfl (⟨_, rfl⟩) (fun _ _ _ _ _ => trivial) (fun w1 hB hG => ?_) (fun v1 A1 hv1 hA => ?_)
  · obtain ⟨nq, rfl⟩ := hB
    clear s0 s1
    go_simp
    refine (HON.out _ (HN.out.trans (HGB.out nq).2)).mono ?_
    rintro e w2 ⟨rfl, hn⟩
    have HX := HBB.out _ ⟨(hn.block _ (lt_of_block (HGB.out nq).1)).trans (HGB.out nq).1, (HGB.out nq).2.trans hn⟩
    first | exact ⟨_, rfl, HX, hn, rfl⟩ | exact ⟨_, rfl, HX, hn, rfl, trivial⟩ | exact ⟨rfl, HX, hn⟩ | exact ⟨HX, hn, rfl⟩ | exact ⟨HX, hn⟩
  simp [Act.put] at hA
  subst hA
  obtain rfl := hv1
  refine Gro3.take0 1 (by kernel_rfl) ?_
  simp only [List.take, List.drop, List.length]
  repeat (go_big_quiet_step (fail))
  refine wpQuiet_nil ?_
  refine Gro3.take1 1 (by kernel_rfl) ?_
  simp only [List.take, List.drop, List.length]
  repeat (go_big_quiet_step (fail))
  refine wpQuiet_nil ?_
  refine Gro3.take0 1 (by kernel_rfl) ?_
  simp only [List.take, List.drop, List.length]
  repeat (go_big_quiet_step (fail))
  refine wpQuiet_nil ?_
  refine Gro3.callt (fun v => v = .agg #[.int .u64 (W64 (hh).2), .int .u64 (W64 (hh).1)]) (fun _ _ => True) rfl rfl (⟨_, rfl⟩) (fun _ _ _ _ _ => trivial) (fun w1 hB hG => ?_) (fun v2 A2 hv2 hA => ?_)
  · obtain ⟨nq, rfl⟩ := hB
    clear s0 s1
    go_simp
    refine (HRF.out _ (HN.out.trans (HGB.out nq).2)).mono ?_
    rintro e w2 ⟨rfl, hn⟩
    have HX := HBB.out _ ⟨(hn.block _ (lt_of_block (HGB.out nq).1)).trans (HGB.out nq).1, (HGB.out nq).2.trans hn⟩
    first | exact ⟨_, rfl, HX, hn, rfl⟩ | exact ⟨_, rfl, HX, hn, rfl, trivial⟩ | exact ⟨rfl, HX, hn⟩ | exact ⟨HX, hn, rfl⟩ | exact ⟨HX, hn⟩
  simp [Act.put] at hA
  subst hA
  obtain rfl := hv2
  refine Gro3.take0 2 (by kernel_rfl) ?_
  simp only [List.take, List.drop, List.length]
  repeat (go_big_quiet_step (fail))
  refine wpQuiet_nil ?_
  refine Gro3.nil ?_
  rintro w9 ⟨n9, rfl⟩ hG
  have hn := (HGB.out n9).2
  clear HFA HBA HGB HBB s0 s1
  replace HN := Lib.hid (HN.out.trans hn)
  clear hn hG heq HON HRF HKY
  generalize g n9 = w9 at *
  go_wp2
  go_ret
  exact ⟨rfl, HN.out⟩
set_option maxRecDepth 100000 in
set_option maxHeartbeats 2000000 in
theorem one_no34 (W : World) (a0 : Int) (hk : ¬ (6 ≤ a0 ∧ a0 ≤ 8)) (kh kl : BitVec 64) (a2 : Option Addr) (n2 m2 : Nat) (z2 : List Int) (w2 : IRow .u8 W a2 n2 m2 z2) (r2 : m2 * 1 ≤ 140737488351232) :
    Calls Try.prog 3 #[.int .i64 a0, .agg #[.int .u64 (W64 kh), .int .u64 (W64 kl)], .slice a2 n2 m2] W fun e w' => e = .returned (.bool true) ∧ Below W.heap.size W w' := by
  obtain ⟨l, hl⟩ := w2.bytes r2
  have HB := Lib.hid hl
  have HA := Lib.hid awake34
  clear w2 r2 hl
  have HKY := Lib.hid (heap_alloc_new W (.cells #[.int .u64 (W64 kh), .int .u64 (W64 kl)] 24))
  have HN := Lib.hid ((New.refl W).alloc (.cells #[.int .u64 (W64 kh), .int .u64 (W64 kl)] 24))
  go_enter Try.func3, Try.ntmps3
  go_wp2_with fail
  refine (HA.out _).mono ?_
  rintro e w9 ⟨rfl, hn⟩
  replace HKY := Lib.hid ((hn.block _ (lt_of_block HKY.out)).trans HKY.out)
  replace HN := Lib.hid (HN.out.trans hn)
  clear hn HA
  by_cases hs : (2000 : Int) < (n2 : Int)
  · go_wp2
    go_ret
    exact ⟨rfl, HN.out⟩
  have HON := Lib.hid (fun v w => hone_no34 a0 hk kh kl v w)
  have HRF := Lib.hid (fun v w => hash_no34 a0 hk kh kl v w)
  have heq := eqUz
  clear hk
  go_wp2_with fail
  refine Gro3.wp_region_gro3S (fun w' => w'.heap[W.heap.size]? = some (.cells #[.int .u64 (W64 kh), .int .u64 (W64 kl)] 24 (0, 0)) ∧ New w9 w') (fun w' => w'.heap[W.heap.size]? = some (.cells #[.int .u64 (W64 kh), .int .u64 (W64 kl)] 24 (0, 0)) ∧ New w9 w') [0, 1, 0, 2, 0, 1, 0, 2, 0, 0] New (fun _ _ _ => True) (by kernel_rfl) (by kernel_rfl) (by kernel_rfl) (fun _ _ _ _ _ _ => trivial) (fun w' hw' => hw') (⟨HKY.out, (New.refl _).drew⟩) ?_
  intro I J _ _ f g hfa hba hgb hbb
  have HFA := Lib.hid hfa
  have HBA := Lib.hid hba
  have HGB := Lib.hid hgb
  have HBB := Lib.hid hbb
  have s0 := fun n => cell_of_row _ _ 0 _ _ _ (hgb n).1
  have s1 := fun n => cell_of_row _ _ 1 _ _ _ (hgb n).1
  clear hfa hba hgb hbb
  refine Gro3.take0 1 (by kernel_rfl) ?_
  simp only [List.take, List.drop, List.length]
  repeat (go_big_quiet_step (fail))
  refine wpQuiet_nil ?_
  refine Gro3.take1 1 (by kernel_rfl) ?_
  simp only [List.take, List.drop, List.length]
  repeat (go_big_quiet_step (fail))
  refine wpQuiet_nil ?_
  refine Gro3.take0 1 (by kernel_rfl) ?_
  simp only [List.take, List.drop, List.length]
  repeat (go_big_quiet_step (fail))
  refine wpQuiet_nil ?_
  refine Gro3.callt (fun v => v = .agg #[.int .u64 0, .int .u64 0]) (fun _ _ => True) rfl rfl (⟨_, rfl⟩) (fun _ _ _ _ _ => trivial) (fun w1 hB hG => ?_) (fun v1 A1 hv1 hA => ?_)
  · obtain ⟨nq, rfl⟩ := hB
    clear s0 s1
    go_simp
    refine (HON.out _ _).mono ?_
    rintro e w2 ⟨rfl, hn⟩
    have HX := HBB.out _ ⟨(hn.block _ (lt_of_block (HGB.out nq).1)).trans (HGB.out nq).1, (HGB.out nq).2.trans hn⟩
    first | exact ⟨_, rfl, HX, hn, rfl⟩ | exact ⟨_, rfl, HX, hn, rfl, trivial⟩ | exact ⟨rfl, HX, hn⟩ | exact ⟨HX, hn, rfl⟩ | exact ⟨HX, hn⟩
  simp [Act.put] at hA
  subst hA
  obtain rfl := hv1
  refine Gro3.take0 1 (by kernel_rfl) ?_
  simp only [List.take, List.drop, List.length]
  repeat (go_big_quiet_step (fail))
  refine wpQuiet_nil ?_
  refine Gro3.take1 1 (by kernel_rfl) ?_
  simp only [List.take, List.drop, List.length]
  repeat (go_big_quiet_step (fail))
  refine wpQuiet_nil ?_
  refine Gro3.take0 1 (by kernel_rfl) ?_
  simp only [List.take, List.drop, List.length]
  repeat (go_big_quiet_step (fail))
  refine wpQuiet_nil ?_
  refine Gro3.callt (fun v => v = .agg #[.int .u64 0, .int .u64 0]) (fun _ _ => True) rfl rfl (⟨_, rfl⟩) (fun _ _ _ _ _ => trivial) (fun w1 hB hG => ?_) (fun v2 A2 hv2 hA => ?_)
  · obtain ⟨nq, rfl⟩ := hB
    clear s0 s1
    go_simp
    refine (HRF.out _ _).mono ?_
    rintro e w2 ⟨rfl, hn⟩
    have HX := HBB.out _ ⟨(hn.block _ (lt_of_block (HGB.out nq).1)).trans (HGB.out nq).1, (HGB.out nq).2.trans hn⟩
    first | exact ⟨_, rfl, HX, hn, rfl⟩ | exact ⟨_, rfl, HX, hn, rfl, trivial⟩ | exact ⟨rfl, HX, hn⟩ | exact ⟨HX, hn, rfl⟩ | exact ⟨HX, hn⟩
  simp [Act.put] at hA
  subst hA
  obtain rfl := hv2
  refine Gro3.take0 2 (by kernel_rfl) ?_
  simp only [List.take, List.drop, List.length]
  repeat (go_big_quiet_step (fail))
  refine wpQuiet_nil ?_
  refine Gro3.nil ?_
  rintro w9 ⟨n9, rfl⟩ hG
  have hn := (HGB.out n9).2
  clear HFA HBA HGB HBB s0 s1
  replace HN := Lib.hid (HN.out.trans hn)
  clear hn hG heq HON HRF HKY
  generalize g n9 = w9 at *
  go_wp2
  go_ret
  exact ⟨rfl, HN.out⟩
theorem SipOne_walk (W : World) (a0 : Int) (w0 : (Lit.int .i64 a0).wf = true) (x1_0 : BitVec 64) (x1_1 : BitVec 64) (a2 : Option Addr) (n2 m2 : Nat) (z2 : List Int) (w2 : IRow .u8 W a2 n2 m2 z2) (r2 : m2 * 1 ≤ 140737488351232) :
    Calls Try.prog 3 #[.int .i64 a0, .agg #[.int .u64 (W64 x1_0), .int .u64 (W64 x1_1)], .slice a2 n2 m2] W fun e w' => e = .returned (.bool true) ∧ Below W.heap.size W w' := by
  by_cases hk : 6 ≤ a0 ∧ a0 ≤ 8
  · have h3 : a0 = 6 ∨ a0 = 7 ∨ a0 = 8 := by omega
    rcases h3 with rfl | rfl | rfl
    · exact one_y_34 ⟨6, (2, 4, false), Or.inl ⟨rfl, rfl⟩, (x1_0, x1_1)⟩ W a2 n2 m2 z2 w2 r2
    · exact one_y_34 ⟨7, (1, 3, false), Or.inr (Or.inl ⟨rfl, rfl⟩), (x1_0, x1_1)⟩ W a2 n2 m2 z2 w2 r2
    · exact one_y_34 ⟨8, (2, 4, true), Or.inr (Or.inr ⟨rfl, rfl⟩), (x1_0, x1_1)⟩ W a2 n2 m2 z2 w2 r2
  · exact one_no34 W a0 hk x1_0 x1_1 a2 n2 m2 z2 w2 r2
end Go.Proofs.Ytbikekjcbfhoaaa
