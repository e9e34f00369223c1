/- Layer 30: the law Sets. -/
import Derived.Test.YtnapogamcohfaaaM30K
import Derived.Defers
import Derived.Recover
import Derived.Laws.Pointers
import Derived.Handy
import Derived.Laws.EntriesVeiled
namespace Go.Proofs.Ytnapogamcohfaaa
open Go.RowKit Go.Bv
set_option linter.unusedVariables false
theorem right_no_30 (x0 x1 x2 x3 : BitVec 64) (hr : rgt30 (x0, x1, x2, x3) = false) (w : World) : Calls Try.prog 21 #[.agg #[.int .u64 (W64 x0), .int .u64 (W64 x1), .int .u64 (W64 x2), .int .u64 (W64 x3)]] w fun e w' => e = .returned (.bool false) ∧ New w w' := by
  have h := right_30r (x0, x1, x2, x3) w
  rw [hr] at h
  exact h
theorem right_yes_30 (s : BitVec 32 × BitVec 32 × BitVec 32 × BitVec 32) (w : World) : Calls Try.prog 21 #[.agg #[.int .u64 (W64 ((s).1.setWidth 64)), .int .u64 (W64 ((s).2.1.setWidth 64)), .int .u64 (W64 ((s).2.2.1.setWidth 64)), .int .u64 (W64 ((s).2.2.2.setWidth 64))]] w fun e w' => e = .returned (.bool true) ∧ New w w' := by
  have h := right_30r (s.1.setWidth 64, s.2.1.setWidth 64, s.2.2.1.setWidth 64, s.2.2.2.setWidth 64) w
  rw [rgt_low30] at h
  exact h
theorem rgt_true30 (x0 x1 x2 x3 : BitVec 64) (h : rgt30 (x0, x1, x2, x3) = true) : ∃ s : BitVec 32 × BitVec 32 × BitVec 32 × BitVec 32, x0 = s.1.setWidth 64 ∧ x1 = s.2.1.setWidth 64 ∧ x2 = s.2.2.1.setWidth 64 ∧ x3 = s.2.2.2.setWidth 64 := by
  unfold rgt30 at h
  simp only [Bool.and_eq_true, beq_iff_eq] at h
  exact ⟨(x0.setWidth 32, x1.setWidth 32, x2.setWidth 32, x3.setWidth 32), h.1.symm, h.2.1.symm, h.2.2.1.symm, h.2.2.2.symm⟩
def TStr_30 (w : World) (p : Nat) (fs st : BitVec 32 × BitVec 32 × BitVec 32 × BitVec 32) (tl : List (BitVec 8)) (long : BitVec 64) : Prop := ∃ kd, Strm_30 kd w p 16 fs st tl long
theorem TStr_30.stay {w w' : World} {p : Nat} {fs st : BitVec 32 × BitVec 32 × BitVec 32 × BitVec 32} {tl : List (BitVec 8)} {long : BitVec 64} (h : TStr_30 w p fs st tl long) (hn : New w w') : TStr_30 w' p fs st tl long := by
  obtain ⟨kd, hs⟩ := h
  exact ⟨kd, hs.stay hn⟩
theorem tsum_30 (p h : Nat) (fs st : BitVec 32 × BitVec 32 × BitVec 32 × BitVec 32) (tl : List (BitVec 8)) (long : BitVec 64) (w : World) (hx : w.heap[h]? = some (.cells #[.pointer (some ⟨p, 0, none⟩)] 62 (0, 0))) (hs : TStr_30 w p fs st tl long) :
    Calls Try.prog 11 #[.pointer (some ⟨h, 0, none⟩)] w fun e w' => e = .returned (.agg #[.int .u64 (W64 (end30 st tl long).2), .int .u64 (W64 (end30 st tl long).1)]) ∧ New w w' := by
  obtain ⟨kd, hs⟩ := hs
  exact hsum_30 kd p h _ _ _ _ w hx hs
theorem tset_fit_30 (p h : Nat) (sd : BitVec 32) (l0 : List (BitVec 8)) (s : BitVec 32 × BitVec 32 × BitVec 32 × BitVec 32) (long2 : BitVec 64) (b : Option Addr) (lb cb : Nat) (m : List (BitVec 8)) (w : World) (hx : w.heap[h]? = some (.cells #[.pointer (some ⟨p, 0, none⟩)] 62 (0, 0))) (hs : HStr_30 w p sd l0) (hm : BRow w b lb cb m) (hfit : (BitVec.ofNat 64 lb != long2 % 16#64) = false) :
    Calls Try.prog 18 #[.pointer (some ⟨h, 0, none⟩), .agg #[.int .u64 (W64 ((s).1.setWidth 64)), .int .u64 (W64 ((s).2.1.setWidth 64)), .int .u64 (W64 ((s).2.2.1.setWidth 64)), .int .u64 (W64 ((s).2.2.2.setWidth 64))], .int .u64 (W64 long2), .slice b lb cb] w fun e w' => e = .returned (.bool true) ∧ TStr_30 w' p (start30 sd) s m long2 ∧ But p w w' := by
  obtain ⟨kd, hs, hf⟩ := hs
  refine (hset_fit_30 kd p h _ _ _ _ s _ _ _ _ _ w hx hs hm hfit).mono ?_
  rintro e w' ⟨h1, h2, h3⟩
  exact ⟨h1, ⟨kd, h2⟩, h3⟩
theorem tset_unfit_30 (p h : Nat) (sd : BitVec 32) (l0 : List (BitVec 8)) (s : BitVec 32 × BitVec 32 × BitVec 32 × BitVec 32) (long2 : BitVec 64) (b : Option Addr) (lb cb : Nat) (m : List (BitVec 8)) (w : World) (hx : w.heap[h]? = some (.cells #[.pointer (some ⟨p, 0, none⟩)] 62 (0, 0))) (hs : HStr_30 w p sd l0) (hm : BRow w b lb cb m) (hfit : (BitVec.ofNat 64 lb != long2 % 16#64) = true) :
    Calls Try.prog 18 #[.pointer (some ⟨h, 0, none⟩), .agg #[.int .u64 (W64 ((s).1.setWidth 64)), .int .u64 (W64 ((s).2.1.setWidth 64)), .int .u64 (W64 ((s).2.2.1.setWidth 64)), .int .u64 (W64 ((s).2.2.2.setWidth 64))], .int .u64 (W64 long2), .slice b lb cb] w fun e w' => e = .returned (.bool false) ∧ New w w' := by
  obtain ⟨kd, hs, hf⟩ := hs
  exact hset_unfit_30 kd p h _ _ _ _ s _ _ _ _ _ w hx hs hm hfit
set_option maxRecDepth 100000 in
set_option maxHeartbeats 8000000 in
theorem sets_no_30 (W : World) (sd : BitVec 32) (x0 x1 x2 x3 : BitVec 64) (lo : BitVec 64) (a : Option Addr) (n m : Nat) (l : List (BitVec 8)) (hl : BRow W a n m l) (hr : rgt30 (x0, x1, x2, x3) = false) :
    Calls Try.prog 6 #[.int .u32 (W32 sd), .agg #[.int .u64 (W64 x0), .int .u64 (W64 x1), .int .u64 (W64 x2), .int .u64 (W64 x3)], .int .u64 (W64 lo), .slice a n m] W fun e w' => e = .returned (.bool true) ∧ Below W.heap.size W w' := by
  have HB := Lib.hid hl
  have HQB := Lib.hid hl.len_eq
  have HLB := Lib.hid (heap_alloc_new W (.cells #[.int .u64 (W64 x0), .int .u64 (W64 x1), .int .u64 (W64 x2), .int .u64 (W64 x3)] 38))
  have HN := Lib.hid ((New.refl W).alloc (.cells #[.int .u64 (W64 x0), .int .u64 (W64 x1), .int .u64 (W64 x2), .int .u64 (W64 x3)] 38))
  have HNW := Lib.hid (fun w => lnew_30 sd w)
  have HA := Lib.hid (fun w => awake_30 w)
  have HRI := Lib.hid (right_no_30 x0 x1 x2 x3 hr)
  have HST := Lib.hid (fun v1 v2 v3 w => hset_no_30 (0, 0) v1 v2 v3 (x0, x1, x2, x3) hr w)
  clear hr
  have HR0 := Lib.hid (fun w => hash_ref30 sd none 0 0 [] w (brow_none w))
  have HSM := Lib.hid (fun p h w hx hs => lsum_30 p h sd [] w hx hs)
  obtain ⟨hh, hhe⟩ : ∃ r, hash30 sd [] = r := ⟨_, rfl⟩
  rw [hhe] at HR0 HSM
  clear hhe
  clear hl
  go_enter Try.func6, Try.ntmps6
  go_wp2_with fail
  refine (HA.out _).mono ?_
  rintro e w9 ⟨rfl, hn⟩
  replace HLB := Lib.hid ((hn.block _ (lt_of_block HLB.out)).trans HLB.out)
  replace HN := Lib.hid (HN.out.trans hn)
  clear hn HA
  by_cases hs : (100 : Int) < (n : Int)
  · go_wp2
    go_ret
    exact ⟨rfl, HN.out⟩
  have hs2 : ¬ (100 : Int) < (n : Int) := by omega
  have HLE : Hid (n ≤ 100) := Lib.hid (by omega)
  clear hs
  go_wp2_with fail
  refine (HNW.out _).mono ?_
  rintro e w9 ⟨p, y, rfl, hp, hpy, hx, hs, hn⟩
  have HWP : Hid (W.heap.size < p) := Lib.hid (Nat.lt_of_lt_of_le (lt_of_block HLB.out) hp)
  have HPY : Hid (p < y) := Lib.hid hpy
  replace HLB := Lib.hid ((hn.block _ (lt_of_block HLB.out)).trans HLB.out)
  replace HN := Lib.hid (HN.out.trans hn)
  have HS := Lib.hid hs
  have HX := Lib.hid hx
  clear hs hx hn hp hpy hs2 HNW
  have u0 := cell_of_row _ _ 0 _ _ _ HLB.out
  have u1 := cell_of_row _ _ 1 _ _ _ HLB.out
  have u2 := cell_of_row _ _ 2 _ _ _ HLB.out
  have u3 := cell_of_row _ _ 3 _ _ _ HLB.out
  go_wp2_with fail
  refine (HRI.out _).mono ?_
  rintro e w9 ⟨rfl, hn⟩
  replace HS := Lib.hid (HS.out.stay hn)
  replace HLB := Lib.hid ((hn.block _ (lt_of_block HLB.out)).trans HLB.out)
  replace HX := Lib.hid ((hn.block _ (lt_of_block HX.out)).trans HX.out)
  replace HN := Lib.hid (HN.out.trans hn)
  clear hn HRI u0 u1 u2 u3
  have u0 := cell_of_row _ _ 0 _ _ _ HLB.out
  have u1 := cell_of_row _ _ 1 _ _ _ HLB.out
  have u2 := cell_of_row _ _ 2 _ _ _ HLB.out
  have u3 := cell_of_row _ _ 3 _ _ _ HLB.out
  go_wp2_with fail
  refine (HST.out _ _ _ _).mono ?_
  rintro e w9 ⟨rfl, hn⟩
  replace HS := Lib.hid (HS.out.stay hn)
  replace HLB := Lib.hid ((hn.block _ (lt_of_block HLB.out)).trans HLB.out)
  replace HX := Lib.hid ((hn.block _ (lt_of_block HX.out)).trans HX.out)
  replace HN := Lib.hid (HN.out.trans hn)
  clear hn u0 u1 u2 u3 HST
  have heq := fun w => eqUs w hh.2 hh.1
  go_wp2_with fail
  refine Gro3.wp_region_gro3S (fun w' => New w9 w') (fun w' => New w9 w') [0, 0, 0, 0, 2, 0, 2, 0, 0, 0, 0, 0, 0, 0, 0, 0, 0, 0, 0, 0, 0, 0] New (fun _ _ _ => True) (by kernel_rfl) (by kernel_rfl) (by kernel_rfl) (fun _ _ _ _ _ _ => trivial) (fun w' hw' => hw') ((New.refl _).drew) ?_
  intro I J _ _ f g hfa hba hgb hbb
  have HFA := Lib.hid hfa
  have HBA := Lib.hid hba
  have HGB := Lib.hid hgb
  have HBB := Lib.hid hbb
  clear hfa hba hgb hbb
  refine Gro3.take0 4 (by kernel_rfl) ?_
  simp only [List.take, List.drop, List.length]
  repeat (go_big_quiet_step (fail))
  refine wpQuiet_nil ?_
  refine Gro3.callt (fun v => v = .agg #[.int .u64 (W64 (hh).2), .int .u64 (W64 (hh).1)]) (fun _ _ => True) rfl rfl (⟨_, rfl⟩) (fun _ _ _ _ _ => trivial) (fun w1 hB hG => ?_) (fun v1 A1 hv1 hA => ?_)
  · obtain ⟨nq, rfl⟩ := hB
    go_simp
    refine (HSM.out p y _ (((HGB.out nq).block _ (lt_of_block HX.out)).trans HX.out) (HS.out.stay (HGB.out nq))).mono ?_
    rintro e w2 ⟨rfl, hn⟩
    have HX := HBB.out _ ((HGB.out nq).trans hn)
    first | exact ⟨_, rfl, HX, hn, rfl⟩ | exact ⟨_, rfl, HX, hn, rfl, trivial⟩ | exact ⟨rfl, HX, hn⟩ | exact ⟨HX, hn, rfl⟩ | exact ⟨HX, hn⟩
  simp [Act.put] at hA
  subst hA
  obtain rfl := hv1
  refine Gro3.take0 1 (by kernel_rfl) ?_
  simp only [List.take, List.drop, List.length]
  repeat (go_big_quiet_step (fail))
  refine wpQuiet_nil ?_
  refine Gro3.callt (fun v => v = .agg #[.int .u64 (W64 (hh).2), .int .u64 (W64 (hh).1)]) (fun _ _ => True) rfl rfl (⟨_, rfl⟩) (fun _ _ _ _ _ => trivial) (fun w1 hB hG => ?_) (fun v2 A2 hv2 hA => ?_)
  · obtain ⟨nq, rfl⟩ := hB
    go_simp
    refine (HR0.out _).mono ?_
    rintro e w2 ⟨rfl, hn⟩
    have HX := HBB.out _ ((HGB.out nq).trans hn)
    first | exact ⟨_, rfl, HX, hn, rfl⟩ | exact ⟨_, rfl, HX, hn, rfl, trivial⟩ | exact ⟨rfl, HX, hn⟩ | exact ⟨HX, hn, rfl⟩ | exact ⟨HX, hn⟩
  simp [Act.put] at hA
  subst hA
  obtain rfl := hv2
  refine Gro3.take0 4 (by kernel_rfl) ?_
  simp only [List.take, List.drop, List.length]
  repeat (go_big_quiet_step (fail))
  refine wpQuiet_nil ?_
  refine Gro3.mvskips (.tmp 53) (.bool false) 8 rfl rfl rfl rfl (by kernel_rfl) (fun A3 hA => ?_)
  simp [Act.put, Gro3.skipTo] at hA
  subst hA
  simp only [List.drop]
  refine Gro3.take0 2 (by kernel_rfl) ?_
  simp only [List.take, List.drop, List.length]
  repeat (go_big_quiet_step (fail))
  refine wpQuiet_nil ?_
  refine Gro3.nil ?_
  rintro w9 ⟨n9, rfl⟩ hG
  have hn := (HGB.out n9)
  clear HFA HBA HGB HBB
  replace HN := Lib.hid (HN.out.trans hn)
  clear hn hG HS HX HLB heq HSM HR0
  generalize g n9 = w9 at *
  have HSZ := Lib.hid (hset_n_30 (0, 0) (.int .u64 0) (.slice none 0 0) (0#32, 0#32, 0#32, 0#32))
  simp only at HSZ
  rw [show W64 ((0#32 : BitVec 32).setWidth 64) = 0 by decide] at HSZ
  go_wp2_with fail
  refine (hwrite_n_30 (0, 0) _ _).mono ?_
  rintro e w9 ⟨rfl, rfl⟩
  go_wp2_with fail
  refine (hreset_n_30 (0, 0) _).mono ?_
  rintro e w9 ⟨rfl, rfl⟩
  go_wp2_with fail
  refine (hlanes_n_30 (0, 0) _).mono ?_
  rintro e w9 ⟨rfl, hn⟩
  replace HN := Lib.hid (HN.out.trans hn)
  clear hn
  have hx := heap_alloc_new w9 (.cells #[.int .u64 0, .int .u64 0, .int .u64 0, .int .u64 0] 38)
  have hn2 := (New.refl w9).alloc (.cells #[.int .u64 0, .int .u64 0, .int .u64 0, .int .u64 0] 38)
  go_wp2_with fail
  replace HN := Lib.hid (HN.out.trans hn2)
  generalize w9.alloc (.cells #[.int .u64 0, .int .u64 0, .int .u64 0, .int .u64 0] 38) = w10 at *
  generalize w9.heap.size = qHLZ at *
  have HLZ := Lib.hid hx
  clear hx hn2
  refine (hsum_n_30 (0, 0) _).mono ?_
  rintro e w9 ⟨rfl, hn⟩
  replace HLZ := Lib.hid ((hn.block _ (lt_of_block HLZ.out)).trans HLZ.out)
  replace HN := Lib.hid (HN.out.trans hn)
  clear hn
  have hez := eqUz
  go_wp2_with fail
  refine (hclone_n_30 (0, 0) _).mono ?_
  rintro e w9 ⟨rfl, rfl⟩
  have z0 := cell_of_row _ _ 0 _ _ _ HLZ.out
  have z1 := cell_of_row _ _ 1 _ _ _ HLZ.out
  have z2 := cell_of_row _ _ 2 _ _ _ HLZ.out
  have z3 := cell_of_row _ _ 3 _ _ _ HLZ.out
  have he4z := eq4zz
  go_wp2_with fail
  refine (HSZ.out _).mono ?_
  rintro e w9 ⟨rfl, hn⟩
  clear z0 z1 z2 z3
  replace HLZ := Lib.hid ((hn.block _ (lt_of_block HLZ.out)).trans HLZ.out)
  replace HN := Lib.hid (HN.out.trans hn)
  clear hn
  go_wp2
  go_ret
  exact ⟨rfl, HN.out⟩
set_option maxRecDepth 100000 in
set_option maxHeartbeats 8000000 in
theorem sets_unfit_30 (W : World) (sd : BitVec 32) (s : BitVec 32 × BitVec 32 × BitVec 32 × BitVec 32) (lo : BitVec 64) (a : Option Addr) (n m : Nat) (l : List (BitVec 8)) (hl : BRow W a n m l) (hfit : (BitVec.ofNat 64 n != lo % 16#64) = true) :
    Calls Try.prog 6 #[.int .u32 (W32 sd), .agg #[.int .u64 (W64 ((s).1.setWidth 64)), .int .u64 (W64 ((s).2.1.setWidth 64)), .int .u64 (W64 ((s).2.2.1.setWidth 64)), .int .u64 (W64 ((s).2.2.2.setWidth 64))], .int .u64 (W64 lo), .slice a n m] W fun e w' => e = .returned (.bool true) ∧ Below W.heap.size W w' := by
  have HB := Lib.hid hl
  have HQB := Lib.hid hl.len_eq
  have HLB := Lib.hid (heap_alloc_new W (.cells #[.int .u64 (W64 ((s).1.setWidth 64)), .int .u64 (W64 ((s).2.1.setWidth 64)), .int .u64 (W64 ((s).2.2.1.setWidth 64)), .int .u64 (W64 ((s).2.2.2.setWidth 64))] 38))
  have HN := Lib.hid ((New.refl W).alloc (.cells #[.int .u64 (W64 ((s).1.setWidth 64)), .int .u64 (W64 ((s).2.1.setWidth 64)), .int .u64 (W64 ((s).2.2.1.setWidth 64)), .int .u64 (W64 ((s).2.2.2.setWidth 64))] 38))
  have HNW := Lib.hid (fun w => lnew_30 sd w)
  have HA := Lib.hid (fun w => awake_30 w)
  have HRI := Lib.hid (right_yes_30 s)
  have hft3 : (BitVec.ofNat 64 n == lo % 16#64) = false := by revert hfit; cases h : (BitVec.ofNat 64 n == lo % 16#64) <;> simp [bne, h]
  have hft2 : (W64 (BitVec.ofNat 64 n) == W64 (lo % 16#64)) = false := by rw [eq_u64]; exact hft3
  have HFT := Lib.hid hfit
  clear hfit
  have HR0 := Lib.hid (fun w => hash_ref30 sd none 0 0 [] w (brow_none w))
  have HSM := Lib.hid (fun p h w hx hs => lsum_30 p h sd [] w hx hs)
  obtain ⟨hh, hhe⟩ : ∃ r, hash30 sd [] = r := ⟨_, rfl⟩
  rw [hhe] at HR0 HSM
  clear hhe
  clear hl
  go_enter Try.func6, Try.ntmps6
  go_wp2_with fail
  refine (HA.out _).mono ?_
  rintro e w9 ⟨rfl, hn⟩
  replace HLB := Lib.hid ((hn.block _ (lt_of_block HLB.out)).trans HLB.out)
  replace HN := Lib.hid (HN.out.trans hn)
  clear hn HA
  by_cases hs : (100 : Int) < (n : Int)
  · go_wp2
    go_ret
    exact ⟨rfl, HN.out⟩
  have hs2 : ¬ (100 : Int) < (n : Int) := by omega
  have HLE : Hid (n ≤ 100) := Lib.hid (by omega)
  clear hs
  go_wp2_with fail
  refine (HNW.out _).mono ?_
  rintro e w9 ⟨p, y, rfl, hp, hpy, hx, hs, hn⟩
  have HWP : Hid (W.heap.size < p) := Lib.hid (Nat.lt_of_lt_of_le (lt_of_block HLB.out) hp)
  have HPY : Hid (p < y) := Lib.hid hpy
  replace HLB := Lib.hid ((hn.block _ (lt_of_block HLB.out)).trans HLB.out)
  replace HN := Lib.hid (HN.out.trans hn)
  have HS := Lib.hid hs
  have HX := Lib.hid hx
  clear hs hx hn hp hpy hs2 HNW
  have u0 := cell_of_row _ _ 0 _ _ _ HLB.out
  have u1 := cell_of_row _ _ 1 _ _ _ HLB.out
  have u2 := cell_of_row _ _ 2 _ _ _ HLB.out
  have u3 := cell_of_row _ _ 3 _ _ _ HLB.out
  go_wp2_with fail
  refine (HRI.out _).mono ?_
  rintro e w9 ⟨rfl, hn⟩
  replace HS := Lib.hid (HS.out.stay hn)
  replace HLB := Lib.hid ((hn.block _ (lt_of_block HLB.out)).trans HLB.out)
  replace HX := Lib.hid ((hn.block _ (lt_of_block HX.out)).trans HX.out)
  replace HN := Lib.hid (HN.out.trans hn)
  clear hn HRI u0 u1 u2 u3
  have u0 := cell_of_row _ _ 0 _ _ _ HLB.out
  have u1 := cell_of_row _ _ 1 _ _ _ HLB.out
  have u2 := cell_of_row _ _ 2 _ _ _ HLB.out
  have u3 := cell_of_row _ _ 3 _ _ _ HLB.out
  go_wp2_with fail
  refine (tset_unfit_30 p y _ _ s lo _ _ _ _ _ HX.out HS.out (HB.out.stay HN.out) HFT.out).mono ?_
  rintro e w9 ⟨rfl, hn⟩
  replace HS := Lib.hid (HS.out.stay hn)
  replace HLB := Lib.hid ((hn.block _ (lt_of_block HLB.out)).trans HLB.out)
  replace HX := Lib.hid ((hn.block _ (lt_of_block HX.out)).trans HX.out)
  replace HN := Lib.hid (HN.out.trans hn)
  clear hn u0 u1 u2 u3 hft2 hft3
  have heq := fun w => eqUs w hh.2 hh.1
  go_wp2_with fail
  refine Gro3.wp_region_gro3S (fun w' => New w9 w') (fun w' => New w9 w') [0, 0, 0, 0, 2, 0, 2, 0, 0, 0, 0, 0, 0, 0, 0, 0, 0, 0, 0, 0, 0, 0] New (fun _ _ _ => True) (by kernel_rfl) (by kernel_rfl) (by kernel_rfl) (fun _ _ _ _ _ _ => trivial) (fun w' hw' => hw') ((New.refl _).drew) ?_
  intro I J _ _ f g hfa hba hgb hbb
  have HFA := Lib.hid hfa
  have HBA := Lib.hid hba
  have HGB := Lib.hid hgb
  have HBB := Lib.hid hbb
  clear hfa hba hgb hbb
  refine Gro3.take0 4 (by kernel_rfl) ?_
  simp only [List.take, List.drop, List.length]
  repeat (go_big_quiet_step (fail))
  refine wpQuiet_nil ?_
  refine Gro3.callt (fun v => v = .agg #[.int .u64 (W64 (hh).2), .int .u64 (W64 (hh).1)]) (fun _ _ => True) rfl rfl (⟨_, rfl⟩) (fun _ _ _ _ _ => trivial) (fun w1 hB hG => ?_) (fun v1 A1 hv1 hA => ?_)
  · obtain ⟨nq, rfl⟩ := hB
    go_simp
    refine (HSM.out p y _ (((HGB.out nq).block _ (lt_of_block HX.out)).trans HX.out) (HS.out.stay (HGB.out nq))).mono ?_
    rintro e w2 ⟨rfl, hn⟩
    have HX := HBB.out _ ((HGB.out nq).trans hn)
    first | exact ⟨_, rfl, HX, hn, rfl⟩ | exact ⟨_, rfl, HX, hn, rfl, trivial⟩ | exact ⟨rfl, HX, hn⟩ | exact ⟨HX, hn, rfl⟩ | exact ⟨HX, hn⟩
  simp [Act.put] at hA
  subst hA
  obtain rfl := hv1
  refine Gro3.take0 1 (by kernel_rfl) ?_
  simp only [List.take, List.drop, List.length]
  repeat (go_big_quiet_step (fail))
  refine wpQuiet_nil ?_
  refine Gro3.callt (fun v => v = .agg #[.int .u64 (W64 (hh).2), .int .u64 (W64 (hh).1)]) (fun _ _ => True) rfl rfl (⟨_, rfl⟩) (fun _ _ _ _ _ => trivial) (fun w1 hB hG => ?_) (fun v2 A2 hv2 hA => ?_)
  · obtain ⟨nq, rfl⟩ := hB
    go_simp
    refine (HR0.out _).mono ?_
    rintro e w2 ⟨rfl, hn⟩
    have HX := HBB.out _ ((HGB.out nq).trans hn)
    first | exact ⟨_, rfl, HX, hn, rfl⟩ | exact ⟨_, rfl, HX, hn, rfl, trivial⟩ | exact ⟨rfl, HX, hn⟩ | exact ⟨HX, hn, rfl⟩ | exact ⟨HX, hn⟩
  simp [Act.put] at hA
  subst hA
  obtain rfl := hv2
  refine Gro3.take0 4 (by kernel_rfl) ?_
  simp only [List.take, List.drop, List.length]
  repeat (go_big_quiet_step (fail))
  refine wpQuiet_nil ?_
  refine Gro3.mvskips (.tmp 53) (.bool false) 8 rfl rfl rfl rfl (by kernel_rfl) (fun A3 hA => ?_)
  simp [Act.put, Gro3.skipTo] at hA
  subst hA
  simp only [List.drop]
  refine Gro3.take0 2 (by kernel_rfl) ?_
  simp only [List.take, List.drop, List.length]
  repeat (go_big_quiet_step (fail))
  refine wpQuiet_nil ?_
  refine Gro3.nil ?_
  rintro w9 ⟨n9, rfl⟩ hG
  have hn := (HGB.out n9)
  clear HFA HBA HGB HBB
  replace HN := Lib.hid (HN.out.trans hn)
  clear hn hG HS HX HLB heq HSM HR0
  generalize g n9 = w9 at *
  have HSZ := Lib.hid (hset_n_30 (0, 0) (.int .u64 0) (.slice none 0 0) (0#32, 0#32, 0#32, 0#32))
  simp only at HSZ
  rw [show W64 ((0#32 : BitVec 32).setWidth 64) = 0 by decide] at HSZ
  go_wp2_with fail
  refine (hwrite_n_30 (0, 0) _ _).mono ?_
  rintro e w9 ⟨rfl, rfl⟩
  go_wp2_with fail
  refine (hreset_n_30 (0, 0) _).mono ?_
  rintro e w9 ⟨rfl, rfl⟩
  go_wp2_with fail
  refine (hlanes_n_30 (0, 0) _).mono ?_
  rintro e w9 ⟨rfl, hn⟩
  replace HN := Lib.hid (HN.out.trans hn)
  clear hn
  have hx := heap_alloc_new w9 (.cells #[.int .u64 0, .int .u64 0, .int .u64 0, .int .u64 0] 38)
  have hn2 := (New.refl w9).alloc (.cells #[.int .u64 0, .int .u64 0, .int .u64 0, .int .u64 0] 38)
  go_wp2_with fail
  replace HN := Lib.hid (HN.out.trans hn2)
  generalize w9.alloc (.cells #[.int .u64 0, .int .u64 0, .int .u64 0, .int .u64 0] 38) = w10 at *
  generalize w9.heap.size = qHLZ at *
  have HLZ := Lib.hid hx
  clear hx hn2
  refine (hsum_n_30 (0, 0) _).mono ?_
  rintro e w9 ⟨rfl, hn⟩
  replace HLZ := Lib.hid ((hn.block _ (lt_of_block HLZ.out)).trans HLZ.out)
  replace HN := Lib.hid (HN.out.trans hn)
  clear hn
  have hez := eqUz
  go_wp2_with fail
  refine (hclone_n_30 (0, 0) _).mono ?_
  rintro e w9 ⟨rfl, rfl⟩
  have z0 := cell_of_row _ _ 0 _ _ _ HLZ.out
  have z1 := cell_of_row _ _ 1 _ _ _ HLZ.out
  have z2 := cell_of_row _ _ 2 _ _ _ HLZ.out
  have z3 := cell_of_row _ _ 3 _ _ _ HLZ.out
  have he4z := eq4zz
  go_wp2_with fail
  refine (HSZ.out _).mono ?_
  rintro e w9 ⟨rfl, hn⟩
  clear z0 z1 z2 z3
  replace HLZ := Lib.hid ((hn.block _ (lt_of_block HLZ.out)).trans HLZ.out)
  replace HN := Lib.hid (HN.out.trans hn)
  clear hn
  go_wp2
  go_ret
  exact ⟨rfl, HN.out⟩
set_option maxRecDepth 100000 in
set_option maxHeartbeats 8000000 in
theorem sets_fit_30 (W : World) (sd : BitVec 32) (s : BitVec 32 × BitVec 32 × BitVec 32 × BitVec 32) (lo : BitVec 64) (a : Option Addr) (n m : Nat) (l : List (BitVec 8)) (hl : BRow W a n m l) (hfit : (BitVec.ofNat 64 n != lo % 16#64) = false) :
    Calls Try.prog 6 #[.int .u32 (W32 sd), .agg #[.int .u64 (W64 ((s).1.setWidth 64)), .int .u64 (W64 ((s).2.1.setWidth 64)), .int .u64 (W64 ((s).2.2.1.setWidth 64)), .int .u64 (W64 ((s).2.2.2.setWidth 64))], .int .u64 (W64 lo), .slice a n m] W fun e w' => e = .returned (.bool true) ∧ Below W.heap.size W w' := by
  have HB := Lib.hid hl
  have HQB := Lib.hid hl.len_eq
  have HLB := Lib.hid (heap_alloc_new W (.cells #[.int .u64 (W64 ((s).1.setWidth 64)), .int .u64 (W64 ((s).2.1.setWidth 64)), .int .u64 (W64 ((s).2.2.1.setWidth 64)), .int .u64 (W64 ((s).2.2.2.setWidth 64))] 38))
  have HN := Lib.hid ((New.refl W).alloc (.cells #[.int .u64 (W64 ((s).1.setWidth 64)), .int .u64 (W64 ((s).2.1.setWidth 64)), .int .u64 (W64 ((s).2.2.1.setWidth 64)), .int .u64 (W64 ((s).2.2.2.setWidth 64))] 38))
  have HNW := Lib.hid (fun w => lnew_30 sd w)
  have HA := Lib.hid (fun w => awake_30 w)
  have HRI := Lib.hid (right_yes_30 s)
  have hft3 : (BitVec.ofNat 64 n == lo % 16#64) = true := by revert hfit; cases h : (BitVec.ofNat 64 n == lo % 16#64) <;> simp [bne, h]
  have hft2 : (W64 (BitVec.ofNat 64 n) == W64 (lo % 16#64)) = true := by rw [eq_u64]; exact hft3
  have HFT := Lib.hid hfit
  clear hfit
  have HEN := Lib.hid (fun w (h : BRow w a n m l) => end_ref30 (.int .u32 (W32 sd)) s a n m l lo w h)
  have HSM := Lib.hid (fun p h fs w hx hs => tsum_30 p h fs s l lo w hx hs)
  obtain ⟨hh, hhe⟩ : ∃ r, end30 s l lo = r := ⟨_, rfl⟩
  rw [hhe] at HEN HSM
  clear hhe
  clear hl
  go_enter Try.func6, Try.ntmps6
  go_wp2_with fail
  refine (HA.out _).mono ?_
  rintro e w9 ⟨rfl, hn⟩
  replace HLB := Lib.hid ((hn.block _ (lt_of_block HLB.out)).trans HLB.out)
  replace HN := Lib.hid (HN.out.trans hn)
  clear hn HA
  by_cases hs : (100 : Int) < (n : Int)
  · go_wp2
    go_ret
    exact ⟨rfl, HN.out⟩
  have hs2 : ¬ (100 : Int) < (n : Int) := by omega
  have HLE : Hid (n ≤ 100) := Lib.hid (by omega)
  clear hs
  go_wp2_with fail
  refine (HNW.out _).mono ?_
  rintro e w9 ⟨p, y, rfl, hp, hpy, hx, hs, hn⟩
  have HWP : Hid (W.heap.size < p) := Lib.hid (Nat.lt_of_lt_of_le (lt_of_block HLB.out) hp)
  have HPY : Hid (p < y) := Lib.hid hpy
  replace HLB := Lib.hid ((hn.block _ (lt_of_block HLB.out)).trans HLB.out)
  replace HN := Lib.hid (HN.out.trans hn)
  have HS := Lib.hid hs
  have HX := Lib.hid hx
  clear hs hx hn hp hpy hs2 HNW
  have u0 := cell_of_row _ _ 0 _ _ _ HLB.out
  have u1 := cell_of_row _ _ 1 _ _ _ HLB.out
  have u2 := cell_of_row _ _ 2 _ _ _ HLB.out
  have u3 := cell_of_row _ _ 3 _ _ _ HLB.out
  go_wp2_with fail
  refine (HRI.out _).mono ?_
  rintro e w9 ⟨rfl, hn⟩
  replace HS := Lib.hid (HS.out.stay hn)
  replace HLB := Lib.hid ((hn.block _ (lt_of_block HLB.out)).trans HLB.out)
  replace HX := Lib.hid ((hn.block _ (lt_of_block HX.out)).trans HX.out)
  replace HN := Lib.hid (HN.out.trans hn)
  clear hn HRI u0 u1 u2 u3
  have u0 := cell_of_row _ _ 0 _ _ _ HLB.out
  have u1 := cell_of_row _ _ 1 _ _ _ HLB.out
  have u2 := cell_of_row _ _ 2 _ _ _ HLB.out
  have u3 := cell_of_row _ _ 3 _ _ _ HLB.out
  go_wp2_with fail
  refine (tset_fit_30 p y _ _ s lo _ _ _ _ _ HX.out HS.out (HB.out.stay HN.out) HFT.out).mono ?_
  rintro e w9 ⟨rfl, hs, hb⟩
  clear u0 u1 u2 u3 hft2 hft3
  have hnb := HS.out.noBytes
  replace HLB := Lib.hid (hb.keep (by have := HWP.out; omega) HLB.out)
  replace HX := Lib.hid (hb.keep (by have := HPY.out; omega) HX.out)
  replace HN := Lib.hid (hb.new _ HN.out (by have := HWP.out; omega))
  clear HS
  have HS := Lib.hid hs
  clear hs hb hnb
  have heq := fun w => eqUs w hh.2 hh.1
  go_wp2_with fail
  refine Gro3.wp_region_gro3S (fun w' => w'.heap[W.heap.size]? = some (.cells #[.int .u64 (W64 ((s).1.setWidth 64)), .int .u64 (W64 ((s).2.1.setWidth 64)), .int .u64 (W64 ((s).2.2.1.setWidth 64)), .int .u64 (W64 ((s).2.2.2.setWidth 64))] 38 (0, 0)) ∧ New w9 w') (fun w' => w'.heap[W.heap.size]? = some (.cells #[.int .u64 (W64 ((s).1.setWidth 64)), .int .u64 (W64 ((s).2.1.setWidth 64)), .int .u64 (W64 ((s).2.2.1.setWidth 64)), .int .u64 (W64 ((s).2.2.2.setWidth 64))] 38 (0, 0)) ∧ New w9 w') [0, 0, 0, 0, 0, 0, 0, 0, 0, 0, 0, 0, 0, 2, 0, 1, 0, 0, 2, 0, 0, 0] New (fun _ _ _ => True) (by kernel_rfl) (by kernel_rfl) (by kernel_rfl) (fun _ _ _ _ _ _ => trivial) (fun w' hw' => hw') (⟨HLB.out, (New.refl _).drew⟩) ?_
  intro I J _ _ f g hfa hba hgb hbb
  have HFA := Lib.hid hfa
  have HBA := Lib.hid hba
  have HGB := Lib.hid hgb
  have HBB := Lib.hid hbb
  have s0 := fun n => cell_of_row _ _ 0 _ _ _ (hgb n).1
  have s1 := fun n => cell_of_row _ _ 1 _ _ _ (hgb n).1
  have s2 := fun n => cell_of_row _ _ 2 _ _ _ (hgb n).1
  have s3 := fun n => cell_of_row _ _ 3 _ _ _ (hgb n).1
  clear hfa hba hgb hbb
  refine Gro3.take0 3 (by kernel_rfl) ?_
  simp only [List.take, List.drop, List.length]
  repeat (go_big_quiet_step (fail))
  refine wpQuiet_nil ?_
  refine Gro3.skip rfl (fun A1 hA => ?_)
  simp [Act.put] at hA
  subst hA
  refine Gro3.skip rfl (fun A2 hA => ?_)
  simp [Act.put] at hA
  subst hA
  refine Gro3.skip rfl (fun A3 hA => ?_)
  simp [Act.put] at hA
  subst hA
  refine Gro3.skip rfl (fun A4 hA => ?_)
  simp [Act.put] at hA
  subst hA
  refine Gro3.skip rfl (fun A5 hA => ?_)
  simp [Act.put] at hA
  subst hA
  refine Gro3.take0 5 (by kernel_rfl) ?_
  simp only [List.take, List.drop, List.length]
  repeat (go_big_quiet_step (fail))
  refine wpQuiet_nil ?_
  refine Gro3.callt (fun v => v = .agg #[.int .u64 (W64 (hh).2), .int .u64 (W64 (hh).1)]) (fun _ _ => True) rfl rfl (⟨_, rfl⟩) (fun _ _ _ _ _ => trivial) (fun w1 hB hG => ?_) (fun v6 A6 hv6 hA => ?_)
  · obtain ⟨nq, rfl⟩ := hB
    clear s0 s1 s2 s3
    go_simp
    refine (HSM.out p y _ _ (((HGB.out nq).2.block _ (lt_of_block HX.out)).trans HX.out) (HS.out.stay (HGB.out nq).2)).mono ?_
    rintro e w2 ⟨rfl, hn⟩
    have HX := HBB.out _ ⟨(hn.block _ (lt_of_block (HGB.out nq).1)).trans (HGB.out nq).1, (HGB.out nq).2.trans hn⟩
    first | exact ⟨_, rfl, HX, hn, rfl⟩ | exact ⟨_, rfl, HX, hn, rfl, trivial⟩ | exact ⟨rfl, HX, hn⟩ | exact ⟨HX, hn, rfl⟩ | exact ⟨HX, hn⟩
  simp [Act.put] at hA
  subst hA
  obtain rfl := hv6
  refine Gro3.take0 1 (by kernel_rfl) ?_
  simp only [List.take, List.drop, List.length]
  repeat (go_big_quiet_step (fail))
  refine wpQuiet_nil ?_
  refine Gro3.take1 1 (by kernel_rfl) ?_
  simp only [List.take, List.drop, List.length]
  repeat (go_big_quiet_step (fail))
  refine wpQuiet_nil ?_
  refine Gro3.take0 2 (by kernel_rfl) ?_
  simp only [List.take, List.drop, List.length]
  repeat (go_big_quiet_step (fail))
  refine wpQuiet_nil ?_
  refine Gro3.callt (fun v => v = .agg #[.int .u64 (W64 (hh).2), .int .u64 (W64 (hh).1)]) (fun _ _ => True) rfl rfl (⟨_, rfl⟩) (fun _ _ _ _ _ => trivial) (fun w1 hB hG => ?_) (fun v7 A7 hv7 hA => ?_)
  · obtain ⟨nq, rfl⟩ := hB
    clear s0 s1 s2 s3
    go_simp
    refine (HEN.out _ ((HB.out.stay HN.out).stay (HGB.out nq).2)).mono ?_
    rintro e w2 ⟨rfl, hn⟩
    have HX := HBB.out _ ⟨(hn.block _ (lt_of_block (HGB.out nq).1)).trans (HGB.out nq).1, (HGB.out nq).2.trans hn⟩
    first | exact ⟨_, rfl, HX, hn, rfl⟩ | exact ⟨_, rfl, HX, hn, rfl, trivial⟩ | exact ⟨rfl, HX, hn⟩ | exact ⟨HX, hn, rfl⟩ | exact ⟨HX, hn⟩
  simp [Act.put] at hA
  subst hA
  obtain rfl := hv7
  refine Gro3.take0 3 (by kernel_rfl) ?_
  simp only [List.take, List.drop, List.length]
  repeat (go_big_quiet_step (fail))
  refine wpQuiet_nil ?_
  refine Gro3.nil ?_
  rintro w9 ⟨n9, rfl⟩ hG
  have hn := (HGB.out n9).2
  clear HFA HBA HGB HBB s0 s1 s2 s3
  replace HN := Lib.hid (HN.out.trans hn)
  clear hn hG HS HX HLB heq HSM HEN
  generalize g n9 = w9 at *
  have HSZ := Lib.hid (hset_n_30 (0, 0) (.int .u64 0) (.slice none 0 0) (0#32, 0#32, 0#32, 0#32))
  simp only at HSZ
  rw [show W64 ((0#32 : BitVec 32).setWidth 64) = 0 by decide] at HSZ
  go_wp2_with fail
  refine (hwrite_n_30 (0, 0) _ _).mono ?_
  rintro e w9 ⟨rfl, rfl⟩
  go_wp2_with fail
  refine (hreset_n_30 (0, 0) _).mono ?_
  rintro e w9 ⟨rfl, rfl⟩
  go_wp2_with fail
  refine (hlanes_n_30 (0, 0) _).mono ?_
  rintro e w9 ⟨rfl, hn⟩
  replace HN := Lib.hid (HN.out.trans hn)
  clear hn
  have hx := heap_alloc_new w9 (.cells #[.int .u64 0, .int .u64 0, .int .u64 0, .int .u64 0] 38)
  have hn2 := (New.refl w9).alloc (.cells #[.int .u64 0, .int .u64 0, .int .u64 0, .int .u64 0] 38)
  go_wp2_with fail
  replace HN := Lib.hid (HN.out.trans hn2)
  generalize w9.alloc (.cells #[.int .u64 0, .int .u64 0, .int .u64 0, .int .u64 0] 38) = w10 at *
  generalize w9.heap.size = qHLZ at *
  have HLZ := Lib.hid hx
  clear hx hn2
  refine (hsum_n_30 (0, 0) _).mono ?_
  rintro e w9 ⟨rfl, hn⟩
  replace HLZ := Lib.hid ((hn.block _ (lt_of_block HLZ.out)).trans HLZ.out)
  replace HN := Lib.hid (HN.out.trans hn)
  clear hn
  have hez := eqUz
  go_wp2_with fail
  refine (hclone_n_30 (0, 0) _).mono ?_
  rintro e w9 ⟨rfl, rfl⟩
  have z0 := cell_of_row _ _ 0 _ _ _ HLZ.out
  have z1 := cell_of_row _ _ 1 _ _ _ HLZ.out
  have z2 := cell_of_row _ _ 2 _ _ _ HLZ.out
  have z3 := cell_of_row _ _ 3 _ _ _ HLZ.out
  have he4z := eq4zz
  go_wp2_with fail
  refine (HSZ.out _).mono ?_
  rintro e w9 ⟨rfl, hn⟩
  clear z0 z1 z2 z3
  replace HLZ := Lib.hid ((hn.block _ (lt_of_block HLZ.out)).trans HLZ.out)
  replace HN := Lib.hid (HN.out.trans hn)
  clear hn
  go_wp2
  go_ret
  exact ⟨rfl, HN.out⟩
theorem Murmur86Sets_walk (W : World) (a0 : Int) (w0 : (Lit.int .u32 a0).wf = true) (x1_0 : BitVec 64) (x1_1 : BitVec 64) (x1_2 : BitVec 64) (x1_3 : BitVec 64) (a2 : Int) (w2 : (Lit.int .u64 a2).wf = true) (a3 : Option Addr) (n3 m3 : Nat) (z3 : List Int) (w3 : IRow .u8 W a3 n3 m3 z3) (r3 : m3 * 1 ≤ 140737488351232) :
    Calls Try.prog 6 #[.int .u32 a0, .agg #[.int .u64 (W64 x1_0), .int .u64 (W64 x1_1), .int .u64 (W64 x1_2), .int .u64 (W64 x1_3)], .int .u64 a2, .slice a3 n3 m3] W fun e w' => e = .returned (.bool true) ∧ Below W.heap.size W w' := by
  obtain ⟨sd, rfl⟩ := ex32 a0 (by simp [Lit.wf, IntKind.min, IntKind.max, IntKind.signed, IntKind.bits] at w0; omega)
  clear w0
  obtain ⟨lo, rfl⟩ := ex64 a2 (by simp [Lit.wf, IntKind.min, IntKind.max, IntKind.signed, IntKind.bits] at w2; omega)
  obtain ⟨l3, hl3⟩ := w3.bytes r3
  cases hr : rgt30 (x1_0, x1_1, x1_2, x1_3) with
  | false => exact sets_no_30 W sd x1_0 x1_1 x1_2 x1_3 lo a3 n3 m3 l3 hl3 hr
  | true =>
    obtain ⟨s, rfl, rfl, rfl, rfl⟩ := rgt_true30 _ _ _ _ hr
    cases hf : (BitVec.ofNat 64 n3 != lo % 16#64) with
    | false => exact sets_fit_30 W sd s lo a3 n3 m3 l3 hl3 hf
    | true => exact sets_unfit_30 W sd s lo a3 n3 m3 l3 hl3 hf
end Go.Proofs.Ytnapogamcohfaaa
