/- Layer 29: the law Sets. -/
import Derived.Test.YtegibnffingciaaM29K
import Derived.Test.YtegibnffingciaaGroS
import Derived.Defers
import Derived.Recover
import Derived.Laws.Pointers
import Derived.Handy
import Derived.Laws.EntriesVeiled
namespace Go.Proofs.Ytegibnffingciaa
open Go.RowKit Go.Bv
set_option linter.unusedVariables false
set_option maxHeartbeats 1000000 in
theorem right_yes_29 (s : BitVec 32) (w : World) : Calls Try.prog 52 #[.agg #[.int .u64 (W64 ((s).setWidth 64)), .int .u64 0, .int .u64 0, .int .u64 0]] w fun e w' => e = .returned (.bool true) ∧ New w w' := by
  have hlt : W64 (s.setWidth 64) < 4294967296 := by
    unfold W64
    rw [BitVec.toNat_setWidth]
    have := s.isLt
    omega
  have HZ := Lib.hid (heap_alloc_new w (.cells #[.int .u64 (W64 ((s).setWidth 64)), .int .u64 0, .int .u64 0, .int .u64 0] 59))
  have HN := Lib.hid ((New.refl w).alloc (.cells #[.int .u64 (W64 ((s).setWidth 64)), .int .u64 0, .int .u64 0, .int .u64 0] 59))
  have c0 := cell_of_row _ _ 0 _ _ _ HZ.out
  have c1 := cell_of_row _ _ 1 _ _ _ HZ.out
  have c2 := cell_of_row _ _ 2 _ _ _ HZ.out
  have c3 := cell_of_row _ _ 3 _ _ _ HZ.out
  go_enter Try.func52, Try.ntmps52
  go_wp2
  go_ret
  exact ⟨rfl, HN.out⟩
set_option maxHeartbeats 1000000 in
theorem right_no_29 (x0 x1 x2 x3 : BitVec 64) (hr : ((x0.setWidth 32).setWidth 64 == x0 && (x1 == 0#64 && (x2 == 0#64 && x3 == 0#64))) = false) (w : World) : Calls Try.prog 52 #[.agg #[.int .u64 (W64 x0), .int .u64 (W64 x1), .int .u64 (W64 x2), .int .u64 (W64 x3)]] w fun e w' => e = .returned (.bool false) ∧ New w w' := by
  have HZ := Lib.hid (heap_alloc_new w (.cells #[.int .u64 (W64 x0), .int .u64 (W64 x1), .int .u64 (W64 x2), .int .u64 (W64 x3)] 59))
  have HN := Lib.hid ((New.refl w).alloc (.cells #[.int .u64 (W64 x0), .int .u64 (W64 x1), .int .u64 (W64 x2), .int .u64 (W64 x3)] 59))
  have c0 := cell_of_row _ _ 0 _ _ _ HZ.out
  have c1 := cell_of_row _ _ 1 _ _ _ HZ.out
  have c2 := cell_of_row _ _ 2 _ _ _ HZ.out
  have c3 := cell_of_row _ _ 3 _ _ _ HZ.out
  have e0 : W64 0#64 = 0 := by decide
  have f1 : (W64 x1 == 0) = (x1 == 0#64) := by rw [← e0, eq_u64]
  have f2 : (W64 x2 == 0) = (x2 == 0#64) := by rw [← e0, eq_u64]
  have f3 : (W64 x3 == 0) = (x3 == 0#64) := by rw [← e0, eq_u64]
  have f0 : W64 x0 < 4294967296 → ((x0.setWidth 32).setWidth 64 == x0) = true := by
    intro hx
    rw [beq_iff_eq]
    apply BitVec.eq_of_toNat_eq
    rw [BitVec.toNat_setWidth, BitVec.toNat_setWidth]
    unfold W64 at hx
    have := x0.isLt
    omega
  have hd : ¬ W64 x0 < 4294967296 ∨ (W64 x0 < 4294967296 ∧ ((W64 x1 == 0) = false ∨ ((W64 x1 == 0) = true ∧ ((W64 x2 == 0) = false ∨ ((W64 x2 == 0) = true ∧ (W64 x3 == 0) = false))))) := by
    by_cases hx : W64 x0 < 4294967296
    · refine Or.inr ⟨hx, ?_⟩
      rw [f0 hx, Bool.true_and] at hr
      rw [f1, f2, f3]
      revert hr
      cases (x1 == 0#64) <;> cases (x2 == 0#64) <;> cases (x3 == 0#64) <;> simp
    · exact Or.inl hx
  clear f0 f1 f2 f3 hr e0
  rcases hd with hd | ⟨hl, hd | ⟨q1, hd | ⟨q2, hd⟩⟩⟩
  · have hd' : ¬ W64 x0 < 4294967296 := hd
    go_enter Try.func52, Try.ntmps52
    go_wp2
    go_ret
    exact ⟨rfl, HN.out⟩
  · have hd' : ¬ W64 x1 = 0 := by simpa using hd
    go_enter Try.func52, Try.ntmps52
    go_wp2
    go_ret
    exact ⟨rfl, HN.out⟩
  · have q1' : W64 x1 = 0 := by simpa using q1
    have hd' : ¬ W64 x2 = 0 := by simpa using hd
    rw [q1'] at HN
    go_enter Try.func52, Try.ntmps52
    go_wp2
    go_ret
    exact ⟨rfl, HN.out⟩
  · have q1' : W64 x1 = 0 := by simpa using q1
    have q2' : W64 x2 = 0 := by simpa using q2
    have hd' : ¬ W64 x3 = 0 := by simpa using hd
    rw [q1', q2'] at HN
    go_enter Try.func52, Try.ntmps52
    go_wp2
    go_ret
    exact ⟨rfl, HN.out⟩
set_option maxRecDepth 100000 in
set_option maxHeartbeats 8000000 in
theorem sets_no_29 (W : World) (sd : BitVec 32) (x0 x1 x2 x3 : BitVec 64) (lo : BitVec 64) (a : Option Addr) (n m : Nat) (l : List (BitVec 8)) (hl : BRow W a n m l) (hr : ((x0.setWidth 32).setWidth 64 == x0 && (x1 == 0#64 && (x2 == 0#64 && x3 == 0#64))) = false) :
    Calls Try.prog 9 #[.int .u32 (W32 sd), .agg #[.int .u64 (W64 x0), .int .u64 (W64 x1), .int .u64 (W64 x2), .int .u64 (W64 x3)], .int .u64 (W64 lo), .slice a n m] W fun e w' => e = .returned (.bool true) ∧ Below W.heap.size W w' := by
  have HB := Lib.hid hl
  have HQB := Lib.hid hl.len_eq
  have HLB := Lib.hid (heap_alloc_new W (.cells #[.int .u64 (W64 x0), .int .u64 (W64 x1), .int .u64 (W64 x2), .int .u64 (W64 x3)] 59))
  have HN := Lib.hid ((New.refl W).alloc (.cells #[.int .u64 (W64 x0), .int .u64 (W64 x1), .int .u64 (W64 x2), .int .u64 (W64 x3)] 59))
  have HNW := Lib.hid (fun w => lnew_29 sd w)
  have HA := Lib.hid (fun w => awake_29 w)
  have HRI := Lib.hid (right_no_29 x0 x1 x2 x3 hr)
  have HST := Lib.hid (fun v1 v2 v3 w => hset_no_29 v1 v2 v3 x0 x1 x2 x3 hr w)
  clear hr
  have HR0 := Lib.hid (fun w => hash_ref29 sd none 0 0 [] w (brow_none w))
  have HSM := Lib.hid (fun p h w hx hs => lsum_29 p h sd [] w hx hs)
  obtain ⟨hh, hhe⟩ : ∃ r, hash29 sd [] = r := ⟨_, rfl⟩
  rw [hhe] at HR0 HSM
  clear hhe
  clear hl
  go_enter Try.func9, Try.ntmps9
  go_wp2_with fail
  refine (HA.out _).mono ?_
  rintro e w9 ⟨rfl, hn⟩
  replace HLB := Lib.hid ((hn.block _ (lt_of_block HLB.out)).trans HLB.out)
  replace HN := Lib.hid (HN.out.trans hn)
  clear hn HA
  by_cases hs : (100 : Int) < (n : Int)
  · go_wp2
    go_ret
    exact ⟨rfl, HN.out⟩
  have hs2 : ¬ (100 : Int) < (n : Int) := by omega
  have HLE : Hid (n ≤ 100) := Lib.hid (by omega)
  clear hs
  go_wp2_with fail
  refine (HNW.out _).mono ?_
  rintro e w9 ⟨p, y, rfl, hp, hpy, hx, hs, hn⟩
  have HWP : Hid (W.heap.size < p) := Lib.hid (Nat.lt_of_lt_of_le (lt_of_block HLB.out) hp)
  have HPY : Hid (p < y) := Lib.hid hpy
  replace HLB := Lib.hid ((hn.block _ (lt_of_block HLB.out)).trans HLB.out)
  replace HN := Lib.hid (HN.out.trans hn)
  have HS := Lib.hid hs
  have HX := Lib.hid hx
  clear hs hx hn hp hpy hs2 HNW
  have u0 := cell_of_row _ _ 0 _ _ _ HLB.out
  have u1 := cell_of_row _ _ 1 _ _ _ HLB.out
  have u2 := cell_of_row _ _ 2 _ _ _ HLB.out
  have u3 := cell_of_row _ _ 3 _ _ _ HLB.out
  go_wp2_with fail
  refine (HRI.out _).mono ?_
  rintro e w9 ⟨rfl, hn⟩
  replace HS := Lib.hid (HS.out.stay hn)
  replace HLB := Lib.hid ((hn.block _ (lt_of_block HLB.out)).trans HLB.out)
  replace HX := Lib.hid ((hn.block _ (lt_of_block HX.out)).trans HX.out)
  replace HN := Lib.hid (HN.out.trans hn)
  clear hn HRI u0 u1 u2 u3
  have u0 := cell_of_row _ _ 0 _ _ _ HLB.out
  have u1 := cell_of_row _ _ 1 _ _ _ HLB.out
  have u2 := cell_of_row _ _ 2 _ _ _ HLB.out
  have u3 := cell_of_row _ _ 3 _ _ _ HLB.out
  go_wp2_with fail
  refine (HST.out _ _ _ _).mono ?_
  rintro e w9 ⟨rfl, hn⟩
  replace HS := Lib.hid (HS.out.stay hn)
  replace HLB := Lib.hid ((hn.block _ (lt_of_block HLB.out)).trans HLB.out)
  replace HX := Lib.hid ((hn.block _ (lt_of_block HX.out)).trans HX.out)
  replace HN := Lib.hid (HN.out.trans hn)
  clear hn u0 u1 u2 u3 HST
  have heq := True.intro
  go_wp2_with fail
  refine Gro3.wp_region_gro3S (fun w' => New w9 w') (fun w' => New w9 w') [0, 0, 0, 0, 2, 0, 2, 0, 0, 0, 0, 0, 0, 0, 0, 0, 0, 0, 0, 0, 0, 0] New (fun _ _ _ => True) (by kernel_rfl) (by kernel_rfl) (by kernel_rfl) (fun _ _ _ _ _ _ => trivial) (fun w' hw' => hw') ((New.refl _).drew) ?_
  intro I J _ _ f g hfa hba hgb hbb
  have HFA := Lib.hid hfa
  have HBA := Lib.hid hba
  have HGB := Lib.hid hgb
  have HBB := Lib.hid hbb
  clear hfa hba hgb hbb
  refine Gro3.take0 4 (by kernel_rfl) ?_
  simp only [List.take, List.drop, List.length]
  repeat (go_big_quiet_step (fail))
  refine wpQuiet_nil ?_
  refine Gro3.callt (fun v => v = .int .u32 (W32 (hh))) (fun _ _ => True) rfl rfl (⟨_, rfl⟩) (fun _ _ _ _ _ => trivial) (fun w1 hB hG => ?_) (fun v1 A1 hv1 hA => ?_)
  · obtain ⟨nq, rfl⟩ := hB
    go_simp
    refine (HSM.out p y _ (((HGB.out nq).block _ (lt_of_block HX.out)).trans HX.out) (HS.out.stay (HGB.out nq))).mono ?_
    rintro e w2 ⟨rfl, hn⟩
    have HX := HBB.out _ ((HGB.out nq).trans hn)
    first | exact ⟨_, rfl, HX, hn, rfl⟩ | exact ⟨_, rfl, HX, hn, rfl, trivial⟩ | exact ⟨rfl, HX, hn⟩ | exact ⟨HX, hn, rfl⟩ | exact ⟨HX, hn⟩
  simp [Act.put] at hA
  subst hA
  obtain rfl := hv1
  refine Gro3.take0 1 (by kernel_rfl) ?_
  simp only [List.take, List.drop, List.length]
  repeat (go_big_quiet_step (fail))
  refine wpQuiet_nil ?_
  refine Gro3.callt (fun v => v = .int .u32 (W32 (hh))) (fun _ _ => True) rfl rfl (⟨_, rfl⟩) (fun _ _ _ _ _ => trivial) (fun w1 hB hG => ?_) (fun v2 A2 hv2 hA => ?_)
  · obtain ⟨nq, rfl⟩ := hB
    go_simp
    refine (HR0.out _).mono ?_
    rintro e w2 ⟨rfl, hn⟩
    have HX := HBB.out _ ((HGB.out nq).trans hn)
    first | exact ⟨_, rfl, HX, hn, rfl⟩ | exact ⟨_, rfl, HX, hn, rfl, trivial⟩ | exact ⟨rfl, HX, hn⟩ | exact ⟨HX, hn, rfl⟩ | exact ⟨HX, hn⟩
  simp [Act.put] at hA
  subst hA
  obtain rfl := hv2
  refine Gro3.take0 4 (by kernel_rfl) ?_
  simp only [List.take, List.drop, List.length]
  repeat (go_big_quiet_step (fail))
  refine wpQuiet_nil ?_
  refine Gro3.mvskips (.tmp 53) (.bool false) 8 rfl rfl rfl rfl (by kernel_rfl) (fun A3 hA => ?_)
  simp [Act.put, Gro3.skipTo] at hA
  subst hA
  simp only [List.drop]
  refine Gro3.take0 2 (by kernel_rfl) ?_
  simp only [List.take, List.drop, List.length]
  repeat (go_big_quiet_step (fail))
  refine wpQuiet_nil ?_
  refine Gro3.nil ?_
  rintro w9 ⟨n9, rfl⟩ hG
  have hn := (HGB.out n9)
  clear HFA HBA HGB HBB
  replace HN := Lib.hid (HN.out.trans hn)
  clear hn hG HS HX HLB heq HSM HR0
  generalize g n9 = w9 at *
  have HSZ := Lib.hid (hset_n_29 (.int .u64 0) (.slice none 0 0) 0#32)
  rw [show W64 ((0#32).setWidth 64) = 0 by decide] at HSZ
  go_wp2_with fail
  refine (hwrite_n_29 _ _).mono ?_
  rintro e w9 ⟨rfl, rfl⟩
  go_wp2_with fail
  refine (hreset_n_29 _).mono ?_
  rintro e w9 ⟨rfl, rfl⟩
  go_wp2_with fail
  refine (hlanes_n_29 _).mono ?_
  rintro e w9 ⟨rfl, hn⟩
  replace HN := Lib.hid (HN.out.trans hn)
  clear hn
  have hx := heap_alloc_new w9 (.cells #[.int .u64 0, .int .u64 0, .int .u64 0, .int .u64 0] 59)
  have hn2 := (New.refl w9).alloc (.cells #[.int .u64 0, .int .u64 0, .int .u64 0, .int .u64 0] 59)
  go_wp2_with fail
  replace HN := Lib.hid (HN.out.trans hn2)
  generalize w9.alloc (.cells #[.int .u64 0, .int .u64 0, .int .u64 0, .int .u64 0] 59) = w10 at *
  generalize w9.heap.size = qHLZ at *
  have HLZ := Lib.hid hx
  clear hx hn2
  refine (hsum_n_29 _).mono ?_
  rintro e w9 ⟨rfl, hn⟩
  replace HLZ := Lib.hid ((hn.block _ (lt_of_block HLZ.out)).trans HLZ.out)
  replace HN := Lib.hid (HN.out.trans hn)
  clear hn
  have hez := True.intro
  go_wp2_with fail
  refine (hclone_n_29 _).mono ?_
  rintro e w9 ⟨rfl, rfl⟩
  have z0 := cell_of_row _ _ 0 _ _ _ HLZ.out
  have z1 := cell_of_row _ _ 1 _ _ _ HLZ.out
  have z2 := cell_of_row _ _ 2 _ _ _ HLZ.out
  have z3 := cell_of_row _ _ 3 _ _ _ HLZ.out
  have he4z := eq4zz
  go_wp2_with fail
  refine (HSZ.out _).mono ?_
  rintro e w9 ⟨rfl, hn⟩
  clear z0 z1 z2 z3
  replace HLZ := Lib.hid ((hn.block _ (lt_of_block HLZ.out)).trans HLZ.out)
  replace HN := Lib.hid (HN.out.trans hn)
  clear hn
  go_wp2
  go_ret
  exact ⟨rfl, HN.out⟩
set_option maxRecDepth 100000 in
set_option maxHeartbeats 8000000 in
theorem sets_unfit_29 (W : World) (sd : BitVec 32) (s : BitVec 32) (lo : BitVec 64) (a : Option Addr) (n m : Nat) (l : List (BitVec 8)) (hl : BRow W a n m l) (hfit : (BitVec.ofNat 64 n != lo % 4#64) = true) :
    Calls Try.prog 9 #[.int .u32 (W32 sd), .agg #[.int .u64 (W64 ((s).setWidth 64)), .int .u64 0, .int .u64 0, .int .u64 0], .int .u64 (W64 lo), .slice a n m] W fun e w' => e = .returned (.bool true) ∧ Below W.heap.size W w' := by
  have HB := Lib.hid hl
  have HQB := Lib.hid hl.len_eq
  have HLB := Lib.hid (heap_alloc_new W (.cells #[.int .u64 (W64 ((s).setWidth 64)), .int .u64 0, .int .u64 0, .int .u64 0] 59))
  have HN := Lib.hid ((New.refl W).alloc (.cells #[.int .u64 (W64 ((s).setWidth 64)), .int .u64 0, .int .u64 0, .int .u64 0] 59))
  have HNW := Lib.hid (fun w => lnew_29 sd w)
  have HA := Lib.hid (fun w => awake_29 w)
  have HRI := Lib.hid (right_yes_29 s)
  have hft3 : (BitVec.ofNat 64 n == lo % 4#64) = false := by revert hfit; cases h : (BitVec.ofNat 64 n == lo % 4#64) <;> simp [bne, h]
  have hft2 : (W64 (BitVec.ofNat 64 n) == W64 (lo % 4#64)) = false := by rw [eq_u64]; exact hft3
  have HFT := Lib.hid hfit
  clear hfit
  have HR0 := Lib.hid (fun w => hash_ref29 sd none 0 0 [] w (brow_none w))
  have HSM := Lib.hid (fun p h w hx hs => lsum_29 p h sd [] w hx hs)
  obtain ⟨hh, hhe⟩ : ∃ r, hash29 sd [] = r := ⟨_, rfl⟩
  rw [hhe] at HR0 HSM
  clear hhe
  clear hl
  go_enter Try.func9, Try.ntmps9
  go_wp2_with fail
  refine (HA.out _).mono ?_
  rintro e w9 ⟨rfl, hn⟩
  replace HLB := Lib.hid ((hn.block _ (lt_of_block HLB.out)).trans HLB.out)
  replace HN := Lib.hid (HN.out.trans hn)
  clear hn HA
  by_cases hs : (100 : Int) < (n : Int)
  · go_wp2
    go_ret
    exact ⟨rfl, HN.out⟩
  have hs2 : ¬ (100 : Int) < (n : Int) := by omega
  have HLE : Hid (n ≤ 100) := Lib.hid (by omega)
  clear hs
  go_wp2_with fail
  refine (HNW.out _).mono ?_
  rintro e w9 ⟨p, y, rfl, hp, hpy, hx, hs, hn⟩
  have HWP : Hid (W.heap.size < p) := Lib.hid (Nat.lt_of_lt_of_le (lt_of_block HLB.out) hp)
  have HPY : Hid (p < y) := Lib.hid hpy
  replace HLB := Lib.hid ((hn.block _ (lt_of_block HLB.out)).trans HLB.out)
  replace HN := Lib.hid (HN.out.trans hn)
  have HS := Lib.hid hs
  have HX := Lib.hid hx
  clear hs hx hn hp hpy hs2 HNW
  have u0 := cell_of_row _ _ 0 _ _ _ HLB.out
  have u1 := cell_of_row _ _ 1 _ _ _ HLB.out
  have u2 := cell_of_row _ _ 2 _ _ _ HLB.out
  have u3 := cell_of_row _ _ 3 _ _ _ HLB.out
  go_wp2_with fail
  refine (HRI.out _).mono ?_
  rintro e w9 ⟨rfl, hn⟩
  replace HS := Lib.hid (HS.out.stay hn)
  replace HLB := Lib.hid ((hn.block _ (lt_of_block HLB.out)).trans HLB.out)
  replace HX := Lib.hid ((hn.block _ (lt_of_block HX.out)).trans HX.out)
  replace HN := Lib.hid (HN.out.trans hn)
  clear hn HRI u0 u1 u2 u3
  have u0 := cell_of_row _ _ 0 _ _ _ HLB.out
  have u1 := cell_of_row _ _ 1 _ _ _ HLB.out
  have u2 := cell_of_row _ _ 2 _ _ _ HLB.out
  have u3 := cell_of_row _ _ 3 _ _ _ HLB.out
  go_wp2_with fail
  refine (hset_unfit_29 p y _ _ _ _ s lo _ _ _ _ _ HX.out HS.out (HB.out.stay HN.out) HFT.out).mono ?_
  rintro e w9 ⟨rfl, hn⟩
  replace HS := Lib.hid (HS.out.stay hn)
  replace HLB := Lib.hid ((hn.block _ (lt_of_block HLB.out)).trans HLB.out)
  replace HX := Lib.hid ((hn.block _ (lt_of_block HX.out)).trans HX.out)
  replace HN := Lib.hid (HN.out.trans hn)
  clear hn u0 u1 u2 u3 hft2 hft3
  have heq := True.intro
  go_wp2_with fail
  refine Gro3.wp_region_gro3S (fun w' => New w9 w') (fun w' => New w9 w') [0, 0, 0, 0, 2, 0, 2, 0, 0, 0, 0, 0, 0, 0, 0, 0, 0, 0, 0, 0, 0, 0] New (fun _ _ _ => True) (by kernel_rfl) (by kernel_rfl) (by kernel_rfl) (fun _ _ _ _ _ _ => trivial) (fun w' hw' => hw') ((New.refl _).drew) ?_
  intro I J _ _ f g hfa hba hgb hbb
  have HFA := Lib.hid hfa
  have HBA := Lib.hid hba
  have HGB := Lib.hid hgb
  have HBB := Lib.hid hbb
  clear hfa hba hgb hbb
  refine Gro3.take0 4 (by kernel_rfl) ?_
  simp only [List.take, List.drop, List.length]
  repeat (go_big_quiet_step (fail))
  refine wpQuiet_nil ?_
  refine Gro3.callt (fun v => v = .int .u32 (W32 (hh))) (fun _ _ => True) rfl rfl (⟨_, rfl⟩) (fun _ _ _ _ _ => trivial) (fun w1 hB hG => ?_) (fun v1 A1 hv1 hA => ?_)
  · obtain ⟨nq, rfl⟩ := hB
    go_simp
    refine (HSM.out p y _ (((HGB.out nq).block _ (lt_of_block HX.out)).trans HX.out) (HS.out.stay (HGB.out nq))).mono ?_
    rintro e w2 ⟨rfl, hn⟩
    have HX := HBB.out _ ((HGB.out nq).trans hn)
    first | exact ⟨_, rfl, HX, hn, rfl⟩ | exact ⟨_, rfl, HX, hn, rfl, trivial⟩ | exact ⟨rfl, HX, hn⟩ | exact ⟨HX, hn, rfl⟩ | exact ⟨HX, hn⟩
  simp [Act.put] at hA
  subst hA
  obtain rfl := hv1
  refine Gro3.take0 1 (by kernel_rfl) ?_
  simp only [List.take, List.drop, List.length]
  repeat (go_big_quiet_step (fail))
  refine wpQuiet_nil ?_
  refine Gro3.callt (fun v => v = .int .u32 (W32 (hh))) (fun _ _ => True) rfl rfl (⟨_, rfl⟩) (fun _ _ _ _ _ => trivial) (fun w1 hB hG => ?_) (fun v2 A2 hv2 hA => ?_)
  · obtain ⟨nq, rfl⟩ := hB
    go_simp
    refine (HR0.out _).mono ?_
    rintro e w2 ⟨rfl, hn⟩
    have HX := HBB.out _ ((HGB.out nq).trans hn)
    first | exact ⟨_, rfl, HX, hn, rfl⟩ | exact ⟨_, rfl, HX, hn, rfl, trivial⟩ | exact ⟨rfl, HX, hn⟩ | exact ⟨HX, hn, rfl⟩ | exact ⟨HX, hn⟩
  simp [Act.put] at hA
  subst hA
  obtain rfl := hv2
  refine Gro3.take0 4 (by kernel_rfl) ?_
  simp only [List.take, List.drop, List.length]
  repeat (go_big_quiet_step (fail))
  refine wpQuiet_nil ?_
  refine Gro3.mvskips (.tmp 53) (.bool false) 8 rfl rfl rfl rfl (by kernel_rfl) (fun A3 hA => ?_)
  simp [Act.put, Gro3.skipTo] at hA
  subst hA
  simp only [List.drop]
  refine Gro3.take0 2 (by kernel_rfl) ?_
  simp only [List.take, List.drop, List.length]
  repeat (go_big_quiet_step (fail))
  refine wpQuiet_nil ?_
  refine Gro3.nil ?_
  rintro w9 ⟨n9, rfl⟩ hG
  have hn := (HGB.out n9)
  clear HFA HBA HGB HBB
  replace HN := Lib.hid (HN.out.trans hn)
  clear hn hG HS HX HLB heq HSM HR0
  generalize g n9 = w9 at *
  have HSZ := Lib.hid (hset_n_29 (.int .u64 0) (.slice none 0 0) 0#32)
  rw [show W64 ((0#32).setWidth 64) = 0 by decide] at HSZ
  go_wp2_with fail
  refine (hwrite_n_29 _ _).mono ?_
  rintro e w9 ⟨rfl, rfl⟩
  go_wp2_with fail
  refine (hreset_n_29 _).mono ?_
  rintro e w9 ⟨rfl, rfl⟩
  go_wp2_with fail
  refine (hlanes_n_29 _).mono ?_
  rintro e w9 ⟨rfl, hn⟩
  replace HN := Lib.hid (HN.out.trans hn)
  clear hn
  have hx := heap_alloc_new w9 (.cells #[.int .u64 0, .int .u64 0, .int .u64 0, .int .u64 0] 59)
  have hn2 := (New.refl w9).alloc (.cells #[.int .u64 0, .int .u64 0, .int .u64 0, .int .u64 0] 59)
  go_wp2_with fail
  replace HN := Lib.hid (HN.out.trans hn2)
  generalize w9.alloc (.cells #[.int .u64 0, .int .u64 0, .int .u64 0, .int .u64 0] 59) = w10 at *
  generalize w9.heap.size = qHLZ at *
  have HLZ := Lib.hid hx
  clear hx hn2
  refine (hsum_n_29 _).mono ?_
  rintro e w9 ⟨rfl, hn⟩
  replace HLZ := Lib.hid ((hn.block _ (lt_of_block HLZ.out)).trans HLZ.out)
  replace HN := Lib.hid (HN.out.trans hn)
  clear hn
  have hez := True.intro
  go_wp2_with fail
  refine (hclone_n_29 _).mono ?_
  rintro e w9 ⟨rfl, rfl⟩
  have z0 := cell_of_row _ _ 0 _ _ _ HLZ.out
  have z1 := cell_of_row _ _ 1 _ _ _ HLZ.out
  have z2 := cell_of_row _ _ 2 _ _ _ HLZ.out
  have z3 := cell_of_row _ _ 3 _ _ _ HLZ.out
  have he4z := eq4zz
  go_wp2_with fail
  refine (HSZ.out _).mono ?_
  rintro e w9 ⟨rfl, hn⟩
  clear z0 z1 z2 z3
  replace HLZ := Lib.hid ((hn.block _ (lt_of_block HLZ.out)).trans HLZ.out)
  replace HN := Lib.hid (HN.out.trans hn)
  clear hn
  go_wp2
  go_ret
  exact ⟨rfl, HN.out⟩
set_option maxRecDepth 100000 in
set_option maxHeartbeats 8000000 in
theorem sets_fit_29 (W : World) (sd : BitVec 32) (s : BitVec 32) (lo : BitVec 64) (a : Option Addr) (n m : Nat) (l : List (BitVec 8)) (hl : BRow W a n m l) (hfit : (BitVec.ofNat 64 n != lo % 4#64) = false) :
    Calls Try.prog 9 #[.int .u32 (W32 sd), .agg #[.int .u64 (W64 ((s).setWidth 64)), .int .u64 0, .int .u64 0, .int .u64 0], .int .u64 (W64 lo), .slice a n m] W fun e w' => e = .returned (.bool true) ∧ Below W.heap.size W w' := by
  have HB := Lib.hid hl
  have HQB := Lib.hid hl.len_eq
  have HLB := Lib.hid (heap_alloc_new W (.cells #[.int .u64 (W64 ((s).setWidth 64)), .int .u64 0, .int .u64 0, .int .u64 0] 59))
  have HN := Lib.hid ((New.refl W).alloc (.cells #[.int .u64 (W64 ((s).setWidth 64)), .int .u64 0, .int .u64 0, .int .u64 0] 59))
  have HNW := Lib.hid (fun w => lnew_29 sd w)
  have HA := Lib.hid (fun w => awake_29 w)
  have HRI := Lib.hid (right_yes_29 s)
  have hft3 : (BitVec.ofNat 64 n == lo % 4#64) = true := by revert hfit; cases h : (BitVec.ofNat 64 n == lo % 4#64) <;> simp [bne, h]
  have hft2 : (W64 (BitVec.ofNat 64 n) == W64 (lo % 4#64)) = true := by rw [eq_u64]; exact hft3
  have HFT := Lib.hid hfit
  clear hfit
  have HEN := Lib.hid (fun w (h : BRow w a n m l) => end_ref29 (.int .u32 (W32 sd)) (.int .u64 0) (.int .u64 0) (.int .u64 0) s a n m l lo w h)
  have HSM := Lib.hid (fun p h fs w hx hs => hsum_29 p h fs s l lo w hx hs)
  obtain ⟨hh, hhe⟩ : ∃ r, end29 s l lo = r := ⟨_, rfl⟩
  rw [hhe] at HEN HSM
  clear hhe
  clear hl
  go_enter Try.func9, Try.ntmps9
  go_wp2_with fail
  refine (HA.out _).mono ?_
  rintro e w9 ⟨rfl, hn⟩
  replace HLB := Lib.hid ((hn.block _ (lt_of_block HLB.out)).trans HLB.out)
  replace HN := Lib.hid (HN.out.trans hn)
  clear hn HA
  by_cases hs : (100 : Int) < (n : Int)
  · go_wp2
    go_ret
    exact ⟨rfl, HN.out⟩
  have hs2 : ¬ (100 : Int) < (n : Int) := by omega
  have HLE : Hid (n ≤ 100) := Lib.hid (by omega)
  clear hs
  go_wp2_with fail
  refine (HNW.out _).mono ?_
  rintro e w9 ⟨p, y, rfl, hp, hpy, hx, hs, hn⟩
  have HWP : Hid (W.heap.size < p) := Lib.hid (Nat.lt_of_lt_of_le (lt_of_block HLB.out) hp)
  have HPY : Hid (p < y) := Lib.hid hpy
  replace HLB := Lib.hid ((hn.block _ (lt_of_block HLB.out)).trans HLB.out)
  replace HN := Lib.hid (HN.out.trans hn)
  have HS := Lib.hid hs
  have HX := Lib.hid hx
  clear hs hx hn hp hpy hs2 HNW
  have u0 := cell_of_row _ _ 0 _ _ _ HLB.out
  have u1 := cell_of_row _ _ 1 _ _ _ HLB.out
  have u2 := cell_of_row _ _ 2 _ _ _ HLB.out
  have u3 := cell_of_row _ _ 3 _ _ _ HLB.out
  go_wp2_with fail
  refine (HRI.out _).mono ?_
  rintro e w9 ⟨rfl, hn⟩
  replace HS := Lib.hid (HS.out.stay hn)
  replace HLB := Lib.hid ((hn.block _ (lt_of_block HLB.out)).trans HLB.out)
  replace HX := Lib.hid ((hn.block _ (lt_of_block HX.out)).trans HX.out)
  replace HN := Lib.hid (HN.out.trans hn)
  clear hn HRI u0 u1 u2 u3
  have u0 := cell_of_row _ _ 0 _ _ _ HLB.out
  have u1 := cell_of_row _ _ 1 _ _ _ HLB.out
  have u2 := cell_of_row _ _ 2 _ _ _ HLB.out
  have u3 := cell_of_row _ _ 3 _ _ _ HLB.out
  go_wp2_with fail
  refine (hset_fit_29 p y _ _ _ _ s lo _ _ _ _ _ HX.out HS.out (HB.out.stay HN.out) HFT.out).mono ?_
  rintro e w9 ⟨rfl, hs, hb⟩
  clear u0 u1 u2 u3 hft2 hft3
  have hnb := HS.out.noBytes
  replace HLB := Lib.hid (hb.keep (by have := HWP.out; omega) HLB.out)
  replace HX := Lib.hid (hb.keep (by have := HPY.out; omega) HX.out)
  replace HN := Lib.hid (hb.new _ HN.out (by have := HWP.out; omega))
  clear HS
  have HS := Lib.hid hs
  clear hs hb hnb
  have heq := True.intro
  go_wp2_with fail
  refine Gro3.wp_region_gro3S (fun w' => w'.heap[W.heap.size]? = some (.cells #[.int .u64 (W64 ((s).setWidth 64)), .int .u64 0, .int .u64 0, .int .u64 0] 59 (0, 0)) ∧ New w9 w') (fun w' => w'.heap[W.heap.size]? = some (.cells #[.int .u64 (W64 ((s).setWidth 64)), .int .u64 0, .int .u64 0, .int .u64 0] 59 (0, 0)) ∧ New w9 w') [0, 0, 0, 0, 0, 0, 0, 0, 0, 0, 0, 0, 0, 2, 0, 1, 0, 0, 2, 0, 0, 0] New (fun _ _ _ => True) (by kernel_rfl) (by kernel_rfl) (by kernel_rfl) (fun _ _ _ _ _ _ => trivial) (fun w' hw' => hw') (⟨HLB.out, (New.refl _).drew⟩) ?_
  intro I J _ _ f g hfa hba hgb hbb
  have HFA := Lib.hid hfa
  have HBA := Lib.hid hba
  have HGB := Lib.hid hgb
  have HBB := Lib.hid hbb
  have s0 := fun n => cell_of_row _ _ 0 _ _ _ (hgb n).1
  have s1 := fun n => cell_of_row _ _ 1 _ _ _ (hgb n).1
  have s2 := fun n => cell_of_row _ _ 2 _ _ _ (hgb n).1
  have s3 := fun n => cell_of_row _ _ 3 _ _ _ (hgb n).1
  clear hfa hba hgb hbb
  refine Gro3.take0 3 (by kernel_rfl) ?_
  simp only [List.take, List.drop, List.length]
  repeat (go_big_quiet_step (fail))
  refine wpQuiet_nil ?_
  refine Gro3.skip rfl (fun A1 hA => ?_)
  simp [Act.put] at hA
  subst hA
  refine Gro3.skip rfl (fun A2 hA => ?_)
  simp [Act.put] at hA
  subst hA
  refine Gro3.skip rfl (fun A3 hA => ?_)
  simp [Act.put] at hA
  subst hA
  refine Gro3.skip rfl (fun A4 hA => ?_)
  simp [Act.put] at hA
  subst hA
  refine Gro3.skip rfl (fun A5 hA => ?_)
  simp [Act.put] at hA
  subst hA
  refine Gro3.take0 5 (by kernel_rfl) ?_
  simp only [List.take, List.drop, List.length]
  repeat (go_big_quiet_step (fail))
  refine wpQuiet_nil ?_
  refine Gro3.callt (fun v => v = .int .u32 (W32 (hh))) (fun _ _ => True) rfl rfl (⟨_, rfl⟩) (fun _ _ _ _ _ => trivial) (fun w1 hB hG => ?_) (fun v6 A6 hv6 hA => ?_)
  · obtain ⟨nq, rfl⟩ := hB
    clear s0 s1 s2 s3
    go_simp
    refine (HSM.out p y _ _ (((HGB.out nq).2.block _ (lt_of_block HX.out)).trans HX.out) (HS.out.stay (HGB.out nq).2)).mono ?_
    rintro e w2 ⟨rfl, hn⟩
    have HX := HBB.out _ ⟨(hn.block _ (lt_of_block (HGB.out nq).1)).trans (HGB.out nq).1, (HGB.out nq).2.trans hn⟩
    first | exact ⟨_, rfl, HX, hn, rfl⟩ | exact ⟨_, rfl, HX, hn, rfl, trivial⟩ | exact ⟨rfl, HX, hn⟩ | exact ⟨HX, hn, rfl⟩ | exact ⟨HX, hn⟩
  simp [Act.put] at hA
  subst hA
  obtain rfl := hv6
  refine Gro3.take0 1 (by kernel_rfl) ?_
  simp only [List.take, List.drop, List.length]
  repeat (go_big_quiet_step (fail))
  refine wpQuiet_nil ?_
  refine Gro3.take1 1 (by kernel_rfl) ?_
  simp only [List.take, List.drop, List.length]
  repeat (go_big_quiet_step (fail))
  refine wpQuiet_nil ?_
  refine Gro3.take0 2 (by kernel_rfl) ?_
  simp only [List.take, List.drop, List.length]
  repeat (go_big_quiet_step (fail))
  refine wpQuiet_nil ?_
  refine Gro3.callt (fun v => v = .int .u32 (W32 (hh))) (fun _ _ => True) rfl rfl (⟨_, rfl⟩) (fun _ _ _ _ _ => trivial) (fun w1 hB hG => ?_) (fun v7 A7 hv7 hA => ?_)
  · obtain ⟨nq, rfl⟩ := hB
    clear s0 s1 s2 s3
    go_simp
    refine (HEN.out _ ((HB.out.stay HN.out).stay (HGB.out nq).2)).mono ?_
    rintro e w2 ⟨rfl, hn⟩
    have HX := HBB.out _ ⟨(hn.block _ (lt_of_block (HGB.out nq).1)).trans (HGB.out nq).1, (HGB.out nq).2.trans hn⟩
    first | exact ⟨_, rfl, HX, hn, rfl⟩ | exact ⟨_, rfl, HX, hn, rfl, trivial⟩ | exact ⟨rfl, HX, hn⟩ | exact ⟨HX, hn, rfl⟩ | exact ⟨HX, hn⟩
  simp [Act.put] at hA
  subst hA
  obtain rfl := hv7
  refine Gro3.take0 3 (by kernel_rfl) ?_
  simp only [List.take, List.drop, List.length]
  repeat (go_big_quiet_step (fail))
  refine wpQuiet_nil ?_
  refine Gro3.nil ?_
  rintro w9 ⟨n9, rfl⟩ hG
  have hn := (HGB.out n9).2
  clear HFA HBA HGB HBB s0 s1 s2 s3
  replace HN := Lib.hid (HN.out.trans hn)
  clear hn hG HS HX HLB heq HSM HEN
  generalize g n9 = w9 at *
  have HSZ := Lib.hid (hset_n_29 (.int .u64 0) (.slice none 0 0) 0#32)
  rw [show W64 ((0#32).setWidth 64) = 0 by decide] at HSZ
  go_wp2_with fail
  refine (hwrite_n_29 _ _).mono ?_
  rintro e w9 ⟨rfl, rfl⟩
  go_wp2_with fail
  refine (hreset_n_29 _).mono ?_
  rintro e w9 ⟨rfl, rfl⟩
  go_wp2_with fail
  refine (hlanes_n_29 _).mono ?_
  rintro e w9 ⟨rfl, hn⟩
  replace HN := Lib.hid (HN.out.trans hn)
  clear hn
  have hx := heap_alloc_new w9 (.cells #[.int .u64 0, .int .u64 0, .int .u64 0, .int .u64 0] 59)
  have hn2 := (New.refl w9).alloc (.cells #[.int .u64 0, .int .u64 0, .int .u64 0, .int .u64 0] 59)
  go_wp2_with fail
  replace HN := Lib.hid (HN.out.trans hn2)
  generalize w9.alloc (.cells #[.int .u64 0, .int .u64 0, .int .u64 0, .int .u64 0] 59) = w10 at *
  generalize w9.heap.size = qHLZ at *
  have HLZ := Lib.hid hx
  clear hx hn2
  refine (hsum_n_29 _).mono ?_
  rintro e w9 ⟨rfl, hn⟩
  replace HLZ := Lib.hid ((hn.block _ (lt_of_block HLZ.out)).trans HLZ.out)
  replace HN := Lib.hid (HN.out.trans hn)
  clear hn
  have hez := True.intro
  go_wp2_with fail
  refine (hclone_n_29 _).mono ?_
  rintro e w9 ⟨rfl, rfl⟩
  have z0 := cell_of_row _ _ 0 _ _ _ HLZ.out
  have z1 := cell_of_row _ _ 1 _ _ _ HLZ.out
  have z2 := cell_of_row _ _ 2 _ _ _ HLZ.out
  have z3 := cell_of_row _ _ 3 _ _ _ HLZ.out
  have he4z := eq4zz
  go_wp2_with fail
  refine (HSZ.out _).mono ?_
  rintro e w9 ⟨rfl, hn⟩
  clear z0 z1 z2 z3
  replace HLZ := Lib.hid ((hn.block _ (lt_of_block HLZ.out)).trans HLZ.out)
  replace HN := Lib.hid (HN.out.trans hn)
  clear hn
  go_wp2
  go_ret
  exact ⟨rfl, HN.out⟩
theorem Murmur32Sets_walk (W : World) (a0 : Int) (w0 : (Lit.int .u32 a0).wf = true) (x1_0 : BitVec 64) (x1_1 : BitVec 64) (x1_2 : BitVec 64) (x1_3 : BitVec 64) (a2 : Int) (w2 : (Lit.int .u64 a2).wf = true) (a3 : Option Addr) (n3 m3 : Nat) (z3 : List Int) (w3 : IRow .u8 W a3 n3 m3 z3) (r3 : m3 * 1 ≤ 140737488351232) :
    Calls Try.prog 9 #[.int .u32 a0, .agg #[.int .u64 (W64 x1_0), .int .u64 (W64 x1_1), .int .u64 (W64 x1_2), .int .u64 (W64 x1_3)], .int .u64 a2, .slice a3 n3 m3] W fun e w' => e = .returned (.bool true) ∧ Below W.heap.size W w' := by
  obtain ⟨sd, rfl⟩ := ex32 a0 (by simp [Lit.wf, IntKind.min, IntKind.max, IntKind.signed, IntKind.bits] at w0; omega)
  clear w0
  obtain ⟨lo, rfl⟩ := ex64 a2 (by simp [Lit.wf, IntKind.min, IntKind.max, IntKind.signed, IntKind.bits] at w2; omega)
  obtain ⟨l3, hl3⟩ := w3.bytes r3
  cases hr : ((x1_0.setWidth 32).setWidth 64 == x1_0 && (x1_1 == 0#64 && (x1_2 == 0#64 && x1_3 == 0#64))) with
  | false => exact sets_no_29 W sd x1_0 x1_1 x1_2 x1_3 lo a3 n3 m3 l3 hl3 hr
  | true =>
    rw [Bool.and_eq_true, Bool.and_eq_true, Bool.and_eq_true] at hr
    obtain ⟨e0, e1, e2, e3⟩ := hr
    obtain rfl := eq_of_beq e1
    obtain rfl := eq_of_beq e2
    obtain rfl := eq_of_beq e3
    have e0' := eq_of_beq e0
    obtain ⟨s, hs⟩ : ∃ s : BitVec 32, x1_0 = s.setWidth 64 := ⟨x1_0.setWidth 32, e0'.symm⟩
    subst hs
    rw [show W64 0#64 = 0 by decide]
    cases hf : (BitVec.ofNat 64 n3 != lo % 4#64) with
    | false => exact sets_fit_29 W sd s lo a3 n3 m3 l3 hl3 hf
    | true => exact sets_unfit_29 W sd s lo a3 n3 m3 l3 hl3 hf
end Go.Proofs.Ytegibnffingciaa
