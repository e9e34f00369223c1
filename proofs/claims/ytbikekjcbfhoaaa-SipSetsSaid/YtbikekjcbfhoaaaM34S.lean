/- Layer 34: the law Sets. -/
import Derived.Test.YtbikekjcbfhoaaaM34K
import Derived.Test.YtbikekjcbfhoaaaGroS
import Derived.Defers
import Derived.Recover
import Derived.Laws.Pointers
import Derived.Handy
import Derived.Laws.EntriesVeiled
namespace Go.Proofs.Ytbikekjcbfhoaaa
open Go.RowKit Go.Bv
set_option linter.unusedVariables false
set_option maxRecDepth 100000 in
set_option maxHeartbeats 8000000 in
theorem sets_unfit_34 (sd : Sd34) (W : World) (s : BitVec 64 × BitVec 64 × BitVec 64 × BitVec 64) (lo : BitVec 64) (a : Option Addr) (n m : Nat) (l : List (BitVec 8)) (hl : BRow W a n m l) (hfit : (BitVec.ofNat 64 n != lo % 8#64) = true) :
    Calls Try.prog 6 #[.int .i64 sd.kind, .agg #[.int .u64 (W64 sd.key.1), .int .u64 (W64 sd.key.2)], .agg #[.int .u64 (W64 (s.1)), .int .u64 (W64 (s.2.1)), .int .u64 (W64 (s.2.2.1)), .int .u64 (W64 (s.2.2.2))], .int .u64 (W64 lo), .slice a n m] W fun e w' => e = .returned (.bool true) ∧ Below W.heap.size W w' := by
  have HB := Lib.hid hl
  have HQB := Lib.hid hl.len_eq
  have HZ := Lib.hid (two_blocks W (.cells #[.int .u64 (W64 sd.key.1), .int .u64 (W64 sd.key.2)] 24) (.cells #[.int .u64 (W64 (s.1)), .int .u64 (W64 (s.2.1)), .int .u64 (W64 (s.2.2.1)), .int .u64 (W64 (s.2.2.2))] 38))
  have HKY := Lib.hid HZ.out.1
  have HLB := Lib.hid HZ.out.2.1
  have HN := Lib.hid HZ.out.2.2
  clear HZ
  have HNW := Lib.hid (fun w => lnew_34 sd w)
  have HA := Lib.hid (fun w => awake34 w)
  have HIS := Lib.hid (is_yes34 sd)
  have HRI := Lib.hid (right34 s)
  have hft3 : (BitVec.ofNat 64 n == lo % 8#64) = false := by revert hfit; cases h : (BitVec.ofNat 64 n == lo % 8#64) <;> simp [bne, h]
  have hft2 : (W64 (BitVec.ofNat 64 n) == W64 (lo % 8#64)) = false := by rw [eq_u64]; exact hft3
  have HFT := Lib.hid hfit
  have HR0 := Lib.hid (fun w => hash_ref34 sd none 0 0 [] w (brow_none w))
  have HSM := Lib.hid (fun p h w hx hs => lsum_34 sd p h [] w hx hs)
  obtain ⟨hh, hhe⟩ : ∃ r, hash34 sd.kd sd.key [] = r := ⟨_, rfl⟩
  rw [hhe] at HR0 HSM
  clear hhe
  clear hl hfit
  go_enter Try.func6, Try.ntmps6
  go_wp2_with fail
  refine (HA.out _).mono ?_
  rintro e w9 ⟨rfl, hn⟩
  replace HKY := Lib.hid ((hn.block _ (lt_of_block HKY.out)).trans HKY.out)
  replace HLB := Lib.hid ((hn.block _ (lt_of_block HLB.out)).trans HLB.out)
  replace HN := Lib.hid (HN.out.trans hn)
  clear hn HA
  by_cases hs : (100 : Int) < (n : Int)
  · go_wp2
    go_ret
    exact ⟨rfl, HN.out⟩
  have hs2 : ¬ (100 : Int) < (n : Int) := by omega
  have HLE : Hid (n ≤ 100) := Lib.hid (by omega)
  clear hs
  go_wp2_with fail
  refine (HIS.out _).mono ?_
  rintro e w9 ⟨rfl, rfl⟩
  have k0 := cell_of_row _ _ 0 _ _ _ HKY.out
  have k1 := cell_of_row _ _ 1 _ _ _ HKY.out
  go_wp2_with fail
  refine (HNW.out _).mono ?_
  rintro e w9 ⟨p, y, rfl, hp, hpy, hx, hs, hn⟩
  have HWP : Hid (W.heap.size + 1 < p) := Lib.hid (Nat.lt_of_lt_of_le (lt_of_block HLB.out) hp)
  have HPY : Hid (p < y) := Lib.hid hpy
  replace HKY := Lib.hid ((hn.block _ (lt_of_block HKY.out)).trans HKY.out)
  replace HLB := Lib.hid ((hn.block _ (lt_of_block HLB.out)).trans HLB.out)
  replace HN := Lib.hid (HN.out.trans hn)
  have HS := Lib.hid hs
  have HX := Lib.hid hx
  clear hs hx hn hp hpy hs2 HNW HIS k0 k1
  have u0 := cell_of_row _ _ 0 _ _ _ HLB.out
  have u1 := cell_of_row _ _ 1 _ _ _ HLB.out
  have u2 := cell_of_row _ _ 2 _ _ _ HLB.out
  have u3 := cell_of_row _ _ 3 _ _ _ HLB.out
  go_wp2_with fail
  refine (HRI.out _).mono ?_
  rintro e w9 ⟨rfl, hn⟩
  replace HS := Lib.hid (HS.out.stay hn)
  replace HKY := Lib.hid ((hn.block _ (lt_of_block HKY.out)).trans HKY.out)
  replace HLB := Lib.hid ((hn.block _ (lt_of_block HLB.out)).trans HLB.out)
  replace HX := Lib.hid ((hn.block _ (lt_of_block HX.out)).trans HX.out)
  replace HN := Lib.hid (HN.out.trans hn)
  clear hn HRI u0 u1 u2 u3
  have u0 := cell_of_row _ _ 0 _ _ _ HLB.out
  have u1 := cell_of_row _ _ 1 _ _ _ HLB.out
  have u2 := cell_of_row _ _ 2 _ _ _ HLB.out
  have u3 := cell_of_row _ _ 3 _ _ _ HLB.out
  go_wp2_with fail
  refine (hset_unfit_34 sd p y _ _ _ _ s lo _ _ _ _ _ HX.out HS.out (HB.out.stay HN.out) HFT.out).mono ?_
  rintro e w9 ⟨rfl, hn⟩
  replace HS := Lib.hid (HS.out.stay hn)
  replace HKY := Lib.hid ((hn.block _ (lt_of_block HKY.out)).trans HKY.out)
  replace HLB := Lib.hid ((hn.block _ (lt_of_block HLB.out)).trans HLB.out)
  replace HX := Lib.hid ((hn.block _ (lt_of_block HX.out)).trans HX.out)
  replace HN := Lib.hid (HN.out.trans hn)
  clear hn u0 u1 u2 u3 hft2 hft3
  have heq := fun w => eqUs w hh.2 hh.1
  go_wp2_with fail
  refine Gro3.wp_region_gro3S (fun w' => w'.heap[W.heap.size]? = some (.cells #[.int .u64 (W64 sd.key.1), .int .u64 (W64 sd.key.2)] 24 (0, 0)) ∧ New w9 w') (fun w' => w'.heap[W.heap.size]? = some (.cells #[.int .u64 (W64 sd.key.1), .int .u64 (W64 sd.key.2)] 24 (0, 0)) ∧ New w9 w') [0, 0, 0, 0, 2, 0, 1, 2, 0, 0, 0, 0, 0, 0, 0, 0, 0, 0, 0, 0, 0, 0, 0, 0] New (fun _ _ _ => True) (by kernel_rfl) (by kernel_rfl) (by kernel_rfl) (fun _ _ _ _ _ _ => trivial) (fun w' hw' => hw') (⟨HKY.out, (New.refl _).drew⟩) ?_
  intro I J _ _ f g hfa hba hgb hbb
  have HFA := Lib.hid hfa
  have HBA := Lib.hid hba
  have HGB := Lib.hid hgb
  have HBB := Lib.hid hbb
  have s0 := fun n => cell_of_row _ _ 0 _ _ _ (hgb n).1
  have s1 := fun n => cell_of_row _ _ 1 _ _ _ (hgb n).1
  clear hfa hba hgb hbb
  refine Gro3.take0 4 (by kernel_rfl) ?_
  simp only [List.take, List.drop, List.length]
  repeat (go_big_quiet_step (fail))
  refine wpQuiet_nil ?_
  refine Gro3.callt (fun v => v = .agg #[.int .u64 (W64 (hh).2), .int .u64 (W64 (hh).1)]) (fun _ _ => True) rfl rfl (⟨_, rfl⟩) (fun _ _ _ _ _ => trivial) (fun w1 hB hG => ?_) (fun v1 A1 hv1 hA => ?_)
  · obtain ⟨nq, rfl⟩ := hB
    clear s0 s1
    go_simp
    refine (HSM.out p y _ (((HGB.out nq).2.block _ (lt_of_block HX.out)).trans HX.out) (HS.out.stay (HGB.out nq).2)).mono ?_
    rintro e w2 ⟨rfl, hn⟩
    have HX := HBB.out _ ⟨(hn.block _ (lt_of_block (HGB.out nq).1)).trans (HGB.out nq).1, (HGB.out nq).2.trans hn⟩
    first | exact ⟨_, rfl, HX, hn, rfl⟩ | exact ⟨_, rfl, HX, hn, rfl, trivial⟩ | exact ⟨rfl, HX, hn⟩ | exact ⟨HX, hn, rfl⟩ | exact ⟨HX, hn⟩
  simp [Act.put] at hA
  subst hA
  obtain rfl := hv1
  refine Gro3.take0 1 (by kernel_rfl) ?_
  simp only [List.take, List.drop, List.length]
  repeat (go_big_quiet_step (fail))
  refine wpQuiet_nil ?_
  refine Gro3.take1 1 (by kernel_rfl) ?_
  simp only [List.take, List.drop, List.length]
  repeat (go_big_quiet_step (fail))
  refine wpQuiet_nil ?_
  refine Gro3.callt (fun v => v = .agg #[.int .u64 (W64 (hh).2), .int .u64 (W64 (hh).1)]) (fun _ _ => True) rfl rfl (⟨_, rfl⟩) (fun _ _ _ _ _ => trivial) (fun w1 hB hG => ?_) (fun v2 A2 hv2 hA => ?_)
  · obtain ⟨nq, rfl⟩ := hB
    clear s0 s1
    go_simp
    refine (HR0.out _).mono ?_
    rintro e w2 ⟨rfl, hn⟩
    have HX := HBB.out _ ⟨(hn.block _ (lt_of_block (HGB.out nq).1)).trans (HGB.out nq).1, (HGB.out nq).2.trans hn⟩
    first | exact ⟨_, rfl, HX, hn, rfl⟩ | exact ⟨_, rfl, HX, hn, rfl, trivial⟩ | exact ⟨rfl, HX, hn⟩ | exact ⟨HX, hn, rfl⟩ | exact ⟨HX, hn⟩
  simp [Act.put] at hA
  subst hA
  obtain rfl := hv2
  refine Gro3.take0 4 (by kernel_rfl) ?_
  simp only [List.take, List.drop, List.length]
  repeat (go_big_quiet_step (fail))
  refine wpQuiet_nil ?_
  refine Gro3.mvskips (.tmp 62) (.bool false) 9 rfl rfl rfl rfl (by kernel_rfl) (fun A3 hA => ?_)
  simp [Act.put, Gro3.skipTo] at hA
  subst hA
  simp only [List.drop]
  refine Gro3.take0 2 (by kernel_rfl) ?_
  simp only [List.take, List.drop, List.length]
  repeat (go_big_quiet_step (fail))
  refine wpQuiet_nil ?_
  refine Gro3.nil ?_
  rintro w9 ⟨n9, rfl⟩ hG
  have hn := (HGB.out n9).2
  clear HFA HBA HGB HBB s0 s1
  replace HN := Lib.hid (HN.out.trans hn)
  clear hn hG HS HX HLB HKY heq HSM HR0
  generalize g n9 = w9 at *
  have HSZ := Lib.hid (hset_n_34 sd (.int .u64 0) (.slice none 0 0) (0#64, 0#64, 0#64, 0#64))
  simp only [show W64 0#64 = 0 by decide] at HSZ
  go_wp2_with fail
  refine (hwrite_n_34 sd _ _).mono ?_
  rintro e w9 ⟨rfl, rfl⟩
  go_wp2_with fail
  refine (hreset_n_34 sd _).mono ?_
  rintro e w9 ⟨rfl, rfl⟩
  go_wp2_with fail
  refine (hlanes_n_34 sd _).mono ?_
  rintro e w9 ⟨rfl, hn⟩
  replace HN := Lib.hid (HN.out.trans hn)
  clear hn
  have hx := heap_alloc_new w9 (.cells #[.int .u64 0, .int .u64 0, .int .u64 0, .int .u64 0] 38)
  have hn2 := (New.refl w9).alloc (.cells #[.int .u64 0, .int .u64 0, .int .u64 0, .int .u64 0] 38)
  go_wp2_with fail
  replace HN := Lib.hid (HN.out.trans hn2)
  generalize w9.alloc (.cells #[.int .u64 0, .int .u64 0, .int .u64 0, .int .u64 0] 38) = w10 at *
  generalize w9.heap.size = qHLZ at *
  have HLZ := Lib.hid hx
  clear hx hn2
  refine (hsum_n_34 sd _).mono ?_
  rintro e w9 ⟨rfl, hn⟩
  replace HLZ := Lib.hid ((hn.block _ (lt_of_block HLZ.out)).trans HLZ.out)
  replace HN := Lib.hid (HN.out.trans hn)
  clear hn
  have hez := eqUz
  go_wp2_with fail
  refine (hclone_n_34 sd _).mono ?_
  rintro e w9 ⟨rfl, rfl⟩
  have z0 := cell_of_row _ _ 0 _ _ _ HLZ.out
  have z1 := cell_of_row _ _ 1 _ _ _ HLZ.out
  have z2 := cell_of_row _ _ 2 _ _ _ HLZ.out
  have z3 := cell_of_row _ _ 3 _ _ _ HLZ.out
  have he4z := eq4zz
  go_wp2_with fail
  refine (HSZ.out _).mono ?_
  rintro e w9 ⟨rfl, hn⟩
  clear z0 z1 z2 z3
  replace HLZ := Lib.hid ((hn.block _ (lt_of_block HLZ.out)).trans HLZ.out)
  replace HN := Lib.hid (HN.out.trans hn)
  clear hn
  go_wp2
  go_ret
  exact ⟨rfl, HN.out⟩
set_option maxRecDepth 100000 in
set_option maxHeartbeats 8000000 in
theorem sets_fit_34 (sd : Sd34) (W : World) (s : BitVec 64 × BitVec 64 × BitVec 64 × BitVec 64) (lo : BitVec 64) (a : Option Addr) (n m : Nat) (l : List (BitVec 8)) (hl : BRow W a n m l) (hfit : (BitVec.ofNat 64 n != lo % 8#64) = false) :
    Calls Try.prog 6 #[.int .i64 sd.kind, .agg #[.int .u64 (W64 sd.key.1), .int .u64 (W64 sd.key.2)], .agg #[.int .u64 (W64 (s.1)), .int .u64 (W64 (s.2.1)), .int .u64 (W64 (s.2.2.1)), .int .u64 (W64 (s.2.2.2))], .int .u64 (W64 lo), .slice a n m] W fun e w' => e = .returned (.bool true) ∧ Below W.heap.size W w' := by
  have HB := Lib.hid hl
  have HQB := Lib.hid hl.len_eq
  have HZ := Lib.hid (two_blocks W (.cells #[.int .u64 (W64 sd.key.1), .int .u64 (W64 sd.key.2)] 24) (.cells #[.int .u64 (W64 (s.1)), .int .u64 (W64 (s.2.1)), .int .u64 (W64 (s.2.2.1)), .int .u64 (W64 (s.2.2.2))] 38))
  have HKY := Lib.hid HZ.out.1
  have HLB := Lib.hid HZ.out.2.1
  have HN := Lib.hid HZ.out.2.2
  clear HZ
  have HNW := Lib.hid (fun w => lnew_34 sd w)
  have HA := Lib.hid (fun w => awake34 w)
  have HIS := Lib.hid (is_yes34 sd)
  have HRI := Lib.hid (right34 s)
  have hft3 : (BitVec.ofNat 64 n == lo % 8#64) = true := by revert hfit; cases h : (BitVec.ofNat 64 n == lo % 8#64) <;> simp [bne, h]
  have hft2 : (W64 (BitVec.ofNat 64 n) == W64 (lo % 8#64)) = true := by rw [eq_u64]; exact hft3
  have HFT := Lib.hid hfit
  have hn8 : n % 18446744073709551616 < 8 := by
    have h1 := congrArg BitVec.toNat (eq_of_beq hft3)
    rw [BitVec.toNat_ofNat, BitVec.toNat_umod] at h1
    have h2 : (8#64 : BitVec 64).toNat = 8 := by decide
    rw [h2] at h1
    have h3 := Nat.mod_lt lo.toNat (show 0 < 8 by decide)
    omega
  have hn9 : n < 8 := by
    have := hl.most
    omega
  have HEN := Lib.hid (fun w (h : BRow w a n m l) => end_ref34 sd s a n m l hn9 lo w h)
  have HSM := Lib.hid (fun p h fs w hx hs => hsum_34 sd p h fs s l lo w hx hs)
  obtain ⟨hh, hhe⟩ : ∃ r, end34 sd.kd s l lo = r := ⟨_, rfl⟩
  rw [hhe] at HEN HSM
  clear hhe hn8 hn9
  clear hl hfit
  go_enter Try.func6, Try.ntmps6
  go_wp2_with fail
  refine (HA.out _).mono ?_
  rintro e w9 ⟨rfl, hn⟩
  replace HKY := Lib.hid ((hn.block _ (lt_of_block HKY.out)).trans HKY.out)
  replace HLB := Lib.hid ((hn.block _ (lt_of_block HLB.out)).trans HLB.out)
  replace HN := Lib.hid (HN.out.trans hn)
  clear hn HA
  by_cases hs : (100 : Int) < (n : Int)
  · go_wp2
    go_ret
    exact ⟨rfl, HN.out⟩
  have hs2 : ¬ (100 : Int) < (n : Int) := by omega
  have HLE : Hid (n ≤ 100) := Lib.hid (by omega)
  clear hs
  go_wp2_with fail
  refine (HIS.out _).mono ?_
  rintro e w9 ⟨rfl, rfl⟩
  have k0 := cell_of_row _ _ 0 _ _ _ HKY.out
  have k1 := cell_of_row _ _ 1 _ _ _ HKY.out
  go_wp2_with fail
  refine (HNW.out _).mono ?_
  rintro e w9 ⟨p, y, rfl, hp, hpy, hx, hs, hn⟩
  have HWP : Hid (W.heap.size + 1 < p) := Lib.hid (Nat.lt_of_lt_of_le (lt_of_block HLB.out) hp)
  have HPY : Hid (p < y) := Lib.hid hpy
  replace HKY := Lib.hid ((hn.block _ (lt_of_block HKY.out)).trans HKY.out)
  replace HLB := Lib.hid ((hn.block _ (lt_of_block HLB.out)).trans HLB.out)
  replace HN := Lib.hid (HN.out.trans hn)
  have HS := Lib.hid hs
  have HX := Lib.hid hx
  clear hs hx hn hp hpy hs2 HNW HIS k0 k1
  have u0 := cell_of_row _ _ 0 _ _ _ HLB.out
  have u1 := cell_of_row _ _ 1 _ _ _ HLB.out
  have u2 := cell_of_row _ _ 2 _ _ _ HLB.out
  have u3 := cell_of_row _ _ 3 _ _ _ HLB.out
  go_wp2_with fail
  refine (HRI.out _).mono ?_
  rintro e w9 ⟨rfl, hn⟩
  replace HS := Lib.hid (HS.out.stay hn)
  replace HKY := Lib.hid ((hn.block _ (lt_of_block HKY.out)).trans HKY.out)
  replace HLB := Lib.hid ((hn.block _ (lt_of_block HLB.out)).trans HLB.out)
  replace HX := Lib.hid ((hn.block _ (lt_of_block HX.out)).trans HX.out)
  replace HN := Lib.hid (HN.out.trans hn)
  clear hn HRI u0 u1 u2 u3
  have u0 := cell_of_row _ _ 0 _ _ _ HLB.out
  have u1 := cell_of_row _ _ 1 _ _ _ HLB.out
  have u2 := cell_of_row _ _ 2 _ _ _ HLB.out
  have u3 := cell_of_row _ _ 3 _ _ _ HLB.out
  go_wp2_with fail
  refine (hset_fit_34 sd p y _ _ _ _ s lo _ _ _ _ _ HX.out HS.out (HB.out.stay HN.out) HFT.out).mono ?_
  rintro e w9 ⟨rfl, hs, hb⟩
  clear u0 u1 u2 u3 hft2 hft3
  have hnb := HS.out.noBytes
  replace HLB := Lib.hid (hb.keep (by have := HWP.out; omega) HLB.out)
  replace HKY := Lib.hid (hb.keep (by have := HWP.out; omega) HKY.out)
  replace HX := Lib.hid (hb.keep (by have := HPY.out; omega) HX.out)
  replace HN := Lib.hid (hb.new _ HN.out (by have := HWP.out; omega))
  clear HS
  have HS := Lib.hid hs
  clear hs hb hnb
  have heq := fun w => eqUs w hh.2 hh.1
  go_wp2_with fail
  refine Gro3.wp_region_gro3S (fun w' => w'.heap[W.heap.size]? = some (.cells #[.int .u64 (W64 sd.key.1), .int .u64 (W64 sd.key.2)] 24 (0, 0)) ∧ w'.heap[W.heap.size + 1]? = some (.cells #[.int .u64 (W64 (s.1)), .int .u64 (W64 (s.2.1)), .int .u64 (W64 (s.2.2.1)), .int .u64 (W64 (s.2.2.2))] 38 (0, 0)) ∧ New w9 w') (fun w' => w'.heap[W.heap.size]? = some (.cells #[.int .u64 (W64 sd.key.1), .int .u64 (W64 sd.key.2)] 24 (0, 0)) ∧ w'.heap[W.heap.size + 1]? = some (.cells #[.int .u64 (W64 (s.1)), .int .u64 (W64 (s.2.1)), .int .u64 (W64 (s.2.2.1)), .int .u64 (W64 (s.2.2.2))] 38 (0, 0)) ∧ New w9 w') [0, 0, 0, 0, 0, 0, 0, 0, 0, 0, 0, 0, 0, 0, 2, 0, 1, 1, 0, 0, 2, 0, 0, 0] New (fun _ _ _ => True) (by kernel_rfl) (by kernel_rfl) (by kernel_rfl) (fun _ _ _ _ _ _ => trivial) (fun w' hw' => hw') (⟨HKY.out, HLB.out, (New.refl _).drew⟩) ?_
  intro I J _ _ f g hfa hba hgb hbb
  have HFA := Lib.hid hfa
  have HBA := Lib.hid hba
  have HGB := Lib.hid hgb
  have HBB := Lib.hid hbb
  have s0 := fun n => cell_of_row _ _ 0 _ _ _ (hgb n).1
  have s1 := fun n => cell_of_row _ _ 1 _ _ _ (hgb n).1
  have s2 := fun n => cell_of_row _ _ 0 _ _ _ (hgb n).2.1
  have s3 := fun n => cell_of_row _ _ 1 _ _ _ (hgb n).2.1
  have s4 := fun n => cell_of_row _ _ 2 _ _ _ (hgb n).2.1
  have s5 := fun n => cell_of_row _ _ 3 _ _ _ (hgb n).2.1
  clear hfa hba hgb hbb
  refine Gro3.take0 3 (by kernel_rfl) ?_
  simp only [List.take, List.drop, List.length]
  repeat (go_big_quiet_step (fail))
  refine wpQuiet_nil ?_
  refine Gro3.skip rfl (fun A1 hA => ?_)
  simp [Act.put] at hA
  subst hA
  refine Gro3.skip rfl (fun A2 hA => ?_)
  simp [Act.put] at hA
  subst hA
  refine Gro3.skip rfl (fun A3 hA => ?_)
  simp [Act.put] at hA
  subst hA
  refine Gro3.skip rfl (fun A4 hA => ?_)
  simp [Act.put] at hA
  subst hA
  refine Gro3.skip rfl (fun A5 hA => ?_)
  simp [Act.put] at hA
  subst hA
  refine Gro3.skip rfl (fun A6 hA => ?_)
  simp [Act.put] at hA
  subst hA
  refine Gro3.take0 5 (by kernel_rfl) ?_
  simp only [List.take, List.drop, List.length]
  repeat (go_big_quiet_step (fail))
  refine wpQuiet_nil ?_
  refine Gro3.callt (fun v => v = .agg #[.int .u64 (W64 (hh).2), .int .u64 (W64 (hh).1)]) (fun _ _ => True) rfl rfl (⟨_, rfl⟩) (fun _ _ _ _ _ => trivial) (fun w1 hB hG => ?_) (fun v7 A7 hv7 hA => ?_)
  · obtain ⟨nq, rfl⟩ := hB
    clear s0 s1 s2 s3 s4 s5
    go_simp
    refine (HSM.out p y _ _ (((HGB.out nq).2.2.block _ (lt_of_block HX.out)).trans HX.out) (HS.out.stay (HGB.out nq).2.2)).mono ?_
    rintro e w2 ⟨rfl, hn⟩
    have HX := HBB.out _ ⟨(hn.block _ (lt_of_block (HGB.out nq).1)).trans (HGB.out nq).1, (hn.block _ (lt_of_block (HGB.out nq).2.1)).trans (HGB.out nq).2.1, (HGB.out nq).2.2.trans hn⟩
    first | exact ⟨_, rfl, HX, hn, rfl⟩ | exact ⟨_, rfl, HX, hn, rfl, trivial⟩ | exact ⟨rfl, HX, hn⟩ | exact ⟨HX, hn, rfl⟩ | exact ⟨HX, hn⟩
  simp [Act.put] at hA
  subst hA
  obtain rfl := hv7
  refine Gro3.take0 1 (by kernel_rfl) ?_
  simp only [List.take, List.drop, List.length]
  repeat (go_big_quiet_step (fail))
  refine wpQuiet_nil ?_
  refine Gro3.take1 2 (by kernel_rfl) ?_
  simp only [List.take, List.drop, List.length]
  repeat (go_big_quiet_step (fail))
  refine wpQuiet_nil ?_
  refine Gro3.take0 2 (by kernel_rfl) ?_
  simp only [List.take, List.drop, List.length]
  repeat (go_big_quiet_step (fail))
  refine wpQuiet_nil ?_
  refine Gro3.callt (fun v => v = .agg #[.int .u64 (W64 (hh).2), .int .u64 (W64 (hh).1)]) (fun _ _ => True) rfl rfl (⟨_, rfl⟩) (fun _ _ _ _ _ => trivial) (fun w1 hB hG => ?_) (fun v8 A8 hv8 hA => ?_)
  · obtain ⟨nq, rfl⟩ := hB
    clear s0 s1 s2 s3 s4 s5
    go_simp
    refine (HEN.out _ ((HB.out.stay HN.out).stay (HGB.out nq).2.2)).mono ?_
    rintro e w2 ⟨rfl, hn⟩
    have HX := HBB.out _ ⟨(hn.block _ (lt_of_block (HGB.out nq).1)).trans (HGB.out nq).1, (hn.block _ (lt_of_block (HGB.out nq).2.1)).trans (HGB.out nq).2.1, (HGB.out nq).2.2.trans hn⟩
    first | exact ⟨_, rfl, HX, hn, rfl⟩ | exact ⟨_, rfl, HX, hn, rfl, trivial⟩ | exact ⟨rfl, HX, hn⟩ | exact ⟨HX, hn, rfl⟩ | exact ⟨HX, hn⟩
  simp [Act.put] at hA
  subst hA
  obtain rfl := hv8
  refine Gro3.take0 3 (by kernel_rfl) ?_
  simp only [List.take, List.drop, List.length]
  repeat (go_big_quiet_step (fail))
  refine wpQuiet_nil ?_
  refine Gro3.nil ?_
  rintro w9 ⟨n9, rfl⟩ hG
  have hn := (HGB.out n9).2.2
  clear HFA HBA HGB HBB s0 s1 s2 s3 s4 s5
  replace HN := Lib.hid (HN.out.trans hn)
  clear hn hG HS HX HLB HKY heq HSM HEN
  generalize g n9 = w9 at *
  have HSZ := Lib.hid (hset_n_34 sd (.int .u64 0) (.slice none 0 0) (0#64, 0#64, 0#64, 0#64))
  simp only [show W64 0#64 = 0 by decide] at HSZ
  go_wp2_with fail
  refine (hwrite_n_34 sd _ _).mono ?_
  rintro e w9 ⟨rfl, rfl⟩
  go_wp2_with fail
  refine (hreset_n_34 sd _).mono ?_
  rintro e w9 ⟨rfl, rfl⟩
  go_wp2_with fail
  refine (hlanes_n_34 sd _).mono ?_
  rintro e w9 ⟨rfl, hn⟩
  replace HN := Lib.hid (HN.out.trans hn)
  clear hn
  have hx := heap_alloc_new w9 (.cells #[.int .u64 0, .int .u64 0, .int .u64 0, .int .u64 0] 38)
  have hn2 := (New.refl w9).alloc (.cells #[.int .u64 0, .int .u64 0, .int .u64 0, .int .u64 0] 38)
  go_wp2_with fail
  replace HN := Lib.hid (HN.out.trans hn2)
  generalize w9.alloc (.cells #[.int .u64 0, .int .u64 0, .int .u64 0, .int .u64 0] 38) = w10 at *
  generalize w9.heap.size = qHLZ at *
  have HLZ := Lib.hid hx
  clear hx hn2
  refine (hsum_n_34 sd _).mono ?_
  rintro e w9 ⟨rfl, hn⟩
  replace HLZ := Lib.hid ((hn.block _ (lt_of_block HLZ.out)).trans HLZ.out)
  replace HN := Lib.hid (HN.out.trans hn)
  clear hn
  have hez := eqUz
  go_wp2_with fail
  refine (hclone_n_34 sd _).mono ?_
  rintro e w9 ⟨rfl, rfl⟩
  have z0 := cell_of_row _ _ 0 _ _ _ HLZ.out
  have z1 := cell_of_row _ _ 1 _ _ _ HLZ.out
  have z2 := cell_of_row _ _ 2 _ _ _ HLZ.out
  have z3 := cell_of_row _ _ 3 _ _ _ HLZ.out
  have he4z := eq4zz
  go_wp2_with fail
  refine (HSZ.out _).mono ?_
  rintro e w9 ⟨rfl, hn⟩
  clear z0 z1 z2 z3
  replace HLZ := Lib.hid ((hn.block _ (lt_of_block HLZ.out)).trans HLZ.out)
  replace HN := Lib.hid (HN.out.trans hn)
  clear hn
  go_wp2
  go_ret
  exact ⟨rfl, HN.out⟩
theorem sets_y34 (sd : Sd34) (W : World) (x2_0 : BitVec 64) (x2_1 : BitVec 64) (x2_2 : BitVec 64) (x2_3 : BitVec 64) (a3 : Int) (w3 : (Lit.int .u64 a3).wf = true) (a4 : Option Addr) (n4 m4 : Nat) (z4 : List Int) (w4 : IRow .u8 W a4 n4 m4 z4) (r4 : m4 * 1 ≤ 140737488351232) :
    Calls Try.prog 6 #[.int .i64 sd.kind, .agg #[.int .u64 (W64 sd.key.1), .int .u64 (W64 sd.key.2)], .agg #[.int .u64 (W64 x2_0), .int .u64 (W64 x2_1), .int .u64 (W64 x2_2), .int .u64 (W64 x2_3)], .int .u64 a3, .slice a4 n4 m4] W fun e w' => e = .returned (.bool true) ∧ Below W.heap.size W w' := by
  obtain ⟨lo, rfl⟩ := ex64 a3 (by simp [Lit.wf, IntKind.min, IntKind.max, IntKind.signed, IntKind.bits] at w3; omega)
  obtain ⟨l3, hl3⟩ := w4.bytes r4
  cases hf : (BitVec.ofNat 64 n4 != lo % 8#64) with
  | false => exact sets_fit_34 sd W (x2_0, x2_1, x2_2, x2_3) lo a4 n4 m4 l3 hl3 hf
  | true => exact sets_unfit_34 sd W (x2_0, x2_1, x2_2, x2_3) lo a4 n4 m4 l3 hl3 hf
set_option maxRecDepth 100000 in
set_option maxHeartbeats 2000000 in
theorem sets_no34 (W : World) (a0 : Int) (hk : ¬ (6 ≤ a0 ∧ a0 ≤ 8)) (kh kl : BitVec 64) (x2_0 : BitVec 64) (x2_1 : BitVec 64) (x2_2 : BitVec 64) (x2_3 : BitVec 64) (a3 : Int) (w3 : (Lit.int .u64 a3).wf = true) (a4 : Option Addr) (n4 m4 : Nat) (z4 : List Int) (w4 : IRow .u8 W a4 n4 m4 z4) (r4 : m4 * 1 ≤ 140737488351232) :
    Calls Try.prog 6 #[.int .i64 a0, .agg #[.int .u64 (W64 kh), .int .u64 (W64 kl)], .agg #[.int .u64 (W64 x2_0), .int .u64 (W64 x2_1), .int .u64 (W64 x2_2), .int .u64 (W64 x2_3)], .int .u64 a3, .slice a4 n4 m4] W fun e w' => e = .returned (.bool true) ∧ Below W.heap.size W w' := by
  have HA := Lib.hid awake34
  have HIS := Lib.hid (is_no34 a0 hk)
  have HN := Lib.hid ((New.refl W).alloc (.cells #[.int .u64 (W64 kh), .int .u64 (W64 kl)] 24))
  replace HN := Lib.hid (HN.out.alloc (.cells #[.int .u64 (W64 x2_0), .int .u64 (W64 x2_1), .int .u64 (W64 x2_2), .int .u64 (W64 x2_3)] 38))
  clear hk
  go_enter Try.func6, Try.ntmps6
  go_wp2_with fail
  refine (HA.out _).mono ?_
  rintro e w9 ⟨rfl, hn⟩
  replace HN := Lib.hid (HN.out.trans hn)
  clear hn HA
  by_cases hs_n4 : (100 : Int) < (n4 : Int)
  · go_wp2
    go_ret
    exact ⟨rfl, HN.out⟩
  go_wp2_with fail
  refine (HIS.out _).mono ?_
  rintro e w9 ⟨rfl, rfl⟩
  go_wp2
  go_ret
  exact ⟨rfl, HN.out⟩
theorem SipSets_walk (W : World) (a0 : Int) (w0 : (Lit.int .i64 a0).wf = true) (x1_0 : BitVec 64) (x1_1 : BitVec 64) (x2_0 : BitVec 64) (x2_1 : BitVec 64) (x2_2 : BitVec 64) (x2_3 : BitVec 64) (a3 : Int) (w3 : (Lit.int .u64 a3).wf = true) (a4 : Option Addr) (n4 m4 : Nat) (z4 : List Int) (w4 : IRow .u8 W a4 n4 m4 z4) (r4 : m4 * 1 ≤ 140737488351232) :
    Calls Try.prog 6 #[.int .i64 a0, .agg #[.int .u64 (W64 x1_0), .int .u64 (W64 x1_1)], .agg #[.int .u64 (W64 x2_0), .int .u64 (W64 x2_1), .int .u64 (W64 x2_2), .int .u64 (W64 x2_3)], .int .u64 a3, .slice a4 n4 m4] W fun e w' => e = .returned (.bool true) ∧ Below W.heap.size W w' := by
  by_cases hk : 6 ≤ a0 ∧ a0 ≤ 8
  · have h3 : a0 = 6 ∨ a0 = 7 ∨ a0 = 8 := by omega
    rcases h3 with rfl | rfl | rfl
    · exact sets_y34 ⟨6, (2, 4, false), Or.inl ⟨rfl, rfl⟩, (x1_0, x1_1)⟩ W x2_0 x2_1 x2_2 x2_3 a3 w3 a4 n4 m4 z4 w4 r4
    · exact sets_y34 ⟨7, (1, 3, false), Or.inr (Or.inl ⟨rfl, rfl⟩), (x1_0, x1_1)⟩ W x2_0 x2_1 x2_2 x2_3 a3 w3 a4 n4 m4 z4 w4 r4
    · exact sets_y34 ⟨8, (2, 4, true), Or.inr (Or.inr ⟨rfl, rfl⟩), (x1_0, x1_1)⟩ W x2_0 x2_1 x2_2 x2_3 a3 w3 a4 n4 m4 z4 w4 r4
  · exact sets_no34 W a0 hk x1_0 x1_1 x2_0 x2_1 x2_2 x2_3 a3 w3 a4 n4 m4 z4 w4 r4
end Go.Proofs.Ytbikekjcbfhoaaa
